import Derived.Test.YthgggjdefhgfiaaNLook
namespace Go.Proofs.Ythgggjdefhgfiaa
open Go.RowKit

/-- One block has turned. -/
structure But1 (g : Nat) (w w' : World) : Prop where
  os : w'.os = w.os
  tape : w'.tape = w.tape
  output : w'.output = w.output
  size : w'.heap.size = w.heap.size
  block : ∀ b, b ≠ g → w'.heap[b]? = w.heap[b]?
theorem But1.sets {g : Nat} {w : World} : ∀ (vs : List Value) (i : Nat) (w' : World), But1 g w w' → But1 g w (w'.setCells g i vs)
  | [], _, _, h => h
  | v :: vs, i, w', h => But1.sets vs (i + 1) _ ⟨h.os, h.tape, h.output, by simpa [World.setCell] using h.size, fun b hb => (Below.heap_setCell _ _ _ _ hb).trans (h.block b hb)⟩
theorem But1.kp {g : Nat} {w w' : World} (h : But1 g w w') {p : Nat × Nat → Prop} {K : Knd} (hp : p (K g)) : Kp p K K w w' :=
  ⟨h.os, h.tape, h.output, by rw [h.size]; exact Nat.le_refl _, fun _ _ => rfl, fun b _ hn => h.block b (by rintro rfl; exact hn hp)⟩
theorem Delete_kn (w : World) (g n c i : Nat) (cur : Array Value) (l : List Ms) (hg : w.heap[g]? = some (.cells cur 101 (0, 0))) (hl : l.length = n) (hc : n ≤ c) (hm : c ≤ maxLen) (hs : cur.size = c * 2) (ht : cur.toList.take (n * 2) = msv l) (hi : i < n) :
    Calls Try.prog 51 #[.slice (some ⟨g, 0, none⟩) n c, .int .i64 i, .int .i64 ((i : Int) + 1)] w fun e w' => e = .returned (.slice (some ⟨g, 0, none⟩) (n - 1) c) ∧ But1 g w w' ∧ ∃ cur', w'.heap[g]? = some (.cells cur' 101 (0, 0)) ∧ cur'.size = c * 2 ∧ cur'.toList.take ((n - 1) * 2) = msv (l.take i ++ l.drop (i + 1)) :=
  (Delete_any w g n c i cur l hg hl hc hm hs ht hi).mono fun e w' ⟨h1, w1, cur', h2, h3, h4⟩ => ⟨h1, by
    rw [h2, h3]
    exact But1.sets _ _ _ (But1.sets _ _ _ ⟨rfl, rfl, rfl, rfl, fun _ _ => rfl⟩), cur', h4⟩

def Nt.dropped (N : Nt) (i : Int) : Nt := if N.has i = true then N.drop i.toNat else N
set_option maxRecDepth 100000 in
set_option maxHeartbeats 1000000 in
theorem Drop_any (w : World) (K : Knd) (o nb : Nat) (N : Nt) (h : Nk w K o nb N) (hL : N.row.length ≤ 8192) (i : Int) :
    Calls Try.prog 31 #[.pointer (some ⟨nb, 0, none⟩), .int .i64 i] w fun e w' => e = .returned (.bool (N.has i)) ∧ Nk w' K o nb (N.dropped i) ∧ Kp (PNet o) K K w w' := by
  have HH := hide (has_any w _ _ _ _ h i)
  by_cases hx : N.has i = true
  · have HE : Hid (N.has i = true ∧ N.dropped i = N.drop i.toNat) := ⟨hx, by unfold Nt.dropped; rw [if_pos hx]⟩
    obtain ⟨k, m, rfl, hk, hm⟩ := has_true hx
    rw [hx] at HH
    obtain ⟨rv, hw⟩ := h
    obtain ⟨a, c, hrv, _, _⟩ := hw.row.form
    subst hrv
    obtain ⟨g, rfl, c1, c2, c3, c4, c5, c6, cur, c7, c8, c9⟩ := nrow_cells hw.row.own hm
    have hblk := hw.blk
    unfold ncells at hblk
    obtain ⟨y0, y1, y2, yf⟩ := blk3 hblk
    have hnl := lt_of_block hblk
    have HD := hide (Delete_kn w g N.row.length c k cur N.row c7 rfl c1 c3 c8 c9 c2)
    have HW := hide hw
    have HBk := hide hblk
    have HKg : Hid (K g = (o, 2)) := hw.row.kind g rfl
    have hng : nb ≠ g := by
      rintro rfl
      rw [hblk] at c7
      simp at c7
    have HC : Hid (g < w.heap.size ∧ c ≤ maxLen) := ⟨c6, c3⟩
    generalize hLe : N.row.length = L at *
    have HLe := hide hLe
    clear hw hblk hm hx hk c4 c5 c7 c8 c9 hLe
    go_enter Try.func31, Try.ntmps31
    go_wp2_with (first | (go_at_call 44; refine HH.out.mono ?_; rintro e w9 ⟨rfl, h9⟩; have h9 := h9.symm; subst h9) | (go_at_call 51; refine HD.out.mono ?_; rintro e w2 ⟨rfl, hbt, cur', d1, d2, d3⟩; have HX := hide hbt; have HD1 := hide d1; have HD2 := hide d2; have HD3 := hide d3; have hblk2 := (hbt.block nb hng).trans HBk.out; have HBk2 := hide hblk2; obtain ⟨z0, z1, z2, zf⟩ := blk3 hblk2; have hnl2 := lt_of_block hblk2; clear hbt d1 d2 d3 hblk2))
    go_ret
    have hw := HW.out
    have kp2 : Kp (PNet o) K K w w2 := HX.out.kp (Or.inr HKg.out)
    refine ⟨by rw [HE.out.1]; rfl, ?_, kp2.setCell (Or.inr (Or.inl hw.kn)) _ _⟩
    rw [HE.out.2]
    refine ⟨.slice (some ⟨g, 0, none⟩) (L - 1) c, ?_, hw.kn, ⟨?_, fun g2 e => ?_⟩⟩
    · rw [block_set HBk2.out]; rfl
    · have hl : (N.drop ((k : Nat) : Int).toNat).row.length = L - 1 := by
        show (N.row.take _ ++ N.row.drop _).length = _
        simp [HLe.out]; omega
      rw [hl]
      refine ⟨by rw [msv_len, hl], Or.inr ⟨g, c, cur', rfl, Nat.zero_le _, (Below.heap_setCell _ _ _ _ (by exact fun e => hng e.symm)).trans HD1.out, by omega, HC.out.2, HD2.out, ?_⟩⟩
      rw [HD3.out]
      rfl
    · simp [Value.ownBlock] at e
      subst e
      exact HKg.out
  · have hxf : N.has i = false := by simpa using hx
    have HE : Hid (N.has i = false ∧ N.dropped i = N) := ⟨hxf, by unfold Nt.dropped; rw [if_neg hx]⟩
    rw [hxf] at HH
    have HN := hide h
    clear hxf hx h
    go_enter Try.func31, Try.ntmps31
    go_wp2_with (go_at_call 44; refine HH.out.mono ?_; rintro e w2 ⟨rfl, rfl⟩)
    go_ret
    exact ⟨by rw [HE.out.1]; rfl, by rw [HE.out.2]; exact HN.out, Kp.refl _ _ _⟩

end Go.Proofs.Ythgggjdefhgfiaa
