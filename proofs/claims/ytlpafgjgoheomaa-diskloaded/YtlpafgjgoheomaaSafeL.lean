import Derived.Test.YtlpafgjgoheomaaBegins
import Derived.Test.YtlpafgjgoheomaaOpn
namespace Go.Proofs.Ytlpafgjgoheomaa
open Go.RowKit Go.Maps

theorem lit5 (w : World) (a b c d e : Nat) (h : a < 256 ∧ b < 256 ∧ c < 256 ∧ d < 256 ∧ e < 256) (fr : Nat × Nat) : Bytes (w.alloc (.cells #[.int .u8 a, .int .u8 b, .int .u8 c, .int .u8 d, .int .u8 e] 5 fr)) (some ⟨w.heap.size, 0, none⟩) [a, b, c, d, e] := by
  have key : ∀ (w3 : World) (g j : Nat), j < 5 → w3.heap[g]? = some (.cells #[.int .u8 a, .int .u8 b, .int .u8 c, .int .u8 d, .int .u8 e] 5 fr) → w3.cell? ⟨g, 0 + j, none⟩ = some (.int .u8 (([a, b, c, d, e].getD j 0 : Nat) : Int)) := fun w3 g j hj hb => by
    have h3 : j = 0 ∨ j = 1 ∨ j = 2 ∨ j = 3 ∨ j = 4 := by omega
    rcases h3 with e | e | e | e | e <;> (subst e; simp [World.cell?, hb, List.getD])
  refine ⟨fun u hu => ?_, Or.inr ⟨w.heap.size, 0, rfl, by simp, fun j hj => key _ _ j (by simpa using hj) (heap_alloc_new _ _)⟩⟩
  simp only [List.mem_cons, List.not_mem_nil, or_false] at hu
  rcases hu with e | e | e | e | e <;> (subst e; omega)
/-- The append of DiskSafe. -/
def sOp (g : Nat) : Opm := ⟨⟨1, 0, [115, 97, 102, 101], [], [98, 121, 116, 101, 115]⟩, 0, some ⟨g, 0, none⟩, 5, 0, 0, 0, none, 0, 0⟩
/-- One disk and what lies beside. -/
structure L1 (W w : World) (K : Knd) (d : Nat) (S : St) (k : Nat) (bx : Obj) : Prop where
  dk : Dk w K 1 d S
  inv : Inv S
  sz : Sz S k
  old : ∀ b, b < W.heap.size → K b = (0, 0)
  bel : Below W.heap.size W w
  box : w.heap[W.heap.size]? = some bx
  kbx : K W.heap.size = (0, 0)
theorem L1.below {W w w' : World} {K : Knd} {d : Nat} {S : St} {k : Nat} {bx : Obj} (h : L1 W w K d S k bx) (hb : Below w.heap.size w w') : L1 W w' (ext K w.heap.size (0, 0)) d S k bx :=
  have kb := kp_below hb (fun _ => False) K (0, 0)
  have hl := lt_of_block h.box
  ⟨h.dk.kept kb (fun _ h => h), h.inv, h.sz, fun b hb => (kb.same b (Nat.lt_of_lt_of_le hb h.bel.size)).trans (h.old b hb), kb.below h.bel (fun _ _ h => h), (kb.block _ hl (fun h => h)).trans h.box, (kb.same _ hl).trans h.kbx⟩
theorem L1.played {W w w' : World} {K K' : Knd} {d : Nat} {S S' : St} {k k' : Nat} {bx : Obj} (h : L1 W w K d S k bx) (hd : Dk w' K' 1 d S') (hv : Inv S') (hz : Sz S' k') (hk : Kp (Ow 1) K K' w w') : L1 W w' K' d S' k' bx :=
  have hl := lt_of_block h.box
  ⟨hd, hv, hz, fun b hb => (hk.same b (Nat.lt_of_lt_of_le hb h.bel.size)).trans (h.old b hb), hk.below h.bel (fun b hb => by rw [h.old b hb]; simp), (hk.block _ hl (by rw [h.kbx]; simp)).trans h.box, (hk.same _ hl).trans h.kbx⟩
theorem L1.mono {W w : World} {K : Knd} {d : Nat} {S : St} {k k' : Nat} {bx : Obj} (h : L1 W w K d S k bx) (hk : k ≤ k') : L1 W w K d S k' bx := ⟨h.dk, h.inv, h.sz.mono hk, h.old, h.bel, h.box, h.kbx⟩
theorem L1.drewN {W w : World} {K : Knd} {d : Nat} {S : St} {k : Nat} {bx : Obj} (h : L1 W w K d S k bx) (n : Nat) : L1 W (w.drewN n) K d S k bx :=
  have kb := (Kp.refl (Ow 1) K w).drewN n
  h.played (h.dk.kept ((Kp.refl (fun _ => False) K w).drewN n) (fun _ h => h)) h.inv h.sz kb

theorem few_opk1 {W w w' : World} {K : Knd} {a : Option Addr} {n c : Nat} {fo : List Opm} (hB : Below W.heap.size W w) (hK : ∀ x, x < W.heap.size → K x = (0, 0)) (hb : Below w.heap.size w w') (hr : w'.ownsRow w.heap.size 57 10 (.slice a n c) n (opvs fo)) (hn : fo.length = n) (hok : ∀ q ∈ fo, OpOk W K0 q) : Opk w' (ext K w.heap.size (0, 0)) a n c fo := by
  have hs := hB.size
  have hB2 := hB.trans (hb.mono hs)
  have hkp : Kp (fun _ => False) K0 (ext K w.heap.size (0, 0)) W w' := ⟨hB2.os, hB2.tape, hB2.output, hB2.size, fun b hb => by rw [ext_old _ _ (by omega), hK b hb], fun b hb _ => hB2.block b hb⟩
  refine ⟨⟨⟨hr.1, hr.2.imp id ?_⟩, fun g e => ?_⟩, hn, fun q hq => (hok q hq).kept (p := fun _ => False) hkp (fun h => h)⟩
  · rintro ⟨g, cap, cur, h1, _, r⟩
    exact ⟨g, cap, cur, h1, Nat.zero_le _, r⟩
  · refine ext_new _ _ ?_
    rcases hr.2 with ⟨e1, _⟩ | ⟨g2, _, _, e1, e2, _⟩
    · rw [e1] at e; simp [Value.ownBlock] at e
    · rw [e1] at e; simp [Value.ownBlock] at e; omega
/-- Behind an append that has room something is seen. -/
theorem app_some {S : St} (hf : Free S) (x : Nm) (b : List Nat) (hx : isNm x = true) (hu : S.used + b.length ≤ S.room) : (S.appendR x b).2.seen ≠ [] := by
  have hfull : S.stroked.full b.length = false := by
    rw [hf.stroked.full]
    have : ¬ S.room < b.length + S.used := by omega
    exact decide_eq_false this
  unfold St.appendR
  rw [hf.off, hx, hfull]
  simp only [Bool.false_eq_true, if_false, Bool.true_eq_false, false_or]
  split
  · rename_i h
    intro e
    have h2 : S.seen = [] := e
    rw [h2] at h
    have := h.2
    simp at this
  · cases hl : lookN S.seen x with
    | some i =>
      intro e
      have h2 : S.seen = [] := e
      rw [h2] at hl
      simp [lookN] at hl
    | none =>
      intro e
      have h2 : withN S.seen ⟨[], x, S.files.length⟩ = [] := e
      have hx0 : x ≠ [] := by rintro rfl; have := (nm_len hx).1; simp at this
      have hm : (x, S.files.length) ∈ withN S.seen ⟨[], x, S.files.length⟩ := by
        unfold withN
        rw [if_neg hx0]
        exact mem_put.2 (Or.inl rfl)
      rw [h2] at hm
      cases hm

theorem find_mem {img : Image} {x : Nm} {d : List Nat} (h : imgFind img x = some d) : ∃ e ∈ img, e.2 = d := by
  unfold imgFind at h
  cases hf : img.find? (fun p => p.1 == x) with
  | none => rw [hf] at h; cases h
  | some e => rw [hf] at h; exact ⟨e, List.mem_of_find?_eq_some hf, Option.some.inj h⟩
theorem Ad.was2 {S0 S : St} (h : Ad S0 S) (hv : Inv S) (h0 : S0.off = false) (ps : List Int) {p : Nm × List Nat} (hp : p ∈ S0.image) : ∃ t, imgFind (S.crash ps) p.1 = some (p.2 ++ t) := by
  unfold St.image at hp
  rw [h0] at hp
  simp only [Bool.false_eq_true, if_false, List.mem_map] at hp
  obtain ⟨q, hq, e⟩ := hp
  subst e
  exact h.was hv ps hq

end Go.Proofs.Ytlpafgjgoheomaa
