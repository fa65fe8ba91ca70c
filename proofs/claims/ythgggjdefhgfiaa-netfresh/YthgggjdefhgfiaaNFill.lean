import Derived.Test.YthgggjdefhgfiaaNAll
namespace Go.Proofs.Ythgggjdefhgfiaa
open Go.RowKit Go.Maps

theorem tag_sz (i : Nat) : (str (tagB i)).size = 2 := str_size (tagB_small i)
def Pk (k : Nat) : Nat × Nat → Prop := fun q => q.1 = 1 + k ∨ q.1 = 3 + k
theorem pk_n {k : Nat} : ∀ q, PNet (1 + k) q → Pk k q := by rintro q (e | e) <;> (subst e; exact Or.inl rfl)
theorem pk_f {k : Nat} : ∀ q, PNet (3 + k) q → Pk k q := by rintro q (e | e) <;> (subst e; exact Or.inr rfl)
theorem pk_no {k : Nat} (q : Nat × Nat) (h : q.1 = 0 ∨ 5 ≤ q.1) (hk : k < 2) : ¬ Pk k q := by rintro (e | e) <;> omega
theorem pk_put {k : Nat} : ∀ q : Nat × Nat, q.1 = 1 ∨ q.1 = 2 ∨ q.1 = 3 ∨ q.1 = 4 ∨ q.1 = 5 → q.1 ≠ 1 + k → q.1 ≠ 3 + k → ¬ Pk k q := by rintro q _ h1 h2 (e | e); exact h1 e; exact h2 e
theorem pnet_far {o p j : Nat} (h : p ≠ o) : ¬ PNet o (p, j) := by rintro (e | e) <;> exact h (by simpa using congrArg Prod.fst e)
theorem send_ok {N : Nt} (m : Ms) (h : N.row.length ≤ N.room) : (N.send m).room = N.room ∧ (N.send m).row.length ≤ (N.send m).room ∧ (N.send m).lost ≤ N.lost + 1 ∧ ∀ q ∈ (N.send m).row, q ∈ N.row ∨ q = m := by
  unfold Nt.send
  split
  · refine ⟨rfl, ?_, Nat.le_succ _, fun q hq => ?_⟩
    · show (N.row ++ [m]).length ≤ N.room
      rw [List.length_append]; simp; omega
    · rcases List.mem_append.1 hq with h | h
      · exact Or.inl h
      · simp at h; exact Or.inr h
  · exact ⟨rfl, h, Nat.le_refl _, fun q hq => Or.inl hq⟩
/-- Both have been sent the same. -/
theorem Sg.sent {K K1 K2 : Knd} {w w1 w2 : World} {sb bb M : Nat} {x : Nat → Option Sl} {mark : Bm} (h : Sg w K sb bb M x mark) {k : Nat} (hk : k < 2) {nb fb : Nat} {N : Nt} (hs : x k = some ⟨nb, fb, N⟩) (k1 : Kp (PNet (1 + k)) K K1 w w1) (k2 : Kp (PNet (3 + k)) K1 K2 w1 w2) {m : Ms} (hm : m.b.size ≤ 4096)
    (h1 : Nk w1 K1 (1 + k) nb (N.send m)) (h2 : Fk w2 K2 (3 + k) fb (N.send m)) : Sg w2 K2 sb bb (M + 1) (upd x k (some ⟨nb, fb, N.send m⟩)) mark ∧ Kp (Pk k) K K2 w w2 := by
  have ho := h.ok k _ hk hs
  obtain ⟨q1, q2, q3, q4⟩ := send_ok m ho.le
  have kp := (k1.mono pk_n).trans (k2.mono pk_f)
  refine ⟨h.put hk hs kp pk_put (Nat.le_succ _) (h1.kept k2 (fun j => pnet_far (by omega))) h2 q1 q2 (Nat.le_trans q3 (Nat.add_le_add_right ho.lost 1)) (fun q hq => ?_), kp⟩
  rcases q4 q hq with e | e
  · exact ho.small q e
  · rw [e]; exact hm

theorem Sg.sentC {K K1 K2 : Knd} {w w1 w2 : World} {sb bb M : Nat} {x : Nat → Option Sl} {mark : Bm} (h : Sg w K sb bb M x mark) {k : Nat} (hk : k < 2) {nb fb : Nat} {N : Nt} (hs : x k = some ⟨nb, fb, N⟩) (k1 : Kp (PNet (1 + k)) K K1 w w1) (k2 : Kp (PNet (3 + k)) K1 K2 w1 w2) {m : Ms} (hm : m.b.size ≤ 4096)
    (h1 : Nk w1 K1 (1 + k) nb (N.send m)) (h2 : Fk w2 K2 (3 + k) fb (N.send m)) {ob : Nat} (hob : ob < w.heap.size) (hko : K ob = (0, 0)) : (Sg w2 K2 sb bb (M + 1) (upd x k (some ⟨nb, fb, N.send m⟩)) mark ∧ Kp (Pk k) K K2 w w2) ∧ w2.cell? ⟨sb, k, none⟩ = some (.pointer (some ⟨nb, 0, none⟩)) ∧ w2.cell? ⟨sb, 2 + k, none⟩ = some (.pointer (some ⟨fb, 0, none⟩)) ∧ w2.heap[ob]? = w.heap[ob]? := by
  have q := h.sent hk hs k1 k2 hm h1 h2
  obtain ⟨v0, v1, _⟩ := q.1.cells hk
  unfold upd at v0 v1
  rw [if_pos rfl] at v0 v1
  exact ⟨q, v0, v1, q.2.block _ hob (by rw [hko]; exact pk_no _ (Or.inl rfl) hk)⟩

set_option maxRecDepth 100000 in
set_option maxHeartbeats 4000000 in
theorem fills_any (w : World) (K : Knd) (sb bb M : Nat) (x : Nat → Option Sl) (mark : Bm) (h : Sg w K sb bb M x mark) (hM : M ≤ 1099511627776) (k : Nat) (hk : k < 2) (s0 : Sl) (hs0 : x k = some s0) (d wh at_ to : Int) (bp : Option Addr) (bl bc : Nat) :
    Calls Try.prog 35 #[.pointer (some ⟨sb, 0, none⟩), .int .i64 (k : Int), .agg #[.int .i64 d, .int .i64 wh, .int .i64 at_, .int .i64 to, .slice bp bl bc]] w fun e w' => e = .returned (.bool true) ∧ ∃ K' x' s', Sg w' K' sb bb (M + 9000) x' mark ∧ Kp (Pk k) K K' w w' ∧ x' k = some s' ∧ s'.nb = s0.nb ∧ s'.fb = s0.fb := by
  obtain ⟨w1, hw1⟩ : ∃ w1, w.alloc (.cells #[.int .i64 d, .int .i64 wh, .int .i64 at_, .int .i64 to, .slice bp bl bc] 61) = w1 := ⟨_, rfl⟩
  have hb1 : Below w.heap.size w w1 := by rw [← hw1]; exact (Below.refl _ _).alloc (Nat.le_refl _) _
  have hx1 : w1.heap[w.heap.size]? = some (.cells #[.int .i64 d, .int .i64 wh, .int .i64 at_, .int .i64 to, .slice bp bl bc] 61 (0, 0)) := by rw [← hw1]; exact heap_alloc_new _ _
  have HS1 := hide (h.below hb1)
  have HB1 := hide hb1
  have HX1 := hide hx1
  have HK1 := hide (kp_below hb1 (Pk k) K (0, 0))
  have HS0 := hide hs0
  obtain ⟨A, hA⟩ : ∃ A, (at_ % 9000).toNat = A := ⟨_, rfl⟩
  have hA9 : A < 9000 := by omega
  have HI := hide (fun (w : World) => into_any w at_ 9000 (by omega) (by omega))
  rw [show ((9000 : Nat) : Int) = 9000 from rfl, hA] at HI
  have k0 : (0 : Int) ≤ (k : Int) := by omega
  have k1 : (k : Int) < 2 := by omega
  have hlw := lt_of_block hx1
  clear hb1 hx1 h hA hs0
  go_enter Try.func35, Try.ntmps35
  go_wp2
  go_loopw [7] (fun i wr => ∃ (j : Nat) (K' : Knd) (x' : Nat → Option Sl) (N : Nt), j ≤ A ∧ i = .int .i64 j ∧ Hid (Sg wr K' sb bb (M + j) x' mark) ∧ Hid (x' k = some ⟨s0.nb, s0.fb, N⟩) ∧ Hid (Kp (Pk k) (ext K w.heap.size (0, 0)) K' w1 wr)) (fun i _ => A - (intOf i).toNat)
  case atStart =>
    refine ⟨0, _, x, s0.N, Nat.zero_le _, rfl, HS1, hide HS0.out, ?_⟩
    first | exact hide (Kp.refl _ _ _) | (rw [hw1]; exact hide (Kp.refl _ _ _))
  case round =>
    obtain ⟨j, K', x', N, hj, rfl, HS, HXk, HKp⟩ := hrel
    have hxr : wr.heap[w.heap.size]? = _ := (HKp.out.block _ hlw (by rw [ext_new _ _ (Nat.le_refl _)]; exact pk_no _ (Or.inl rfl) hk)).trans HX1.out
    have p2 : wr.cell? ⟨w.heap.size, 2, none⟩ = some (.int .i64 at_) := by simp [World.cell?, hxr]
    have p3 : wr.cell? ⟨w.heap.size, 3, none⟩ = some (.int .i64 to) := by simp [World.cell?, hxr]
    have hlr := lt_of_block hxr
    obtain ⟨c0, c1, c2, c3, cf⟩ := HS.out.cells hk
    rw [HXk.out] at c0 c1
    unfold ptrN at c0
    unfold ptrF at c1
    simp only [Option.map_some] at c0 c1
    have hsr := lt_of_block HS.out.blk
    have HXr := hide hxr
    clear hxr
    go_wp2_with fail
    refine (HI.out wr).mono ?_
    rintro e w9 ⟨rfl, h9⟩
    have h9 := h9.symm
    subst h9
    by_cases hlt : j < A
    · have hlt' : (j : Int) < (A : Int) := by omega
      obtain ⟨b0, hb0⟩ : ∃ b0, j % 256 = b0 := ⟨_, rfl⟩
      obtain ⟨b1, hb1⟩ : ∃ b1, j / 256 = b1 := ⟨_, rfl⟩
      have hTg : Hid (tagB j = [b0, b1] ∧ b0 < 256 ∧ b1 < 256) := ⟨by simp [tagB, hb0, hb1]; omega, by omega, by omega⟩
      have e1 : (j : Int) % 256 = (b0 : Int) := by omega
      have e2 : (j : Int) / 256 = (b1 : Int) := by omega
      have e4 : (j : Int) < 65536 := by omega
      have hb1s : b1 < 256 := by omega
      have hb0s : b0 < 256 := by omega
      clear hb0 hb1
      have hbw : Below wr.heap.size wr (wr.alloc (.cells #[.int .u8 (b0 : Int), .int .u8 (b1 : Int)] 5)) := (Below.refl _ _).alloc (Nat.le_refl _) _
      have hyw : Bytes (wr.alloc (.cells #[.int .u8 (b0 : Int), .int .u8 (b1 : Int)] 5)) (some ⟨wr.heap.size, 0, none⟩) (tagB j) := by rw [hTg.out.1]; exact lit2 hTg.out.2 (heap_alloc_new _ _)
      have HSw := hide (HS.out.below hbw)
      have hoW := HSw.out.ok k _ hk HXk.out
      have kd : ∀ (W : World) (K : Knd), Kp (fun _ => False) K K W W.drew := fun W K => (Kp.refl _ _ _).drew
      have HSd := hide (Send_any (wr.alloc (.cells #[.int .u8 (b0 : Int), .int .u8 (b1 : Int)] 5)).drew _ (1 + k) s0.nb N (hoW.net.kept (kd _ _) (fun _ h => h)) hoW.room (Nat.lt_of_le_of_lt hoW.lost (by omega)) to (some ⟨wr.heap.size, 0, none⟩) 2 2 (tagB j) ⟨hyw.small, hyw.lie⟩ rfl)
      have HOw := hide hoW
      have HYw := hide hyw
      have HBw := hide hbw
      clear hbw hyw hoW
      have q0 : (wr.alloc (.cells #[.int .u8 (b0 : Int), .int .u8 (b1 : Int)] 5)).cell? ⟨sb, k, none⟩ = _ := (HBw.out.cell (p := ⟨sb, k, none⟩) hsr).trans c0
      have q1 : (wr.alloc (.cells #[.int .u8 (b0 : Int), .int .u8 (b1 : Int)] 5)).cell? ⟨sb, 2 + k, none⟩ = _ := (HBw.out.cell (p := ⟨sb, 2 + k, none⟩) hsr).trans c1
      have q3 : (wr.alloc (.cells #[.int .u8 (b0 : Int), .int .u8 (b1 : Int)] 5)).cell? ⟨w.heap.size, 3, none⟩ = _ := (HBw.out.cell (p := ⟨w.heap.size, 3, none⟩) hlr).trans p3
      go_wp2_with fail
      generalize hgw : wr.alloc (.cells #[.int .u8 (b0 : Int), .int .u8 (b1 : Int)] 5) = w4 at *
      have hsw := lt_of_block HSw.out.blk
      have hl4 : w.heap.size < w4.heap.size := Nat.lt_of_lt_of_le hlr HBw.out.size
      clear hgw
      have HKb : Hid ((ext K' wr.heap.size (0, 0)) w.heap.size = (0, 0)) := by
        show _ = _
        rw [ext_old _ _ hlr, HKp.out.same _ hlw, ext_new _ _ (Nat.le_refl _)]
      go_region_held3 (fun w' => w'.cell? ⟨sb, k, none⟩ = some (.pointer (some ⟨s0.nb, 0, none⟩)) ∧ w'.cell? ⟨sb, 2 + k, none⟩ = some (.pointer (some ⟨s0.fb, 0, none⟩)) ∧ w'.cell? ⟨w.heap.size, 3, none⟩ = some (.int .i64 to)) (go_keep) (first | (go_at_call 15; refine HFs.out.mono ?_; rintro e w6 ⟨K6, rfl, hn6, hk6⟩; obtain ⟨hE, v0, v1, hx6⟩ := HSw.out.sentC hk HXk.out (m := ⟨to, str (tagB j)⟩) HKp5.out hk6 (by show (str (tagB j)).size ≤ 4096; rw [tag_sz]; omega) HN5.out hn6 hl4 HKb.out; have HE := hide hE; have v4 : w6.cell? ⟨w.heap.size, 3, none⟩ = some (.int .i64 to) := (World.cell?_of_block hx6).trans q3; clear hn6 hk6 hx6 hE) | (go_at_call 12; refine HSd.out.mono ?_; rintro e w5 ⟨K5, rfl, hn5, hk5⟩; have HKp5 : Hid (Kp (PNet (1 + k)) (ext K' wr.heap.size (0, 0)) K5 w4 w5) := ((kd w4 _).mono (fun _ h => h.elim)).trans hk5; have HN5 := hide hn5; have HFs := hide (FSend_any w5 K5 (3 + k) s0.fb N (HOw.out.doc.kept HKp5.out (fun j => pnet_far (by omega))) HOw.out.room (Nat.lt_of_le_of_lt HOw.out.lost (by omega)) to (some ⟨wr.heap.size, 0, none⟩) 2 2 (tagB j) (bytes_kept HYw.out HKp5.out.size (fun g o e hg => HKp5.out.block g hg (by cases e; rw [ext_new _ _ (Nat.le_refl _)]; exact pnet_far (by omega)))) rfl (by omega)); have hs5 : w5.heap[sb]? = w4.heap[sb]? := HKp5.out.block _ hsw (by rw [HSw.out.ks]; exact pnet_far (by omega)); have hx5 : w5.heap[w.heap.size]? = w4.heap[w.heap.size]? := HKp5.out.block _ hl4 (by rw [HKb.out]; exact pnet_far (by omega)); have r0 : w5.cell? ⟨sb, k, none⟩ = _ := (World.cell?_of_block hs5).trans q0; have r1 : w5.cell? ⟨sb, 2 + k, none⟩ = _ := (World.cell?_of_block hs5).trans q1; have r3 : w5.cell? ⟨w.heap.size, 3, none⟩ = _ := (World.cell?_of_block hx5).trans q3; clear hn5 hk5 hs5 hx5) | fail)
      all_goals go_wp2
      go_roundw
      case rel => exact ⟨j + 1, _, _, _, by omega, by go_num, hide HE.out.1, hide (by unfold upd; rw [if_pos rfl]), hide (HKp.out.trans ((kp_below HBw.out _ _ _).trans HE.out.2))⟩
      case measure => simp [intOf]; omega
    · obtain rfl : j = A := by omega
      go_wp2
      go_ret
      exact ⟨rfl, K', x', ⟨s0.nb, s0.fb, N⟩, HS.out.more (by omega), HK1.out.trans HKp.out, HXk.out, rfl, rfl⟩

end Go.Proofs.Ythgggjdefhgfiaa
