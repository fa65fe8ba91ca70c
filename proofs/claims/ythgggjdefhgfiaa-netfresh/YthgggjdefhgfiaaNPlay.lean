import Derived.Test.YthgggjdefhgfiaaNUni
import Derived.Deep.DeepCutAuto
namespace Go.Proofs.Ythgggjdefhgfiaa
open Go.RowKit Go.Maps

/-- What plays leaves. -/
def PPl (q : Nat × Nat) : Prop := (1 ≤ q.1 ∧ q.1 ≤ 5) ∨ q.1 = 60
def PlPost (K : Knd) (sb bb M : Nat) (mark : Bm) (w : World) (e : Ending) (w' : World) : Prop := e = .returned (.bool true) ∧ ∃ K' x' m', Sg w' K' sb bb (M + 9000) x' m' ∧ (m'.on = mark.on ∧ m'.n ≤ mark.n + 1) ∧ Kp PPl K K' w w'
theorem blk5 {w : World} {b : Nat} {x0 x1 x2 x3 x4 : Value} {t : TypeId} (h : w.heap[b]? = some (.cells #[x0, x1, x2, x3, x4] t (0, 0))) :
    w.cell? ⟨b, 0, none⟩ = some x0 ∧ w.cell? ⟨b, 1, none⟩ = some x1 ∧ w.cell? ⟨b, 2, none⟩ = some x2 ∧ w.cell? ⟨b, 3, none⟩ = some x3 ∧ w.cell? ⟨b, 4, none⟩ = some x4 :=
  ⟨by simp [World.cell?, h], by simp [World.cell?, h], by simp [World.cell?, h], by simp [World.cell?, h], by simp [World.cell?, h]⟩
theorem kp_one {k : Nat} (hk : k < 2) : ∀ q, Pk k q → PPl q := by rintro q (e | e) <;> exact Or.inl (by omega)
theorem tell_small {N : Nt} {i : Int} : ∀ x ∈ (N.tell i).2, x < 256 := by
  cases hh : N.has i with
  | false => rw [tell_no hh]; simp
  | true =>
    obtain ⟨k, m, rfl, _, hm⟩ := has_true hh
    have hm' : N.row[((k : Nat) : Int).toNat]? = some m := by simpa using hm
    rw [tell_has hh hm']
    exact nums_small _
theorem row_set {B b n : Nat} {w : World} {v a1 a2 : Value} {xs : List Value} (h : Q.ownsQ true w B 5 1 v n xs) (hB : b < B) : Q.ownsQ true ((w.setCell ⟨b, 0, none⟩ a1).setCell ⟨b, 1, none⟩ a2) b 5 1 v n xs :=
  Q.owns_mono (Q.owns_kept' h (fun g e => by
    have := Q.owns_low h g e
    exact (Below.heap_setCell _ _ _ _ (by show g ≠ b; omega)).trans (Below.heap_setCell _ _ _ _ (by show g ≠ b; omega)))) (by omega)

/-- A turn that keeps the bounds. -/
structure TurnOk (N N' : Nt) (d : Nat) : Prop where
  room : N'.room = N.room
  le : N'.row.length ≤ N'.room
  lost : N'.lost ≤ N.lost + d
  mem : ∀ q ∈ N'.row, q ∈ N.row ∨ q.b.size ≤ 4096
theorem dropped_ok {N : Nt} (i : Int) (h : N.row.length ≤ N.room) : TurnOk N (N.dropped i) 0 := by
  unfold Nt.dropped
  split
  · refine ⟨rfl, ?_, Nat.le_refl _, fun q hq => ?_⟩
    · show (N.row.take _ ++ N.row.drop _).length ≤ N.room
      rw [List.length_append, List.length_take, List.length_drop]; omega
    · rcases List.mem_append.1 hq with e | e
      · exact Or.inl (List.mem_of_mem_take e)
      · exact Or.inl (List.mem_of_mem_drop e)
  · exact ⟨rfl, h, Nat.le_refl _, fun _ hq => Or.inl hq⟩
theorem added_ok {N : Nt} {m : Ms} (hm : m ∈ N.row) (h : N.row.length ≤ N.room) : TurnOk N (N.add m) 0 := by
  unfold Nt.add
  split
  · refine ⟨rfl, ?_, Nat.le_refl _, fun q hq => ?_⟩
    · show (N.row ++ [m]).length ≤ N.room
      rw [List.length_append]; simp; omega
    · rcases List.mem_append.1 hq with e | e
      · exact Or.inl e
      · simp at e; rw [e]; exact Or.inl hm
  · exact ⟨rfl, h, Nat.le_refl _, fun _ hq => Or.inl hq⟩
theorem sent_ok {N : Nt} {m : Ms} (hm : m.b.size ≤ 4096) (h : N.row.length ≤ N.room) : TurnOk N (N.send m) 1 := by
  obtain ⟨q1, q2, q3, q4⟩ := send_ok m h
  exact ⟨q1, q2, q3, fun q hq => (q4 _ hq).imp id (fun e => by rw [e]; exact hm)⟩
theorem same_ok {N : Nt} (h : N.row.length ≤ N.room) : TurnOk N N 0 := ⟨rfl, h, Nat.le_refl _, fun _ hq => Or.inl hq⟩
theorem Sg.turnC {K K1 K2 : Knd} {w w1 w2 : World} {sb bb M d : Nat} {x : Nat → Option Sl} {mark : Bm} (h : Sg w K sb bb M x mark) {k : Nat} (hk : k < 2) {nb fb : Nat} {N N' : Nt} (hs : x k = some ⟨nb, fb, N⟩) (k1 : Kp (PNet (1 + k)) K K1 w w1) (k2 : Kp (PNet (3 + k)) K1 K2 w1 w2) (ht : TurnOk N N' d)
    (h1 : Nk w1 K1 (1 + k) nb N') (h2 : Fk w2 K2 (3 + k) fb N') {ob : Nat} (hob : ob < w.heap.size) (hko : K ob = (0, 0)) : (Sg w2 K2 sb bb (M + d) (upd x k (some ⟨nb, fb, N'⟩)) mark ∧ Kp (Pk k) K K2 w w2) ∧ w2.cell? ⟨sb, k, none⟩ = some (.pointer (some ⟨nb, 0, none⟩)) ∧ w2.cell? ⟨sb, 2 + k, none⟩ = some (.pointer (some ⟨fb, 0, none⟩)) ∧ w2.heap[ob]? = w.heap[ob]? := by
  have ho := h.ok k _ hk hs
  have kp := (k1.mono pk_n).trans (k2.mono pk_f)
  have q : Sg w2 K2 sb bb (M + d) (upd x k (some ⟨nb, fb, N'⟩)) mark := h.put hk hs kp pk_put (Nat.le_add_right _ _) (h1.kept k2 (fun j => pnet_far (by omega))) h2 ht.room ht.le (Nat.le_trans ht.lost (Nat.add_le_add_right ho.lost d)) (fun q hq => (ht.mem q hq).elim (ho.small q) (fun e => e))
  obtain ⟨v0, v1, _⟩ := q.cells hk
  unfold upd at v0 v1
  rw [if_pos rfl] at v0 v1
  exact ⟨⟨q, kp⟩, v0, v1, kp.block _ hob (by rw [hko]; exact pk_no _ (Or.inl rfl) hk)⟩
theorem dbl_ok {N : Nt} (i : Int) (h : N.row.length ≤ N.room) : TurnOk N (N.dbl i) 0 := by
  cases hh : N.has i with
  | false => rw [dbl_no hh]; exact same_ok h
  | true =>
    obtain ⟨k, m, rfl, _, hm⟩ := has_true hh
    have hm' : N.row[((k : Nat) : Int).toNat]? = some m := by simpa using hm
    rw [dbl_has hh hm']
    exact added_ok (List.mem_of_getElem? hm) h
theorem bytes_or {w w' : World} {sp : Option Addr} {xs : List Nat} (h : Bytes w sp xs) (hs : w.heap.size ≤ w'.heap.size) (hb : xs = [] ∨ ∀ g o, sp = some ⟨g, o, none⟩ → g < w.heap.size → w'.heap[g]? = w.heap[g]?) : Bytes w' sp xs := by
  rcases hb with e | e
  · subst e; exact ⟨by simp, Or.inl rfl⟩
  · exact bytes_kept h hs e
theorem own_kept {B : Nat} {w w' : World} {g cap : Nat} {xs : List Nat} (h : Own B w g cap xs) (e : w'.heap[g]? = w.heap[g]?) : Own B w' g cap xs := by
  obtain ⟨C, hC, hc⟩ := h.row
  exact ⟨h.base, h.cap, h.small, C, e.trans hC, hc⟩

set_option maxRecDepth 100000 in
set_option maxHeartbeats 4000000 in
theorem plays_new (w : World) (K : Knd) (sb bb M : Nat) (x : Nat → Option Sl) (mark : Bm) (h : Sg w K sb bb M x mark) (_hM : M ≤ 1099511627776) (_hmn : mark.n ≤ 5000) (wh at_ ad : Int) (bp : Option Addr) (bl bc : Nat) :
    Calls Try.prog 7 #[.pointer (some ⟨sb, 0, none⟩), .agg #[.int .i64 6, .int .i64 wh, .int .i64 at_, .int .i64 ad, .slice bp bl bc]] w (PlPost K sb bb M mark w) := by
  obtain ⟨w1, hw1⟩ : ∃ w1, w.alloc (.cells #[.int .i64 6, .int .i64 wh, .int .i64 at_, .int .i64 ad, .slice bp bl bc] 61) = w1 := ⟨_, rfl⟩
  have hb1 : Below w.heap.size w w1 := by rw [← hw1]; exact (Below.refl _ _).alloc (Nat.le_refl _) _
  have hx1 : w1.heap[w.heap.size]? = some (.cells #[.int .i64 6, .int .i64 wh, .int .i64 at_, .int .i64 ad, .slice bp bl bc] 61 (0, 0)) := by rw [← hw1]; exact heap_alloc_new _ _
  have HS1 := hide (h.below hb1)
  have HB1 := hide hb1
  have HX1 := hide hx1
  obtain ⟨k, hkk⟩ : ∃ k, (wh % 2).toNat = k := ⟨_, rfl⟩
  have hk : k < 2 := by omega
  have HIn := hide (into_any w1 wh 2 (by omega) (by omega))
  rw [show ((2 : Nat) : Int) = 2 from rfl, hkk] at HIn
  have k0 : (0 : Int) ≤ (k : Int) := by omega
  have k1 : (k : Int) < 2 := by omega
  obtain ⟨c0, c1, c2, c3, cf⟩ := HS1.out.cells hk
  obtain ⟨b0, b1, b2, b3, b4⟩ := blk5 hx1
  have hlb := lt_of_block hx1
  have hsl := lt_of_block HS1.out.blk
  have HKo : Hid (ext K w.heap.size (0, 0) w.heap.size = (0, 0)) := ext_new _ _ (Nat.le_refl _)
  clear hb1 hx1 h hkk
  have HFr := hide (fresh_any w1 _ sb bb M x mark HS1.out k hk at_)
  go_enter Try.func7, Try.ntmps7
  go_wp2_with fail
  refine HIn.out.mono ?_
  rintro e w9 ⟨rfl, h9⟩
  have h9 := h9.symm
  subst h9
  go_wp2_with fail
  refine HFr.out.mono ?_
  rintro e w2 ⟨rfl, K2, x2, hs2, hk2⟩
  have HS2 := hide hs2
  have HK2 := hide hk2
  clear hs2 hk2
  go_wp2
  go_ret
  exact ⟨rfl, _, _, _, HS2.out.more (by omega), ⟨rfl, Nat.le_succ _⟩, (kp_below HB1.out _ _ _).trans (HK2.out.mono (fun q e => by subst e; exact Or.inl ⟨by decide, by decide⟩))⟩

set_option maxRecDepth 100000 in
set_option maxHeartbeats 4000000 in
theorem plays_none (w : World) (K : Knd) (sb bb M : Nat) (x : Nat → Option Sl) (mark : Bm) (h : Sg w K sb bb M x mark) (_hM : M ≤ 1099511627776) (_hmn : mark.n ≤ 5000) (d wh at_ ad : Int) (bp : Option Addr) (bl bc : Nat) (hs0 : x (wh % 2).toNat = none) (hd6 : ¬ d = 6) :
    Calls Try.prog 7 #[.pointer (some ⟨sb, 0, none⟩), .agg #[.int .i64 d, .int .i64 wh, .int .i64 at_, .int .i64 ad, .slice bp bl bc]] w (PlPost K sb bb M mark w) := by
  obtain ⟨w1, hw1⟩ : ∃ w1, w.alloc (.cells #[.int .i64 d, .int .i64 wh, .int .i64 at_, .int .i64 ad, .slice bp bl bc] 61) = w1 := ⟨_, rfl⟩
  have hb1 : Below w.heap.size w w1 := by rw [← hw1]; exact (Below.refl _ _).alloc (Nat.le_refl _) _
  have hx1 : w1.heap[w.heap.size]? = some (.cells #[.int .i64 d, .int .i64 wh, .int .i64 at_, .int .i64 ad, .slice bp bl bc] 61 (0, 0)) := by rw [← hw1]; exact heap_alloc_new _ _
  have HS1 := hide (h.below hb1)
  have HB1 := hide hb1
  have HX1 := hide hx1
  obtain ⟨k, hkk⟩ : ∃ k, (wh % 2).toNat = k := ⟨_, rfl⟩
  have hk : k < 2 := by omega
  have HIn := hide (into_any w1 wh 2 (by omega) (by omega))
  rw [show ((2 : Nat) : Int) = 2 from rfl, hkk] at HIn
  have k0 : (0 : Int) ≤ (k : Int) := by omega
  have k1 : (k : Int) < 2 := by omega
  obtain ⟨c0, c1, c2, c3, cf⟩ := HS1.out.cells hk
  obtain ⟨b0, b1, b2, b3, b4⟩ := blk5 hx1
  have hlb := lt_of_block hx1
  have hsl := lt_of_block HS1.out.blk
  have HKo : Hid (ext K w.heap.size (0, 0) w.heap.size = (0, 0)) := ext_new _ _ (Nat.le_refl _)
  rw [hkk] at hs0
  rw [hs0] at c0 c1
  unfold ptrN at c0
  unfold ptrF at c1
  simp only [Option.map_none] at c0 c1
  clear hb1 hx1 h hkk hs0
  go_enter Try.func7, Try.ntmps7
  go_wp2_with fail
  refine HIn.out.mono ?_
  rintro e w9 ⟨rfl, h9⟩
  have h9 := h9.symm
  subst h9
  go_wp2
  go_ret
  exact ⟨rfl, _, _, _, HS1.out.more (by omega), ⟨rfl, Nat.le_succ _⟩, kp_below HB1.out _ _ _⟩

set_option maxRecDepth 100000 in
set_option maxHeartbeats 4000000 in
theorem plays_else (w : World) (K : Knd) (sb bb M : Nat) (x : Nat → Option Sl) (mark : Bm) (h : Sg w K sb bb M x mark) (_hM : M ≤ 1099511627776) (_hmn : mark.n ≤ 5000) (d wh at_ ad : Int) (bp : Option Addr) (bl bc : Nat) (s0 : Sl) (hs0 : x (wh % 2).toNat = some s0) (hd1 : ¬ d = 1) (hd2 : ¬ d = 2) (hd3 : ¬ d = 3) (hd4 : ¬ d = 4) (hd5 : ¬ d = 5) (hd6 : ¬ d = 6) (hd7 : ¬ d = 7) :
    Calls Try.prog 7 #[.pointer (some ⟨sb, 0, none⟩), .agg #[.int .i64 d, .int .i64 wh, .int .i64 at_, .int .i64 ad, .slice bp bl bc]] w (PlPost K sb bb M mark w) := by
  obtain ⟨w1, hw1⟩ : ∃ w1, w.alloc (.cells #[.int .i64 d, .int .i64 wh, .int .i64 at_, .int .i64 ad, .slice bp bl bc] 61) = w1 := ⟨_, rfl⟩
  have hb1 : Below w.heap.size w w1 := by rw [← hw1]; exact (Below.refl _ _).alloc (Nat.le_refl _) _
  have hx1 : w1.heap[w.heap.size]? = some (.cells #[.int .i64 d, .int .i64 wh, .int .i64 at_, .int .i64 ad, .slice bp bl bc] 61 (0, 0)) := by rw [← hw1]; exact heap_alloc_new _ _
  have HS1 := hide (h.below hb1)
  have HB1 := hide hb1
  have HX1 := hide hx1
  obtain ⟨k, hkk⟩ : ∃ k, (wh % 2).toNat = k := ⟨_, rfl⟩
  have hk : k < 2 := by omega
  have HIn := hide (into_any w1 wh 2 (by omega) (by omega))
  rw [show ((2 : Nat) : Int) = 2 from rfl, hkk] at HIn
  have k0 : (0 : Int) ≤ (k : Int) := by omega
  have k1 : (k : Int) < 2 := by omega
  obtain ⟨c0, c1, c2, c3, cf⟩ := HS1.out.cells hk
  obtain ⟨b0, b1, b2, b3, b4⟩ := blk5 hx1
  have hlb := lt_of_block hx1
  have hsl := lt_of_block HS1.out.blk
  have HKo : Hid (ext K w.heap.size (0, 0) w.heap.size = (0, 0)) := ext_new _ _ (Nat.le_refl _)
  rw [hkk] at hs0
  obtain ⟨nb, fb, N⟩ := s0
  have HS0 := hide hs0
  rw [hs0] at c0 c1
  unfold ptrN at c0
  unfold ptrF at c1
  simp only [Option.map_some] at c0 c1
  have hok := HS1.out.ok k _ hk hs0
  have HOk := hide hok
  clear hb1 hx1 h hkk hs0 hok
  go_enter Try.func7, Try.ntmps7
  go_wp2_with fail
  refine HIn.out.mono ?_
  rintro e w9 ⟨rfl, h9⟩
  have h9 := h9.symm
  subst h9
  have HKS := HS1
  have HXS := HS0
  have HKP := hide (kp_below HB1.out PPl K (0, 0))
  have hoE := HKS.out.ok k _ hk HXS.out
  have HLe := hide (nlen_any _ _ _ _ _ hoE.net)
  have HFe := hide (flen_any _ _ _ _ _ hoE.doc)
  have HLo := hide (lost_any _ _ _ _ _ hoE.net)
  have HFo := hide (flost_any _ _ _ _ _ hoE.doc)
  clear hoE
  go_wp2_with fail
  refine HLe.out.mono ?_
  rintro e w9 ⟨rfl, h9⟩
  have h9 := h9.symm
  subst h9
  go_wp2_with fail
  refine HFe.out.mono ?_
  rintro e w9 ⟨rfl, h9⟩
  have h9 := h9.symm
  subst h9
  go_wp2_with fail
  refine HLo.out.mono ?_
  rintro e w9 ⟨rfl, h9⟩
  have h9 := h9.symm
  subst h9
  go_wp2_with fail
  refine HFo.out.mono ?_
  rintro e w9 ⟨rfl, h9⟩
  have h9 := h9.symm
  subst h9
  go_wp2
  go_ret
  exact ⟨rfl, _, _, _, HKS.out.more (by omega), ⟨rfl, Nat.le_succ _⟩, HKP.out⟩

set_option maxRecDepth 100000 in
set_option maxHeartbeats 4000000 in
theorem plays_fill (w : World) (K : Knd) (sb bb M : Nat) (x : Nat → Option Sl) (mark : Bm) (h : Sg w K sb bb M x mark) (_hM : M ≤ 1099511627776) (_hmn : mark.n ≤ 5000) (wh at_ ad : Int) (bp : Option Addr) (bl bc : Nat) (s0 : Sl) (hs0 : x (wh % 2).toNat = some s0) :
    Calls Try.prog 7 #[.pointer (some ⟨sb, 0, none⟩), .agg #[.int .i64 7, .int .i64 wh, .int .i64 at_, .int .i64 ad, .slice bp bl bc]] w (PlPost K sb bb M mark w) := by
  obtain ⟨w1, hw1⟩ : ∃ w1, w.alloc (.cells #[.int .i64 7, .int .i64 wh, .int .i64 at_, .int .i64 ad, .slice bp bl bc] 61) = w1 := ⟨_, rfl⟩
  have hb1 : Below w.heap.size w w1 := by rw [← hw1]; exact (Below.refl _ _).alloc (Nat.le_refl _) _
  have hx1 : w1.heap[w.heap.size]? = some (.cells #[.int .i64 7, .int .i64 wh, .int .i64 at_, .int .i64 ad, .slice bp bl bc] 61 (0, 0)) := by rw [← hw1]; exact heap_alloc_new _ _
  have HS1 := hide (h.below hb1)
  have HB1 := hide hb1
  have HX1 := hide hx1
  obtain ⟨k, hkk⟩ : ∃ k, (wh % 2).toNat = k := ⟨_, rfl⟩
  have hk : k < 2 := by omega
  have HIn := hide (into_any w1 wh 2 (by omega) (by omega))
  rw [show ((2 : Nat) : Int) = 2 from rfl, hkk] at HIn
  have k0 : (0 : Int) ≤ (k : Int) := by omega
  have k1 : (k : Int) < 2 := by omega
  obtain ⟨c0, c1, c2, c3, cf⟩ := HS1.out.cells hk
  obtain ⟨b0, b1, b2, b3, b4⟩ := blk5 hx1
  have hlb := lt_of_block hx1
  have hsl := lt_of_block HS1.out.blk
  have HKo : Hid (ext K w.heap.size (0, 0) w.heap.size = (0, 0)) := ext_new _ _ (Nat.le_refl _)
  rw [hkk] at hs0
  obtain ⟨nb, fb, N⟩ := s0
  have HS0 := hide hs0
  rw [hs0] at c0 c1
  unfold ptrN at c0
  unfold ptrF at c1
  simp only [Option.map_some] at c0 c1
  have hok := HS1.out.ok k _ hk hs0
  have HOk := hide hok
  clear hb1 hx1 h hkk hs0 hok
  go_enter Try.func7, Try.ntmps7
  go_wp2_with fail
  refine HIn.out.mono ?_
  rintro e w9 ⟨rfl, h9⟩
  have h9 := h9.symm
  subst h9
  have HFi := hide (fills_any w1 _ sb bb M x mark HS1.out _hM k hk _ HS0.out 7 wh at_ ad bp bl bc)
  go_wp2_with fail
  refine HFi.out.mono ?_
  rintro e w2 ⟨rfl, K2, x2, s2, hs2, hk2, hx2, hn2, hf2⟩
  obtain ⟨nb2, fb2, N2⟩ := s2
  simp only at hn2 hf2
  subst hn2 hf2
  have HKS := hide hs2
  have HXS := hide hx2
  have HKP := hide ((kp_below HB1.out PPl K (0, 0)).trans (hk2.mono (kp_one hk)))
  clear hs2 hk2 hx2
  have hoE := HKS.out.ok k _ hk HXS.out
  have HLe := hide (nlen_any _ _ _ _ _ hoE.net)
  have HFe := hide (flen_any _ _ _ _ _ hoE.doc)
  have HLo := hide (lost_any _ _ _ _ _ hoE.net)
  have HFo := hide (flost_any _ _ _ _ _ hoE.doc)
  clear hoE
  go_wp2_with fail
  refine HLe.out.mono ?_
  rintro e w9 ⟨rfl, h9⟩
  have h9 := h9.symm
  subst h9
  go_wp2_with fail
  refine HFe.out.mono ?_
  rintro e w9 ⟨rfl, h9⟩
  have h9 := h9.symm
  subst h9
  go_wp2_with fail
  refine HLo.out.mono ?_
  rintro e w9 ⟨rfl, h9⟩
  have h9 := h9.symm
  subst h9
  go_wp2_with fail
  refine HFo.out.mono ?_
  rintro e w9 ⟨rfl, h9⟩
  have h9 := h9.symm
  subst h9
  go_wp2
  go_ret
  exact ⟨rfl, _, _, _, HKS.out.more (by omega), ⟨rfl, Nat.le_succ _⟩, HKP.out⟩

set_option maxRecDepth 100000 in
set_option maxHeartbeats 4000000 in
theorem plays_drop (w : World) (K : Knd) (sb bb M : Nat) (x : Nat → Option Sl) (mark : Bm) (h : Sg w K sb bb M x mark) (_hM : M ≤ 1099511627776) (_hmn : mark.n ≤ 5000) (wh at_ ad : Int) (bp : Option Addr) (bl bc : Nat) (s0 : Sl) (hs0 : x (wh % 2).toNat = some s0) :
    Calls Try.prog 7 #[.pointer (some ⟨sb, 0, none⟩), .agg #[.int .i64 4, .int .i64 wh, .int .i64 at_, .int .i64 ad, .slice bp bl bc]] w (PlPost K sb bb M mark w) := by
  obtain ⟨w1, hw1⟩ : ∃ w1, w.alloc (.cells #[.int .i64 4, .int .i64 wh, .int .i64 at_, .int .i64 ad, .slice bp bl bc] 61) = w1 := ⟨_, rfl⟩
  have hb1 : Below w.heap.size w w1 := by rw [← hw1]; exact (Below.refl _ _).alloc (Nat.le_refl _) _
  have hx1 : w1.heap[w.heap.size]? = some (.cells #[.int .i64 4, .int .i64 wh, .int .i64 at_, .int .i64 ad, .slice bp bl bc] 61 (0, 0)) := by rw [← hw1]; exact heap_alloc_new _ _
  have HS1 := hide (h.below hb1)
  have HB1 := hide hb1
  have HX1 := hide hx1
  obtain ⟨k, hkk⟩ : ∃ k, (wh % 2).toNat = k := ⟨_, rfl⟩
  have hk : k < 2 := by omega
  have HIn := hide (into_any w1 wh 2 (by omega) (by omega))
  rw [show ((2 : Nat) : Int) = 2 from rfl, hkk] at HIn
  have k0 : (0 : Int) ≤ (k : Int) := by omega
  have k1 : (k : Int) < 2 := by omega
  obtain ⟨c0, c1, c2, c3, cf⟩ := HS1.out.cells hk
  obtain ⟨b0, b1, b2, b3, b4⟩ := blk5 hx1
  have hlb := lt_of_block hx1
  have hsl := lt_of_block HS1.out.blk
  have HKo : Hid (ext K w.heap.size (0, 0) w.heap.size = (0, 0)) := ext_new _ _ (Nat.le_refl _)
  rw [hkk] at hs0
  obtain ⟨nb, fb, N⟩ := s0
  have HS0 := hide hs0
  rw [hs0] at c0 c1
  unfold ptrN at c0
  unfold ptrF at c1
  simp only [Option.map_some] at c0 c1
  have hok := HS1.out.ok k _ hk hs0
  have HOk := hide hok
  clear hb1 hx1 h hkk hs0 hok
  go_enter Try.func7, Try.ntmps7
  go_wp2_with fail
  refine HIn.out.mono ?_
  rintro e w9 ⟨rfl, h9⟩
  have h9 := h9.symm
  subst h9
  have hrow : N.row.length ≤ 8192 := Nat.le_trans HOk.out.le HOk.out.room
  have kd : ∀ (W : World) (K : Knd), Kp (fun _ => False) K K W W.drew := fun W K => (Kp.refl _ _ _).drew
  have HDr := hide (Drop_any w1.drew _ (1 + k) nb N (HOk.out.net.kept (kd _ _) (fun _ h => h)) hrow at_)
  go_wp2_with fail
  go_region_held3 (fun w' => w'.cell? ⟨w.heap.size, 2, none⟩ = some (.int .i64 at_)) (go_keep) (first | (go_at_call 32; refine HFd.out.mono ?_; rintro e w3 ⟨rfl, hn3, hk3⟩; obtain ⟨hE, v0, v1, hx3⟩ := HS1.out.turnC hk HS0.out HKp2.out hk3 (dropped_ok at_ HOk.out.le) HN2.out hn3 hlb HKo.out; have HE := hide hE; have v2 : w3.cell? ⟨w.heap.size, 2, none⟩ = _ := (World.cell?_of_block hx3).trans b2; clear hn3 hk3 hx3 hE) | (go_at_call 31; refine HDr.out.mono ?_; rintro e w2 ⟨rfl, hn2, hk2⟩; have HKp2 : Hid (Kp (PNet (1 + k)) (ext K w.heap.size (0, 0)) (ext K w.heap.size (0, 0)) w1 w2) := ((kd w1 _).mono (fun _ h => h.elim)).trans hk2; have HN2 := hide hn2; have HFd := hide (FDrop_any w2 _ (3 + k) fb N (HOk.out.doc.kept HKp2.out (fun j => pnet_far (by omega))) hrow at_); have hx2 : w2.heap[w.heap.size]? = w1.heap[w.heap.size]? := HKp2.out.block _ hlb (by rw [HKo.out]; exact pnet_far (by omega)); have r2 : w2.cell? ⟨w.heap.size, 2, none⟩ = _ := (World.cell?_of_block hx2).trans b2; clear hn2 hk2 hx2) | fail)
  have HKS := hide HE.out.1
  have HXS : Hid (upd x k (some ⟨nb, fb, N.dropped at_⟩) k = some ⟨nb, fb, N.dropped at_⟩) := by show _ = _; unfold upd; rw [if_pos rfl]
  have HKP := hide ((kp_below HB1.out PPl K (0, 0)).trans (HE.out.2.mono (kp_one hk)))
  go_wp2_with fail
  have hoE := HKS.out.ok k _ hk HXS.out
  have HLe := hide (nlen_any _ _ _ _ _ hoE.net)
  have HFe := hide (flen_any _ _ _ _ _ hoE.doc)
  have HLo := hide (lost_any _ _ _ _ _ hoE.net)
  have HFo := hide (flost_any _ _ _ _ _ hoE.doc)
  clear hoE
  refine HLe.out.mono ?_
  rintro e w9 ⟨rfl, h9⟩
  have h9 := h9.symm
  subst h9
  go_wp2_with fail
  refine HFe.out.mono ?_
  rintro e w9 ⟨rfl, h9⟩
  have h9 := h9.symm
  subst h9
  go_wp2_with fail
  refine HLo.out.mono ?_
  rintro e w9 ⟨rfl, h9⟩
  have h9 := h9.symm
  subst h9
  go_wp2_with fail
  refine HFo.out.mono ?_
  rintro e w9 ⟨rfl, h9⟩
  have h9 := h9.symm
  subst h9
  go_wp2
  go_ret
  exact ⟨rfl, _, _, _, HKS.out.more (by omega), ⟨rfl, Nat.le_succ _⟩, HKP.out⟩

set_option maxRecDepth 100000 in
set_option maxHeartbeats 4000000 in
theorem plays_double (w : World) (K : Knd) (sb bb M : Nat) (x : Nat → Option Sl) (mark : Bm) (h : Sg w K sb bb M x mark) (_hM : M ≤ 1099511627776) (_hmn : mark.n ≤ 5000) (wh at_ ad : Int) (bp : Option Addr) (bl bc : Nat) (s0 : Sl) (hs0 : x (wh % 2).toNat = some s0) :
    Calls Try.prog 7 #[.pointer (some ⟨sb, 0, none⟩), .agg #[.int .i64 5, .int .i64 wh, .int .i64 at_, .int .i64 ad, .slice bp bl bc]] w (PlPost K sb bb M mark w) := by
  obtain ⟨w1, hw1⟩ : ∃ w1, w.alloc (.cells #[.int .i64 5, .int .i64 wh, .int .i64 at_, .int .i64 ad, .slice bp bl bc] 61) = w1 := ⟨_, rfl⟩
  have hb1 : Below w.heap.size w w1 := by rw [← hw1]; exact (Below.refl _ _).alloc (Nat.le_refl _) _
  have hx1 : w1.heap[w.heap.size]? = some (.cells #[.int .i64 5, .int .i64 wh, .int .i64 at_, .int .i64 ad, .slice bp bl bc] 61 (0, 0)) := by rw [← hw1]; exact heap_alloc_new _ _
  have HS1 := hide (h.below hb1)
  have HB1 := hide hb1
  have HX1 := hide hx1
  obtain ⟨k, hkk⟩ : ∃ k, (wh % 2).toNat = k := ⟨_, rfl⟩
  have hk : k < 2 := by omega
  have HIn := hide (into_any w1 wh 2 (by omega) (by omega))
  rw [show ((2 : Nat) : Int) = 2 from rfl, hkk] at HIn
  have k0 : (0 : Int) ≤ (k : Int) := by omega
  have k1 : (k : Int) < 2 := by omega
  obtain ⟨c0, c1, c2, c3, cf⟩ := HS1.out.cells hk
  obtain ⟨b0, b1, b2, b3, b4⟩ := blk5 hx1
  have hlb := lt_of_block hx1
  have hsl := lt_of_block HS1.out.blk
  have HKo : Hid (ext K w.heap.size (0, 0) w.heap.size = (0, 0)) := ext_new _ _ (Nat.le_refl _)
  rw [hkk] at hs0
  obtain ⟨nb, fb, N⟩ := s0
  have HS0 := hide hs0
  rw [hs0] at c0 c1
  unfold ptrN at c0
  unfold ptrF at c1
  simp only [Option.map_some] at c0 c1
  have hok := HS1.out.ok k _ hk hs0
  have HOk := hide hok
  clear hb1 hx1 h hkk hs0 hok
  go_enter Try.func7, Try.ntmps7
  go_wp2_with fail
  refine HIn.out.mono ?_
  rintro e w9 ⟨rfl, h9⟩
  have h9 := h9.symm
  subst h9
  have kd : ∀ (W : World) (K : Knd), Kp (fun _ => False) K K W W.drew := fun W K => (Kp.refl _ _ _).drew
  have HDr := hide (Double_u w1.drew _ (1 + k) nb N (HOk.out.net.kept (kd _ _) (fun _ h => h)) HOk.out.room at_)
  go_wp2_with fail
  go_region_held3 (fun w' => w'.cell? ⟨w.heap.size, 2, none⟩ = some (.int .i64 at_)) (go_keep) (first | (go_at_call 34; refine HFd.out.mono ?_; rintro e w3 ⟨K3, rfl, hn3, hk3⟩; obtain ⟨hE, v0, v1, hx3⟩ := HS1.out.turnC hk HS0.out HKp2.out hk3 (dbl_ok at_ HOk.out.le) HN2.out hn3 hlb HKo.out; have HE := hide hE; have v2 : w3.cell? ⟨w.heap.size, 2, none⟩ = _ := (World.cell?_of_block hx3).trans b2; clear hn3 hk3 hx3 hE) | (go_at_call 33; refine HDr.out.mono ?_; rintro e w2 ⟨K2, rfl, hn2, hk2⟩; have HKp2 : Hid (Kp (PNet (1 + k)) (ext K w.heap.size (0, 0)) K2 w1 w2) := ((kd w1 _).mono (fun _ h => h.elim)).trans hk2; have HN2 := hide hn2; have HFd := hide (FDouble_u w2 K2 (3 + k) fb N (HOk.out.doc.kept HKp2.out (fun j => pnet_far (by omega))) HOk.out.room at_ HOk.out.small); have hx2 : w2.heap[w.heap.size]? = w1.heap[w.heap.size]? := HKp2.out.block _ hlb (by rw [HKo.out]; exact pnet_far (by omega)); have r2 : w2.cell? ⟨w.heap.size, 2, none⟩ = _ := (World.cell?_of_block hx2).trans b2; clear hn2 hk2 hx2) | fail)
  have HKS := hide HE.out.1
  have HXS : Hid (upd x k (some ⟨nb, fb, N.dbl at_⟩) k = some ⟨nb, fb, N.dbl at_⟩) := by show _ = _; unfold upd; rw [if_pos rfl]
  have HKP := hide ((kp_below HB1.out PPl K (0, 0)).trans (HE.out.2.mono (kp_one hk)))
  go_wp2_with fail
  have hoE := HKS.out.ok k _ hk HXS.out
  have HLe := hide (nlen_any _ _ _ _ _ hoE.net)
  have HFe := hide (flen_any _ _ _ _ _ hoE.doc)
  have HLo := hide (lost_any _ _ _ _ _ hoE.net)
  have HFo := hide (flost_any _ _ _ _ _ hoE.doc)
  clear hoE
  refine HLe.out.mono ?_
  rintro e w9 ⟨rfl, h9⟩
  have h9 := h9.symm
  subst h9
  go_wp2_with fail
  refine HFe.out.mono ?_
  rintro e w9 ⟨rfl, h9⟩
  have h9 := h9.symm
  subst h9
  go_wp2_with fail
  refine HLo.out.mono ?_
  rintro e w9 ⟨rfl, h9⟩
  have h9 := h9.symm
  subst h9
  go_wp2_with fail
  refine HFo.out.mono ?_
  rintro e w9 ⟨rfl, h9⟩
  have h9 := h9.symm
  subst h9
  go_wp2
  go_ret
  exact ⟨rfl, _, _, _, HKS.out.more (by omega), ⟨rfl, Nat.le_succ _⟩, HKP.out⟩

set_option maxRecDepth 100000 in
set_option maxHeartbeats 4000000 in
theorem plays_look (w : World) (K : Knd) (sb bb M : Nat) (x : Nat → Option Sl) (mark : Bm) (h : Sg w K sb bb M x mark) (_hM : M ≤ 1099511627776) (_hmn : mark.n ≤ 5000) (wh at_ ad : Int) (bp : Option Addr) (bl bc : Nat) (s0 : Sl) (hs0 : x (wh % 2).toNat = some s0) :
    Calls Try.prog 7 #[.pointer (some ⟨sb, 0, none⟩), .agg #[.int .i64 2, .int .i64 wh, .int .i64 at_, .int .i64 ad, .slice bp bl bc]] w (PlPost K sb bb M mark w) := by
  obtain ⟨w1, hw1⟩ : ∃ w1, w.alloc (.cells #[.int .i64 2, .int .i64 wh, .int .i64 at_, .int .i64 ad, .slice bp bl bc] 61) = w1 := ⟨_, rfl⟩
  have hb1 : Below w.heap.size w w1 := by rw [← hw1]; exact (Below.refl _ _).alloc (Nat.le_refl _) _
  have hx1 : w1.heap[w.heap.size]? = some (.cells #[.int .i64 2, .int .i64 wh, .int .i64 at_, .int .i64 ad, .slice bp bl bc] 61 (0, 0)) := by rw [← hw1]; exact heap_alloc_new _ _
  have HS1 := hide (h.below hb1)
  have HB1 := hide hb1
  have HX1 := hide hx1
  obtain ⟨k, hkk⟩ : ∃ k, (wh % 2).toNat = k := ⟨_, rfl⟩
  have hk : k < 2 := by omega
  have HIn := hide (into_any w1 wh 2 (by omega) (by omega))
  rw [show ((2 : Nat) : Int) = 2 from rfl, hkk] at HIn
  have k0 : (0 : Int) ≤ (k : Int) := by omega
  have k1 : (k : Int) < 2 := by omega
  obtain ⟨c0, c1, c2, c3, cf⟩ := HS1.out.cells hk
  obtain ⟨b0, b1, b2, b3, b4⟩ := blk5 hx1
  have hlb := lt_of_block hx1
  have hsl := lt_of_block HS1.out.blk
  have HKo : Hid (ext K w.heap.size (0, 0) w.heap.size = (0, 0)) := ext_new _ _ (Nat.le_refl _)
  rw [hkk] at hs0
  obtain ⟨nb, fb, N⟩ := s0
  have HS0 := hide hs0
  rw [hs0] at c0 c1
  unfold ptrN at c0
  unfold ptrF at c1
  simp only [Option.map_some] at c0 c1
  have hok := HS1.out.ok k _ hk hs0
  have HOk := hide hok
  clear hb1 hx1 h hkk hs0 hok
  go_enter Try.func7, Try.ntmps7
  go_wp2_with fail
  refine HIn.out.mono ?_
  rintro e w9 ⟨rfl, h9⟩
  have h9 := h9.symm
  subst h9
  obtain ⟨hv, hhv⟩ : ∃ hv, N.has at_ = hv := ⟨_, rfl⟩
  obtain ⟨tv, htv⟩ : ∃ tv, N.tell at_ = tv := ⟨_, rfl⟩
  have htl : tv.2.length ≤ 4096 := by rw [← htv]; exact tell_len HOk.out.small
  have hsm : ∀ y ∈ tv.2, y < 256 := by rw [← htv]; exact tell_small
  obtain ⟨t1, xs⟩ := tv
  simp only at htl hsm
  have HSm := hide hsm
  clear hsm
  obtain ⟨l, hl⟩ : ∃ l, xs.length = l := ⟨_, rfl⟩
  have HXl := hide hl
  rw [hl] at htl
  have LK : Hid (∀ W, Below w1.heap.size w1 W → Calls Try.prog 16 #[.pointer (some ⟨nb, 0, none⟩), .int .i64 at_] W fun e W' => ∃ p c, e = .returned (.tuple #[.agg #[.int .i64 t1, .slice p l c], .bool hv]) ∧ Q.ownsQ true W' W.heap.size 5 1 (.slice p l c) l (vals xs) ∧ Below W.heap.size W W') := fun W hW => by
    have := Look_u W _ (1 + k) nb N (HOk.out.net.kept (kp_below hW (fun _ => False) _ (0, 0)) (fun _ h => h)) at_ HOk.out.small
    unfold LkP at this
    rw [htv, hhv] at this
    simp only [hl] at this
    exact this.mono fun e W' ⟨p, c, q1, q2, _, q3⟩ => ⟨p, c, q1, q2, q3⟩
  have FL : Hid (∀ W, Below w1.heap.size w1 W → Calls Try.prog 18 #[.pointer (some ⟨fb, 0, none⟩), .int .i64 at_] W fun e W' => ∃ p c, e = .returned (.tuple #[.agg #[.int .i64 t1, .slice p l c], .bool hv]) ∧ Bytes W' p xs ∧ Below W.heap.size W W' ∧ ∀ g q, p = some ⟨g, q, none⟩ → W.heap.size ≤ g) := fun W hW => by
    have := FLook_u W _ (3 + k) fb N (HOk.out.doc.kept (kp_below hW (fun _ => False) _ (0, 0)) (fun _ h => h)) at_ HOk.out.small
    unfold LkU at this
    rw [htv, hhv] at this
    simp only [hl] at this
    exact this
  clear htv hhv hl
  have HLA := hide (LK.out w1.drew ((Below.refl _ _).drew))
  have HLB := hide (LK.out (w1.alloc (.cells #[.int .i64 0, .slice none 0 0] 75)).drew (((Below.refl _ _).alloc (Nat.le_refl _) _).drew))
  go_upto_region 16 with (fail)
  go_cut [11, 12] (fun a b wx => ∃ (f : Nat) (p : Option Addr) (c : Nat), a = .pointer (some ⟨f, 0, none⟩) ∧ b = .bool hv ∧ Hid (wx.heap[f]? = some (.cells #[.int .i64 t1, .slice p l c] 75 (0, 0))) ∧ Hid (Q.ownsQ true wx w1.heap.size 5 1 (.slice p l c) l (vals xs)) ∧ Hid (Below w1.heap.size w1 wx))
  case first =>
    go_region_law (first | (go_simp; go_at_call 16; refine HLA.out.mono ?_; rintro e w2 ⟨p, c, rfl, hy2, hb2⟩; have HY2 := hide hy2; have HB2 := hide hb2; clear hy2 hb2) | (go_simp; go_at_call 16; refine HLB.out.mono ?_; rintro e w2 ⟨p, c, rfl, hy2, hb2⟩; have HY2 := hide hy2; have HB2 := hide hb2; have hr2 : w2.heap[w1.heap.size]? = _ := (hb2.block w1.heap.size (by simp [World.drew])).trans (heap_alloc_new w1 (.cells #[.int .i64 0, .slice none 0 0] 75)); have HR2 := hide hr2; obtain ⟨z0, z1⟩ := blk2 hr2; have zf : ∀ j, w2.frozen? ⟨w1.heap.size, j, none⟩ = false := (fun j => by simp [World.frozen?, hr2]); have hlt2 := lt_of_block hr2; clear hy2 hb2 hr2))
    all_goals go_wp2
    all_goals go_meet
    all_goals first
      | exact ⟨w2.heap.size, p, c, rfl, rfl, hide (heap_alloc_new _ _), hide (bq_below HY2.out ((Below.refl _ _).alloc (Nat.le_refl _) _)), hide ((show Below w1.heap.size w1 w2 from ⟨HB2.out.os, HB2.out.tape, HB2.out.output, HB2.out.size, HB2.out.block⟩).alloc HB2.out.size _)⟩
      | exact ⟨w1.heap.size, p, c, rfl, rfl, hide (store2 HR2.out), hide (row_set HY2.out (by simp [World.drew])), hide (((((Below.refl _ _).alloc (Nat.le_refl _) _).drew.trans (HB2.out.mono (by simp [World.drew]))).setCell (p := ⟨w1.heap.size, 0, none⟩) (Nat.le_refl _) _).setCell (p := ⟨w1.heap.size, 1, none⟩) (Nat.le_refl _) _)⟩
  case rest =>
    obtain ⟨f, p, c, rfl, rfl, HF, HY, HB⟩ := hcut
    have hfl := lt_of_block HF.out
    have p2 : wc.cell? ⟨w.heap.size, 2, none⟩ = _ := (HB.out.cell (p := ⟨w.heap.size, 2, none⟩) hlb).trans b2
    have HFL := hide (FL.out wc HB.out)
    clear b0 b1 b2 b3 b4 c0 c1 c2 c3 cf
    go_wp2_with fail
    refine HFL.out.mono ?_
    rintro e w4 ⟨p', c', rfl, hy4, hb4, _⟩
    have hf4 : w4.heap[f]? = _ := (hb4.block f hfl).trans HF.out
    have hb5 : Below w4.heap.size w4 (w4.alloc (.cells #[.int .i64 t1, .slice p' l c'] 75)) := (Below.refl _ _).alloc (Nat.le_refl _) _
    have hx5 : (w4.alloc (.cells #[.int .i64 t1, .slice p' l c'] 75)).heap[f]? = _ := (hb5.block _ (lt_of_block hf4)).trans hf4
    have hx6 : (w4.alloc (.cells #[.int .i64 t1, .slice p' l c'] 75)).heap[w4.heap.size]? = some (.cells #[.int .i64 t1, .slice p' l c'] 75 (0, 0)) := heap_alloc_new _ _
    have hbA : Below w1.heap.size w1 (w4.alloc (.cells #[.int .i64 t1, .slice p' l c'] 75)) := (HB.out.trans (hb4.mono HB.out.size)).alloc (Nat.le_trans HB.out.size hb4.size) _
    have HSA := hide (HS1.out.kept (kp_below hbA (fun _ => False) (ext K w.heap.size (0, 0)) (5, 2)) (fun _ _ h => h))
    have HTo := hide (told_any _ _ sb bb M x mark HSA.out t1 hv p p' l c c' w1.heap.size xs HXl.out (by omega) (bq_below (bq_below HY.out hb4) hb5) HSm.out (hy4.below hb5) _hmn (fun g e => ext_new _ _ (Q.owns_low HY.out g e)) (fun y hy g e e' => absurd (Q.owns_lt (HS1.out.bt.bk.rows y hy) g e') (by have := Q.owns_low HY.out g e; omega)))
    have HKA := hide (kp_below hbA PPl (ext K w.heap.size (0, 0)) (5, 2))
    obtain ⟨x0, x1⟩ := blk2 hx5
    obtain ⟨y0, y1⟩ := blk2 hx6
    have l5 := lt_of_block hx5
    have l6 := lt_of_block hx6
    clear hy4 hb4 hf4 hb5 hx5 hx6 hbA
    go_wp2_with fail
    refine HTo.out.mono ?_
    rintro e w7 ⟨rfl, K7, m7, hs7, hm7, hk7⟩
    have HKS := hide hs7
    have HXS := HS0
    have HMk := hide hm7
    have HKP := hide ((kp_below HB1.out PPl K (0, 0)).trans (HKA.out.trans (hk7.mono (fun q e => Or.inl (by rcases e with e | e <;> (subst e; exact ⟨by decide, by decide⟩))))))
    clear hs7 hm7 hk7
    have hoE := HKS.out.ok k _ hk HXS.out
    have HLe := hide (nlen_any _ _ _ _ _ hoE.net)
    have HFe := hide (flen_any _ _ _ _ _ hoE.doc)
    have HLo := hide (lost_any _ _ _ _ _ hoE.net)
    have HFo := hide (flost_any _ _ _ _ _ hoE.doc)
    clear hoE
    go_wp2_with fail
    refine HLe.out.mono ?_
    rintro e w9 ⟨rfl, h9⟩
    have h9 := h9.symm
    subst h9
    go_wp2_with fail
    refine HFe.out.mono ?_
    rintro e w9 ⟨rfl, h9⟩
    have h9 := h9.symm
    subst h9
    go_wp2_with fail
    refine HLo.out.mono ?_
    rintro e w9 ⟨rfl, h9⟩
    have h9 := h9.symm
    subst h9
    go_wp2_with fail
    refine HFo.out.mono ?_
    rintro e w9 ⟨rfl, h9⟩
    have h9 := h9.symm
    subst h9
    go_wp2
    go_ret
    exact ⟨rfl, _, _, _, HKS.out.more (by omega), HMk.out, HKP.out⟩

set_option maxRecDepth 100000 in
set_option maxHeartbeats 4000000 in
theorem plays_take (w : World) (K : Knd) (sb bb M : Nat) (x : Nat → Option Sl) (mark : Bm) (h : Sg w K sb bb M x mark) (_hM : M ≤ 1099511627776) (_hmn : mark.n ≤ 5000) (wh at_ ad : Int) (bp : Option Addr) (bl bc : Nat) (s0 : Sl) (hs0 : x (wh % 2).toNat = some s0) :
    Calls Try.prog 7 #[.pointer (some ⟨sb, 0, none⟩), .agg #[.int .i64 3, .int .i64 wh, .int .i64 at_, .int .i64 ad, .slice bp bl bc]] w (PlPost K sb bb M mark w) := by
  obtain ⟨w1, hw1⟩ : ∃ w1, w.alloc (.cells #[.int .i64 3, .int .i64 wh, .int .i64 at_, .int .i64 ad, .slice bp bl bc] 61) = w1 := ⟨_, rfl⟩
  have hb1 : Below w.heap.size w w1 := by rw [← hw1]; exact (Below.refl _ _).alloc (Nat.le_refl _) _
  have hx1 : w1.heap[w.heap.size]? = some (.cells #[.int .i64 3, .int .i64 wh, .int .i64 at_, .int .i64 ad, .slice bp bl bc] 61 (0, 0)) := by rw [← hw1]; exact heap_alloc_new _ _
  have HS1 := hide (h.below hb1)
  have HB1 := hide hb1
  have HX1 := hide hx1
  obtain ⟨k, hkk⟩ : ∃ k, (wh % 2).toNat = k := ⟨_, rfl⟩
  have hk : k < 2 := by omega
  have HIn := hide (into_any w1 wh 2 (by omega) (by omega))
  rw [show ((2 : Nat) : Int) = 2 from rfl, hkk] at HIn
  have k0 : (0 : Int) ≤ (k : Int) := by omega
  have k1 : (k : Int) < 2 := by omega
  obtain ⟨c0, c1, c2, c3, cf⟩ := HS1.out.cells hk
  obtain ⟨b0, b1, b2, b3, b4⟩ := blk5 hx1
  have hlb := lt_of_block hx1
  have hsl := lt_of_block HS1.out.blk
  have HKo : Hid (ext K w.heap.size (0, 0) w.heap.size = (0, 0)) := ext_new _ _ (Nat.le_refl _)
  rw [hkk] at hs0
  obtain ⟨nb, fb, N⟩ := s0
  have HS0 := hide hs0
  rw [hs0] at c0 c1
  unfold ptrN at c0
  unfold ptrF at c1
  simp only [Option.map_some] at c0 c1
  have hok := HS1.out.ok k _ hk hs0
  have HOk := hide hok
  clear hb1 hx1 h hkk hs0 hok
  go_enter Try.func7, Try.ntmps7
  go_wp2_with fail
  refine HIn.out.mono ?_
  rintro e w9 ⟨rfl, h9⟩
  have h9 := h9.symm
  subst h9
  obtain ⟨hv, hhv⟩ : ∃ hv, N.has at_ = hv := ⟨_, rfl⟩
  obtain ⟨tv, htv⟩ : ∃ tv, N.tell at_ = tv := ⟨_, rfl⟩
  have htl : tv.2.length ≤ 4096 := by rw [← htv]; exact tell_len HOk.out.small
  have hsm : ∀ y ∈ tv.2, y < 256 := by rw [← htv]; exact tell_small
  obtain ⟨t1, xs⟩ := tv
  simp only at htl hsm
  have HSm := hide hsm
  clear hsm
  obtain ⟨l, hl⟩ : ∃ l, xs.length = l := ⟨_, rfl⟩
  have HXl := hide hl
  rw [hl] at htl
  have hrow : N.row.length ≤ 8192 := Nat.le_trans HOk.out.le HOk.out.room
  have TK : Hid (∀ (W : World) (KW : Knd), Nk W KW (1 + k) nb N → Calls Try.prog 22 #[.pointer (some ⟨nb, 0, none⟩), .int .i64 at_] W fun e W' => ∃ p c, e = .returned (.tuple #[.agg #[.int .i64 t1, .slice p l c], .bool hv]) ∧ Q.ownsQ true W' W.heap.size 5 1 (.slice p l c) l (vals xs) ∧ Nk W' (ext KW W.heap.size (5, 2)) (1 + k) nb (N.dropped at_) ∧ Kp (PNet (1 + k)) KW (ext KW W.heap.size (5, 2)) W W') := fun W KW hW => by
    have := Take_u W KW (5, 2) (1 + k) nb (by show 5 ≠ 1 + k; omega) N hW hrow HOk.out.small at_
    unfold TkU at this
    rw [htv, hhv] at this
    simp only [hl] at this
    exact this.mono fun e W' ⟨p, c, q1, q2, _, q3, q4⟩ => ⟨p, c, q1, q2, q3, q4⟩
  have FT : Hid (∀ (W : World) (KW : Knd), Fk W KW (3 + k) fb N → Calls Try.prog 30 #[.pointer (some ⟨fb, 0, none⟩), .int .i64 at_] W fun e W' => ∃ K' p c, e = .returned (.tuple #[.agg #[.int .i64 t1, .slice p l c], .bool hv]) ∧ Bytes W' p xs ∧ Fk W' K' (3 + k) fb (N.dropped at_) ∧ Kp (PNet (3 + k)) KW K' W W') := fun W KW hW => by
    have := FTake_u W KW (3 + k) fb (by omega) N hW hrow at_ HOk.out.small
    unfold FTkU at this
    rw [htv, hhv] at this
    simp only [hl] at this
    exact this
  clear htv hhv hl
  have hbZ : Below w1.heap.size w1 (w1.alloc (.cells #[.int .i64 0, .slice none 0 0] 75)).drew := ((Below.refl _ _).alloc (Nat.le_refl _) _).drew
  have kpA : Kp (fun _ => False) (ext K w.heap.size (0, 0)) (ext K w.heap.size (0, 0)) w1 w1.drew := (Kp.refl _ _ _).drew
  have kpB : Kp (fun _ => False) (ext K w.heap.size (0, 0)) (ext (ext K w.heap.size (0, 0)) w1.heap.size (0, 0)) w1 (w1.alloc (.cells #[.int .i64 0, .slice none 0 0] 75)).drew := kp_below hbZ _ _ _
  have HTA := hide (TK.out w1.drew _ (HOk.out.net.kept kpA (fun _ h => h)))
  have HTB := hide (TK.out (w1.alloc (.cells #[.int .i64 0, .slice none 0 0] 75)).drew _ (HOk.out.net.kept kpB (fun _ h => h)))
  have HKA := hide kpA
  have HKB := hide kpB
  clear hbZ kpA kpB
  have HN0 : Hid (¬ PNet (1 + k) (0, 0)) := pnet_far (by omega)
  go_upto_region 20 with (fail)
  go_cut [15, 16] (fun a b wx => ∃ (f : Nat) (p : Option Addr) (c : Nat) (Kx : Knd), a = .pointer (some ⟨f, 0, none⟩) ∧ b = .bool hv ∧ Hid (wx.heap[f]? = some (.cells #[.int .i64 t1, .slice p l c] 75 (0, 0))) ∧ Hid (Q.ownsQ true wx w1.heap.size 5 1 (.slice p l c) l (vals xs)) ∧ Hid (Nk wx Kx (1 + k) nb (N.dropped at_)) ∧ Hid (Kp (PNet (1 + k)) (ext K w.heap.size (0, 0)) Kx w1 wx) ∧ Hid (Kx f = (0, 0)) ∧ Hid (∀ g, (Value.slice p l c).ownBlock = some g → Kx g = (5, 2)))
  case first =>
    go_region_law (first | (go_simp; go_at_call 22; refine HTA.out.mono ?_; rintro e w2 ⟨p, c, rfl, hy2, hn2, hk2⟩; have HY2 := hide hy2; have HN2 := hide hn2; have HK2 := hide hk2; clear hy2 hn2 hk2) | (go_simp; go_at_call 22; refine HTB.out.mono ?_; rintro e w2 ⟨p, c, rfl, hy2, hn2, hk2⟩; have HY2 := hide hy2; have HN2 := hide hn2; have HK2 := hide hk2; have hr2 : w2.heap[w1.heap.size]? = _ := (hk2.block w1.heap.size (by simp [World.drew]) (by rw [ext_new _ _ (Nat.le_refl _)]; exact HN0.out)).trans (heap_alloc_new w1 (.cells #[.int .i64 0, .slice none 0 0] 75)); have HR2 := hide hr2; obtain ⟨z0, z1⟩ := blk2 hr2; have zf : ∀ j, w2.frozen? ⟨w1.heap.size, j, none⟩ = false := (fun j => by simp [World.frozen?, hr2]); have hlt2 := lt_of_block hr2; clear hy2 hn2 hk2 hr2))
    all_goals go_wp2
    all_goals go_meet
    all_goals first
      | (have hbZ : Below w2.heap.size w2 (w2.alloc (.cells #[.int .i64 t1, .slice p l c] 75)) := (Below.refl _ _).alloc (Nat.le_refl _) _
         have kz := kp_below hbZ (fun _ => False) (ext (ext K w.heap.size (0, 0)) w1.drew.heap.size (5, 2)) (0, 0)
         refine ⟨w2.heap.size, p, c, _, rfl, rfl, hide (heap_alloc_new _ _), hide (bq_below HY2.out hbZ), hide (HN2.out.kept kz (fun _ h => h)), hide (((HKA.out.mono (fun _ h => h.elim)).trans HK2.out).trans (kz.mono (fun _ h => h.elim))), hide (ext_new _ _ (Nat.le_refl _)), hide (fun g e => ?_)⟩
         rw [ext_old _ _ (Q.owns_lt HY2.out g e), ext_new _ _ (Q.owns_low HY2.out g e)])
      | (have kz : ∀ u v, Kp (fun q => q = (0, 0)) (ext (ext (ext K w.heap.size (0, 0)) w1.heap.size (0, 0)) (w1.alloc (.cells #[.int .i64 0, .slice none 0 0] 75)).drew.heap.size (5, 2)) (ext (ext (ext K w.heap.size (0, 0)) w1.heap.size (0, 0)) (w1.alloc (.cells #[.int .i64 0, .slice none 0 0] 75)).drew.heap.size (5, 2)) w2 ((w2.setCell ⟨w1.heap.size, 0, none⟩ u).setCell ⟨w1.heap.size, 1, none⟩ v) := fun u v => by
           have e : (ext (ext (ext K w.heap.size (0, 0)) w1.heap.size (0, 0)) (w1.alloc (.cells #[.int .i64 0, .slice none 0 0] 75)).drew.heap.size (5, 2)) w1.heap.size = (0, 0) := by rw [ext_old _ _ (by simp [World.drew]), ext_new _ _ (Nat.le_refl _)]
           exact ((Kp.refl (fun q => q = (0, 0)) _ w2).setCell (b := w1.heap.size) (Or.inr e) _ _).setCell (b := w1.heap.size) (Or.inr e) _ _
         have kq : ∀ u v, Kp (PNet (1 + k)) (ext K w.heap.size (0, 0)) (ext (ext (ext K w.heap.size (0, 0)) w1.heap.size (0, 0)) (w1.alloc (.cells #[.int .i64 0, .slice none 0 0] 75)).drew.heap.size (5, 2)) w1 ((w2.setCell ⟨w1.heap.size, 0, none⟩ u).setCell ⟨w1.heap.size, 1, none⟩ v) := fun u v => ((((HKB.out.mono (fun _ h => h.elim)).trans HK2.out)).setCell (b := w1.heap.size) (Or.inl (Nat.le_refl _)) _ _).setCell (b := w1.heap.size) (Or.inl (Nat.le_refl _)) _ _
         refine ⟨w1.heap.size, p, c, _, rfl, rfl, hide (store2 HR2.out), hide (row_set HY2.out (by simp [World.drew])), hide (HN2.out.kept (kz _ _) (fun j e => by have h9 : 1 + k = 0 := congrArg Prod.fst e; omega)), hide (kq _ _), hide (by rw [ext_old _ _ (by simp [World.drew]), ext_new _ _ (Nat.le_refl _)]), hide (fun g e => ext_new _ _ (Q.owns_low HY2.out g e))⟩)
  case rest =>
    obtain ⟨f, p, c, Kx, rfl, rfl, HF, HY, HNx, HKx, HKf, HPx⟩ := hcut
    have hfl := lt_of_block HF.out
    have hxo : wc.heap[w.heap.size]? = w1.heap[w.heap.size]? := HKx.out.block _ hlb (by rw [HKo.out]; exact HN0.out)
    have p2 : wc.cell? ⟨w.heap.size, 2, none⟩ = _ := (World.cell?_of_block hxo).trans b2
    have HFT := hide (FT.out wc Kx (HOk.out.doc.kept HKx.out (fun j => pnet_far (by omega))))
    clear b0 b1 b2 b3 b4 c0 c1 c2 c3 cf hxo
    go_wp2_with fail
    refine HFT.out.mono ?_
    rintro e w4 ⟨K4, p', c', rfl, hy4, hf4, hk4⟩
    have hne : ¬ PNet (3 + k) (0, 0) := pnet_far (by omega)
    obtain ⟨⟨hE, hEk⟩, _, _, _⟩ := HS1.out.turnC hk HS0.out HKx.out hk4 (dropped_ok at_ HOk.out.le) HNx.out hf4 hlb HKo.out
    have hff : w4.heap[f]? = _ := (hk4.block f hfl (by rw [HKf.out]; exact hne)).trans HF.out
    have hyp : Q.ownsQ true w4 w1.heap.size 5 1 (.slice p l c) l (vals xs) := Q.owns_kept' HY.out (fun g e => hk4.block g (Q.owns_lt HY.out g e) (by rw [HPx.out g e]; exact pnet_far (by show 5 ≠ 3 + k; omega)))
    have hb5 : Below w4.heap.size w4 (w4.alloc (.cells #[.int .i64 t1, .slice p' l c'] 75)) := (Below.refl _ _).alloc (Nat.le_refl _) _
    have hx5 : (w4.alloc (.cells #[.int .i64 t1, .slice p' l c'] 75)).heap[f]? = _ := (hb5.block _ (lt_of_block hff)).trans hff
    have hx6 : (w4.alloc (.cells #[.int .i64 t1, .slice p' l c'] 75)).heap[w4.heap.size]? = some (.cells #[.int .i64 t1, .slice p' l c'] 75 (0, 0)) := heap_alloc_new _ _
    have HSA := hide (hE.below hb5)
    have HTo := hide (told_any _ _ sb bb (M + 0) _ mark HSA.out t1 hv p p' l c c' w1.heap.size xs HXl.out (by omega) (bq_below hyp hb5) HSm.out (hy4.below hb5) _hmn (fun g e => by rw [ext_old _ _ (Q.owns_lt hyp g e), hk4.same g (Q.owns_lt HY.out g e)]; exact HPx.out g e) (fun y hy g e e' => absurd (Q.owns_lt (HS1.out.bt.bk.rows y hy) g e') (by have := Q.owns_low HY.out g e; omega)))
    have HKA2 := hide ((hEk.mono (kp_one hk)).trans (kp_below hb5 PPl _ (0, 0)))
    obtain ⟨x0, x1⟩ := blk2 hx5
    obtain ⟨y0, y1⟩ := blk2 hx6
    have l5 := lt_of_block hx5
    have l6 := lt_of_block hx6
    clear hy4 hf4 hk4 hff hyp hb5 hx5 hx6 hE hEk
    go_wp2_with fail
    refine HTo.out.mono ?_
    rintro e w7 ⟨rfl, K7, m7, hs7, hm7, hk7⟩
    have HKS := hide hs7
    have HXS : Hid (upd x k (some ⟨nb, fb, N.dropped at_⟩) k = some ⟨nb, fb, N.dropped at_⟩) := by show _ = _; unfold upd; rw [if_pos rfl]
    have HMk := hide hm7
    have HKP := hide ((kp_below HB1.out PPl K (0, 0)).trans (HKA2.out.trans (hk7.mono (fun q e => Or.inl (by rcases e with e | e <;> (subst e; exact ⟨by decide, by decide⟩))))))
    clear hs7 hm7 hk7
    have hoE := HKS.out.ok k _ hk HXS.out
    have HLe := hide (nlen_any _ _ _ _ _ hoE.net)
    have HFe := hide (flen_any _ _ _ _ _ hoE.doc)
    have HLo := hide (lost_any _ _ _ _ _ hoE.net)
    have HFo := hide (flost_any _ _ _ _ _ hoE.doc)
    clear hoE
    go_wp2_with fail
    refine HLe.out.mono ?_
    rintro e w9 ⟨rfl, h9⟩
    have h9 := h9.symm
    subst h9
    go_wp2_with fail
    refine HFe.out.mono ?_
    rintro e w9 ⟨rfl, h9⟩
    have h9 := h9.symm
    subst h9
    go_wp2_with fail
    refine HLo.out.mono ?_
    rintro e w9 ⟨rfl, h9⟩
    have h9 := h9.symm
    subst h9
    go_wp2_with fail
    refine HFo.out.mono ?_
    rintro e w9 ⟨rfl, h9⟩
    have h9 := h9.symm
    subst h9
    go_wp2
    go_ret
    exact ⟨rfl, _, _, _, HKS.out.more (by omega), HMk.out, HKP.out⟩

set_option maxRecDepth 100000 in
set_option maxHeartbeats 4000000 in
theorem plays_send (w : World) (K : Knd) (sb bb M : Nat) (x : Nat → Option Sl) (mark : Bm) (h : Sg w K sb bb M x mark) (_hM : M ≤ 1099511627776) (_hmn : mark.n ≤ 5000) (wh at_ ad : Int) (bp : Option Addr) (bl bc : Nat) (s0 : Sl) (hs0 : x (wh % 2).toNat = some s0) (ys : List Nat) (hys : ys.length = bl) (hy : Bytes w bp ys) (hbc : bl ≤ bc) (hbc2 : bc ≤ 9223372036854775807) (hkp : ys = [] ∨ ∀ g q, bp = some ⟨g, q, none⟩ → g < w.heap.size ∧ K g = (0, 0)) :
    Calls Try.prog 7 #[.pointer (some ⟨sb, 0, none⟩), .agg #[.int .i64 1, .int .i64 wh, .int .i64 at_, .int .i64 ad, .slice bp bl bc]] w (PlPost K sb bb M mark w) := by
  obtain ⟨w1, hw1⟩ : ∃ w1, w.alloc (.cells #[.int .i64 1, .int .i64 wh, .int .i64 at_, .int .i64 ad, .slice bp bl bc] 61) = w1 := ⟨_, rfl⟩
  have hb1 : Below w.heap.size w w1 := by rw [← hw1]; exact (Below.refl _ _).alloc (Nat.le_refl _) _
  have hx1 : w1.heap[w.heap.size]? = some (.cells #[.int .i64 1, .int .i64 wh, .int .i64 at_, .int .i64 ad, .slice bp bl bc] 61 (0, 0)) := by rw [← hw1]; exact heap_alloc_new _ _
  have HS1 := hide (h.below hb1)
  have HB1 := hide hb1
  have HX1 := hide hx1
  obtain ⟨k, hkk⟩ : ∃ k, (wh % 2).toNat = k := ⟨_, rfl⟩
  have hk : k < 2 := by omega
  have HIn := hide (into_any w1 wh 2 (by omega) (by omega))
  rw [show ((2 : Nat) : Int) = 2 from rfl, hkk] at HIn
  have k0 : (0 : Int) ≤ (k : Int) := by omega
  have k1 : (k : Int) < 2 := by omega
  obtain ⟨c0, c1, c2, c3, cf⟩ := HS1.out.cells hk
  obtain ⟨b0, b1, b2, b3, b4⟩ := blk5 hx1
  have hlb := lt_of_block hx1
  have hsl := lt_of_block HS1.out.blk
  have HKo : Hid (ext K w.heap.size (0, 0) w.heap.size = (0, 0)) := ext_new _ _ (Nat.le_refl _)
  rw [hkk] at hs0
  obtain ⟨nb, fb, N⟩ := s0
  have HS0 := hide hs0
  rw [hs0] at c0 c1
  unfold ptrN at c0
  unfold ptrF at c1
  simp only [Option.map_some] at c0 c1
  have hok := HS1.out.ok k _ hk hs0
  have HOk := hide hok
  clear hb1 hx1 h hkk hs0 hok
  go_enter Try.func7, Try.ntmps7
  go_wp2_with fail
  refine HIn.out.mono ?_
  rintro e w9 ⟨rfl, h9⟩
  have h9 := h9.symm
  subst h9
  obtain ⟨xs, hxs⟩ : ∃ xs, ys.take 4096 = xs := ⟨_, rfl⟩
  obtain ⟨n, hn⟩ : ∃ n, min bl 4096 = n := ⟨_, rfl⟩
  have hxl : xs.length = n := by rw [← hxs, List.length_take]; omega
  have hn4 : n ≤ 4096 := by omega
  have hyx : Bytes w1 bp xs := by rw [← hxs]; exact bytes_take (hy.below HB1.out) _
  have HCl := hide (clip_any w1 bp bl bc hbc hbc2)
  rw [hn] at HCl
  have HLd := hide (lend_any w1 bp n bc xs hxl hyx (by omega))
  have HXl := hide hxl
  have HYx := hide hyx
  have HKb : Hid (xs = [] ∨ ∀ g q, bp = some ⟨g, q, none⟩ → g < w.heap.size ∧ K g = (0, 0)) := hkp.imp (fun e => by rw [← hxs, e]; rfl) id
  clear hxs hn hxl hyx hkp hy hys hbc hbc2
  go_wp2_with fail
  refine HCl.out.mono ?_
  rintro e w9 ⟨rfl, h9⟩
  have h9 := h9.symm
  subst h9
  go_wp2_with fail
  refine HLd.out.mono ?_
  rintro e w2 ⟨g, c', rfl, hr2, hb2⟩
  have hsmall : ∀ q ∈ xs ++ marks, q < 256 := fun q hq => by
    rcases List.mem_append.1 hq with e | e
    · exact HYx.out.small q e
    · exact marks_small q e
  have HOw := hide ((own_full hsmall hr2).mono (Nat.zero_le _))
  have HGn : Hid (w1.heap.size ≤ g) := (own_full hsmall hr2).base
  have HB2 := hide hb2
  have HKL := hide (kp_below hb2 (fun _ => False) (ext K w.heap.size (0, 0)) (60, 0))
  have HS2 := hide (HS1.out.kept HKL.out (fun _ _ h => h))
  have HO2 := hide (HOk.out.kept HKL.out (fun _ h => h) (fun _ h => h))
  have HK2g : Hid (ext (ext K w.heap.size (0, 0)) w1.heap.size (60, 0) g = (60, 0)) := ext_new _ _ HGn.out
  have HK2o : Hid (ext (ext K w.heap.size (0, 0)) w1.heap.size (60, 0) w.heap.size = (0, 0)) := by show _ = _; rw [ext_old _ _ hlb]; exact HKo.out
  have HK2b : Hid (xs = [] ∨ ∀ q o, bp = some ⟨q, o, none⟩ → ext (ext K w.heap.size (0, 0)) w1.heap.size (60, 0) q = (0, 0)) := HKb.out.imp id (fun h q o e => by
    have h1 := h q o e
    have h2 := HB1.out.size
    rw [ext_old _ _ (by omega), ext_old _ _ h1.1]; exact h1.2)
  have hlb2 : w.heap.size < w2.heap.size := Nat.lt_of_lt_of_le hlb hb2.size
  have d3 : w2.cell? ⟨w.heap.size, 3, none⟩ = _ := (hb2.cell (p := ⟨w.heap.size, 3, none⟩) hlb).trans b3
  have HYb := hide (HYx.out.below hb2)
  clear hr2 hb2 hsmall b0 b1 b2 b3 b4 c0 c1 c2 c3 cf
  generalize hK2 : ext (ext K w.heap.size (0, 0)) w1.heap.size (60, 0) = K2 at *
  clear hK2
  have kd : Kp (fun _ => False) K2 K2 w2 w2.drew := (Kp.refl _ _ _).drew
  have HSd := hide (Send_any w2.drew K2 (1 + k) nb N (HO2.out.net.kept kd (fun _ h => h)) HO2.out.room (Nat.lt_of_le_of_lt HO2.out.lost (by omega)) ad (some ⟨g, 0, none⟩) n c' xs ⟨HOw.out.front.small, HOw.out.front.lie⟩ HXl.out)
  have HKd := hide kd
  clear kd
  go_wp2_with fail
  go_region_held3 (fun w' => w'.cell? ⟨w.heap.size, 3, none⟩ = some (.int .i64 ad)) (go_keep) (first | (go_at_call 27; refine HIt.out.mono ?_; rintro e w5 ⟨rfl, q, hw5⟩; have HW5 := hide hw5; have u3 : w5.cell? ⟨w.heap.size, 3, none⟩ = some (.int .i64 ad) := (by rw [hw5]; exact v3); clear hw5) | (go_at_call 15; refine HFs.out.mono ?_; rintro e w4 ⟨K4, rfl, hn4, hk4⟩; obtain ⟨hE, _, _, hx4⟩ := HS2.out.turnC hk HS0.out HKp3.out hk4 (sent_ok (m := ⟨ad, str xs⟩) (by show (str xs).size ≤ 4096; rw [str_size HYx.out.small, HXl.out]; omega) HO2.out.le) HN3.out hn4 hlb2 HK2o.out; have HE := hide hE; have v3 : w4.cell? ⟨w.heap.size, 3, none⟩ = _ := (World.cell?_of_block hx4).trans d3; have ho4 : Own 0 w4 g c' (xs ++ marks) := own_kept HOw.out (hE.2.block g HOw.out.lt (by rw [HK2g.out]; exact pk_no _ (Or.inr (by show 5 ≤ 60; omega)) hk)); have hy4 : Bytes w4 bp xs := bytes_or HYb.out hE.2.size (HK2b.out.imp id (fun h q o e hq => hE.2.block q hq (by rw [h q o e]; exact pk_no _ (Or.inl rfl) hk))); have HO4 := hide ho4; have HIt := hide (intact_any w4 0 g c' n bp bc xs HXl.out ho4 hy4 (by omega)); clear hn4 hk4 hE hx4 ho4 hy4) | (go_at_call 12; refine HSd.out.mono ?_; rintro e w3 ⟨K3, rfl, hn3, hk3⟩; have HKp3 : Hid (Kp (PNet (1 + k)) K2 K3 w2 w3) := (HKd.out.mono (fun _ h => h.elim)).trans hk3; have HN3 := hide hn3; have HFs := hide (FSend_any w3 K3 (3 + k) fb N (HO2.out.doc.kept HKp3.out (fun j => pnet_far (by omega))) HO2.out.room (Nat.lt_of_le_of_lt HO2.out.lost (by omega)) ad bp n bc xs (bytes_or HYb.out HKp3.out.size (HK2b.out.imp id (fun h q o e hq => HKp3.out.block q hq (by rw [h q o e]; exact pnet_far (by omega))))) HXl.out (by omega)); have hx3 : w3.heap[w.heap.size]? = w2.heap[w.heap.size]? := HKp3.out.block _ hlb2 (by rw [HK2o.out]; exact pnet_far (by omega)); have r3 : w3.cell? ⟨w.heap.size, 3, none⟩ = _ := (World.cell?_of_block hx3).trans d3; clear hn3 hk3 hx3) | fail)
  have HK5 : Hid (Kp (Pk k) K2 K4 w2 w5) := by rw [HW5.out]; exact ⟨HE.out.2.os, HE.out.2.tape, HE.out.2.output, HE.out.2.size, HE.out.2.same, HE.out.2.block⟩
  have HS5 : Hid (Sg w5 K4 sb bb (M + 1) (upd x k (some ⟨nb, fb, N.send ⟨ad, str xs⟩⟩)) mark) := by
    rw [HW5.out]
    exact HE.out.1.kept (p := fun _ => False) (⟨rfl, rfl, rfl, Nat.le_refl _, fun _ _ => rfl, fun _ _ _ => rfl⟩ : Kp (fun _ => False) K4 K4 w4 (w4.drewN q)) (fun _ _ h => h)
  have HO5 : Hid (Own 0 w5 g c' (xs ++ marks)) := by rw [HW5.out]; exact own_kept HO4.out rfl
  have HOv := hide (over_any w5 K4 (60, 0) g n c' c' (xs ++ marks) (by rw [List.length_append, HXl.out]; omega) HO5.out ((HE.out.2.same g HOw.out.lt).trans HK2g.out) (by omega))
  go_wp2_with fail
  refine HOv.out.mono ?_
  rintro e w6 ⟨rfl, hk6⟩
  have HKS := hide (HS5.out.kept hk6 (fun q h e => by subst e; simp at h))
  have HXS : Hid (upd x k (some ⟨nb, fb, N.send ⟨ad, str xs⟩⟩) k = some ⟨nb, fb, N.send ⟨ad, str xs⟩⟩) := by show _ = _; unfold upd; rw [if_pos rfl]
  have HKP := hide ((kp_below HB1.out PPl K (0, 0)).trans (((HKL.out.mono (fun _ h => h.elim)).trans (HK5.out.mono (kp_one hk))).trans (hk6.mono (fun q e => by subst e; exact Or.inr rfl))))
  clear hk6
  have hoE := HKS.out.ok k _ hk HXS.out
  have HLe := hide (nlen_any _ _ _ _ _ hoE.net)
  have HFe := hide (flen_any _ _ _ _ _ hoE.doc)
  have HLo := hide (lost_any _ _ _ _ _ hoE.net)
  have HFo := hide (flost_any _ _ _ _ _ hoE.doc)
  clear hoE
  go_wp2_with fail
  refine HLe.out.mono ?_
  rintro e w9 ⟨rfl, h9⟩
  have h9 := h9.symm
  subst h9
  go_wp2_with fail
  refine HFe.out.mono ?_
  rintro e w9 ⟨rfl, h9⟩
  have h9 := h9.symm
  subst h9
  go_wp2_with fail
  refine HLo.out.mono ?_
  rintro e w9 ⟨rfl, h9⟩
  have h9 := h9.symm
  subst h9
  go_wp2_with fail
  refine HFo.out.mono ?_
  rintro e w9 ⟨rfl, h9⟩
  have h9 := h9.symm
  subst h9
  go_wp2
  go_ret
  exact ⟨rfl, _, _, _, HKS.out.more (by omega), ⟨rfl, Nat.le_succ _⟩, HKP.out⟩

end Go.Proofs.Ythgggjdefhgfiaa
