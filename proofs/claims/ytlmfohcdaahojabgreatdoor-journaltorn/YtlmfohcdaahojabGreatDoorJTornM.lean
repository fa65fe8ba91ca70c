import Derived.Test.YtlmfohcdaahojabGreatDoorJTornQ
import Derived.Test.YtlmfohcdaahojabGreatDoorJGoesAt
namespace Go.Proofs.YtlmfohcdaahojabGreatDoor
open Go.RowKit Go.Maps

theorem Tryz.infoI : (Tryz.prog.info? 3).map (fun i => (i.zero, i.size, i.bytes)) = some (some (.int .i64 0), 1, 8) := by kernel_rfl
/-- The ends of the first c records. -/
def es (l : List (List (List Nat))) (c : Nat) : List Value := (List.range c).map fun j => Value.int .i64 (endOf l (j + 1) : Int)
theorem es_succ (l : List (List (List Nat))) (c : Nat) : es l (c + 1) = es l c ++ [.int .i64 (endOf l (c + 1) : Int)] := by simp [es, List.range_succ]
theorem es_len (l : List (List (List Nat))) (c : Nat) : (es l c).length = c := by simp [es]
theorem es_at (l : List (List (List Nat))) {c j : Nat} (h : j < c) : (es l c)[j]? = some (.int .i64 (endOf l (j + 1) : Int)) := by simp [es, h]
/-- WHAT JournalTorn HOLDS in its first loop. -/
structure Tl (K5 : Knd) (w5 : World) (K : Knd) (wr : World) (d jb : Nat) (S : St) (J : Jr) (ev bv : Value) (ce cb : Nat) (l : List (List (List Nat))) : Prop where
  dk : Dk wr K 1 d S
  jk : Jk wr K 2 d jb J
  kp : Kp (Gq 1 2) K5 K w5 wr
  ends : wr.ownsRow w5.heap.size 3 1 ev ce (es l ce)
  ke : ∀ g, ev.ownBlock = some g → K g = (0, 0)
  bk : ∃ vs, Bop (Stay (Gq 1 2) K5 w5) wr K bv (l.take cb) vs ∧ wr.ownsRow w5.heap.size 46 1 bv cb vs
section
variable {K5 : Knd} {w5 : World} {K : Knd} {wr : World} {d jb : Nat} {S : St} {J : Jr} {ev bv : Value} {ce cb c : Nat} {l : List (List (List Nat))}
theorem Tl.still (h : Tl K5 w5 K wr d jb S J ev bv ce cb l) {K' : Knd} {w' : World} (hk : Kp (fun _ => False) K K' wr w') : Tl K5 w5 K' w' d jb S J ev bv ce cb l := by
  obtain ⟨vs, b1, b2⟩ := h.bk
  exact ⟨h.dk.kept hk (fun _ h => h), h.jk.kept hk (fun _ h => h), h.kp.trans (hk.mono fun _ h => h.elim), owns_same h.ends (fun g e => hk.block g (rk_lt h.ends e) (fun h => h)), fun g e => (hk.same g (rk_lt h.ends e)).trans (h.ke g e), vs, b1.kept hk (fun h => h), owns_same b2 (fun g e => hk.block g (rk_lt b2 e) (fun h => h))⟩
theorem Tl.below (h : Tl K5 w5 K wr d jb S J ev bv ce cb l) {w' : World} (hb : Below wr.heap.size wr w') : Tl K5 w5 (ext K wr.heap.size (0, 0)) w' d jb S J ev bv ce cb l := h.still (kp_below hb _ K (0, 0))
theorem Tl.ran (h : Tl K5 w5 K wr d jb S J ev bv ce cb l) {K' : Knd} {w' : World} {S' : St} {J' : Jr} (hk : Kp (Gq 1 2) K K' wr w') (hd : Dk w' K' 1 d S') (hj : Jk w' K' 2 d jb J') : Tl K5 w5 K' w' d jb S' J' ev bv ce cb l := by
  have nq0 : ¬ Gq 1 2 (0, 0) := fun h => h.elim (fun h => by cases h) (fun h => by cases h)
  obtain ⟨vs, b1, b2⟩ := h.bk
  exact ⟨hd, hj, h.kp.trans hk, owns_same h.ends (fun g e => hk.block g (rk_lt h.ends e) (by rw [h.ke g e]; exact nq0)), fun g e => (hk.same g (rk_lt h.ends e)).trans (h.ke g e), vs, b1.kept hk nq0, owns_same b2 (fun g e => hk.block g (rk_lt b2 e) (by rw [b1.row.kind g e]; exact nq0))⟩
theorem kp_new {p : Nat × Nat → Prop} {K0 K : Knd} {w0 w w' : World} {r : Option Nat} (h : Kp p K0 K w0 w) (hg : w.grownBy w' r) (hr : ∀ g, r = some g → w0.heap.size ≤ g) (k : Nat × Nat) : Kp p K0 (ext K w.heap.size k) w0 w' :=
  ⟨hg.os.trans h.os, hg.tape.trans h.tape, hg.output.trans h.output, Nat.le_trans h.size hg.size, fun b hb => (ext_old _ _ (Nat.lt_of_lt_of_le hb h.size)).trans (h.same b hb), fun b hb hn => (hg.block b (Nat.lt_of_lt_of_le hb h.size) (fun e => by have := hr b e.symm; omega)).trans (h.block b hb hn)⟩
theorem owns_base {w : World} {B : Nat} {e : TypeId} {s n : Nat} {v : Value} {xs : List Value} (h : w.ownsRow B e s v n xs) {g : Nat} (hg : v.ownBlock = some g) : B ≤ g ∧ ∃ cur, w.heap[g]? = some (.cells cur e (0, 0)) := by
  rcases h.2 with ⟨h1, _⟩ | ⟨g', cap, cur, h1, h2, hg', _⟩
  · rw [h1] at hg; simp [Value.ownBlock] at hg
  · rw [h1] at hg; simp [Value.ownBlock] at hg; subst hg; exact ⟨h2, cur, hg'⟩
/-- An end more. -/
theorem Tl.ended (h : Tl K5 w5 K wr d jb S J ev bv c cb l) {w' : World} {g cap : Nat} (ho : w'.ownsRow w5.heap.size 3 1 (.slice (some ⟨g, 0, none⟩) (c + 1) cap) (c + 1) (es l (c + 1))) (hg : wr.grownBy w' ev.ownBlock) (hat : ev.ownBlock = some g ∨ g = wr.heap.size) : Tl K5 w5 (ext K wr.heap.size (0, 0)) w' d jb S J (.slice (some ⟨g, 0, none⟩) (c + 1) cap) bv (c + 1) cb l := by
  obtain ⟨vs, b1, b2⟩ := h.bk
  have hk := kp_grown hg K (0, 0) (0, 0) (fun k => k = (0, 0)) h.ke rfl
  have hne : ∀ gb, bv.ownBlock = some gb → w'.heap[gb]? = wr.heap[gb]? := fun gb e => by
    refine hg.block gb (rk_lt b2 e) (fun e2 => ?_)
    obtain ⟨_, c1, q1⟩ := owns_base b2 e
    obtain ⟨_, c2, q2⟩ := owns_base h.ends e2.symm
    rw [q1] at q2
    cases q2
  refine ⟨h.dk.kept hk (fun q e => by cases e), h.jk.kept hk (fun q e => by cases e), kp_new h.kp hg (fun g e => (owns_base h.ends e).1) (0, 0), ho, fun g' e => ?_, vs, ⟨⟨owns_same b1.row.own hne, fun gb e => (ext_old _ _ (rk_lt b2 e)).trans (b1.row.kind gb e)⟩, b1.few, b1.el, b1.one⟩, owns_same b2 hne⟩
  simp [Value.ownBlock] at e
  subst e
  rcases hat with e | e
  · rw [ext_old _ _ (rk_lt h.ends e)]; exact h.ke g e
  · exact ext_new _ _ (by omega)
/-- A transaction more in the book. -/
theorem Tl.booked (h : Tl K5 w5 K wr d jb S J ev bv ce c l) {w' : World} {g cap : Nat} {pp : Option Addr} {k cp : Nat} {ps : List (List Nat)} (hps : l[c]? = some ps) (hkl : ps.length = k) (hk4 : k ≤ 4096) (hst : Stay (Gq 1 2) K5 w5 pp ps) {vs : List Value} (b1 : Bop (Stay (Gq 1 2) K5 w5) wr K bv (l.take c) vs) (b2 : wr.ownsRow w5.heap.size 46 1 bv c vs)
    (ho : w'.ownsRow w5.heap.size 46 1 (.slice (some ⟨g, 0, none⟩) (c + 1) cap) (c + 1) (vs ++ [.slice pp k cp])) (hg : wr.grownBy w' bv.ownBlock) (hat : bv.ownBlock = some g ∨ g = wr.heap.size) : Tl K5 w5 (ext K wr.heap.size (0, 0)) w' d jb S J ev (.slice (some ⟨g, 0, none⟩) (c + 1) cap) ce (c + 1) l := by
  have hk := kp_grown hg K (0, 0) (0, 0) (fun k => k = (0, 0)) b1.row.kind rfl
  have hcl : c < l.length := (List.getElem?_eq_some_iff.1 hps).1
  have hlen : (l.take c).length = c := by rw [List.length_take]; omega
  have htk : l.take (c + 1) = l.take c ++ [ps] := by rw [List.take_add_one, hps]; rfl
  have hvl : vs.length = c := by have := b2.1; omega
  have hne : ∀ ge, ev.ownBlock = some ge → w'.heap[ge]? = wr.heap[ge]? := fun ge e => by
    refine hg.block ge (rk_lt h.ends e) (fun e2 => ?_)
    obtain ⟨_, c1, q1⟩ := owns_base h.ends e
    obtain ⟨_, c2, q2⟩ := owns_base b2 e2.symm
    rw [q1] at q2
    cases q2
  have hkg : ∀ g', (Value.slice (some ⟨g, 0, none⟩) (c + 1) cap).ownBlock = some g' → ext K wr.heap.size (0, 0) g' = (0, 0) := fun g' e => by
    simp [Value.ownBlock] at e
    subst e
    rcases hat with e | e
    · rw [ext_old _ _ (rk_lt b2 e)]; exact b1.row.kind g e
    · exact ext_new _ _ (by omega)
  have ho0 : w'.ownsRow 0 46 1 (.slice (some ⟨g, 0, none⟩) (c + 1) cap) (c + 1) (vs ++ [.slice pp k cp]) := ⟨ho.1, ho.2.imp id (fun ⟨g, cap, cur, e1, _, r⟩ => ⟨g, cap, cur, e1, Nat.zero_le _, r⟩)⟩
  refine ⟨h.dk.kept hk (fun q e => by cases e), h.jk.kept hk (fun q e => by cases e), kp_new h.kp hg (fun g e => (owns_base b2 e).1) (0, 0), owns_same h.ends hne, fun g' e => (ext_old _ _ (rk_lt h.ends e)).trans (h.ke g' e), vs ++ [.slice pp k cp], ⟨⟨?_, hkg⟩, fun q hq => ?_, fun j q hj => ?_, fun u hu => ?_⟩, ho⟩
  · rw [htk, List.length_append, hlen]; exact ho0
  · rw [htk] at hq
    rcases List.mem_append.1 hq with hq | hq
    · exact b1.few q hq
    · simp at hq; subst hq; omega
  · rw [htk] at hj
    by_cases hjc : j < c
    · rw [List.getElem?_append_left (by omega)] at hj
      obtain ⟨p', c', e1, e2⟩ := b1.el j q hj
      exact ⟨p', c', by rw [List.getElem?_append_left (by omega)]; exact e1, e2⟩
    · have hj2 := (List.getElem?_eq_some_iff.1 hj).1
      have hjc' : j = c := by rw [List.length_append, hlen] at hj2; simp at hj2; omega
      subst hjc'
      rw [List.getElem?_append_right (by omega), hlen] at hj
      simp at hj
      subst hj
      exact ⟨pp, cp, by rw [List.getElem?_append_right (by omega), hvl, hkl]; simp, hst⟩
  · rcases List.mem_append.1 hu with hu | hu
    · exact b1.one u hu
    · simp at hu; subst hu; rfl
end
end Go.Proofs.YtlmfohcdaahojabGreatDoor
namespace Go.Proofs.YtlmfohcdaahojabGreatDoor
open Go.RowKit Go.Maps

theorem Fh.sized {S : St} {J : Jr} {l : List (List (List Nat))} {c : Nat} (h : Fh S J (l.take (c + 1)) (c + 1)) : (S.bytes jx).length = endOf l (c + 1) ∧ S.err jx = 0 := by
  have hp := recs_pos h.fd.jd.trns
  have hlen := h.len
  refine ⟨by rw [bytes_view h.fd.stl.on.off jx_ok.1, h.bytes]; rfl, ?_⟩
  rw [err_view h.fd.stl.on.off jx_ok.1, if_neg]
  intro e
  have hb := h.bytes
  rw [e] at hb
  have : (recsOf 1 (l.take (c + 1))).flatten.length = 0 := by rw [← hb]; rfl
  omega
theorem Trs.take {w : World} {tp : Option Addr} {ts : List (List (List Nat))} (h : Trs w tp ts) (k : Nat) : Trs w tp (ts.take k) := by
  refine ⟨fun ps hp => h.few ps (List.mem_of_mem_take hp), ?_⟩
  rcases h.lie with e | ⟨g, o, e, hg, hc⟩
  · left; rw [e]; simp
  · refine Or.inr ⟨g, o, e, hg, fun j ps hj => hc j ps ?_⟩
    rw [List.getElem?_take] at hj
    split at hj
    · exact hj
    · cases hj
theorem Bop.take {P : Option Addr → List (List Nat) → Prop} {w : World} {K : Knd} {a : Option Addr} {q c : Nat} {ts : List (List (List Nat))} {vs : List Value} (h : Bop P w K (.slice a q c) ts vs) (hq : ts.length = q) {k : Nat} (hk : k ≤ q) : Bop P w K (.slice a k c) (ts.take k) (vs.take k) := by
  have hl := h.row.own.1
  rw [Nat.mul_one] at hl
  refine ⟨⟨⟨by rw [List.length_take, List.length_take]; omega, ?_⟩, fun g e => h.row.kind g (by cases a with | none => simp [Value.ownBlock] at e | some a => simpa [Value.ownBlock] using e)⟩, fun ps hp => h.few ps (List.mem_of_mem_take hp), fun j ps hj => ?_, fun u hu => h.one u (List.mem_of_mem_take hu)⟩
  · rw [List.length_take, hq, Nat.min_eq_left hk]
    rcases h.row.own.2 with ⟨h1, h2⟩ | ⟨g, cap, cur, h1, h2, hg, h3, h4, h5, h6⟩
    · left
      simp at h1
      obtain ⟨rfl, rfl, rfl⟩ := h1
      have : k = 0 := by omega
      subst this
      exact ⟨rfl, rfl⟩
    · right
      simp only [Value.slice.injEq] at h1
      obtain ⟨rfl, h1, rfl⟩ := h1
      refine ⟨g, c, cur, rfl, h2, hg, by omega, h4, h5, ?_⟩
      rw [← h6, List.take_take, Nat.min_eq_left (by omega), Nat.mul_one]
  · rw [List.getElem?_take] at hj
    split at hj
    · rename_i hjk
      obtain ⟨pp, cp, e1, e2⟩ := h.el j ps hj
      exact ⟨pp, cp, by rw [List.getElem?_take, if_pos hjk]; exact e1, e2⟩
    · cases hj
theorem ends_cell {w : World} {B : Nat} {a : Option Addr} {n cap : Nat} {l : List (List (List Nat))} (h : w.ownsRow B 3 1 (.slice a n cap) n (es l n)) {j : Nat} (hj : j < n) : ∃ g, a = some ⟨g, 0, none⟩ ∧ w.cell? ⟨g, j, none⟩ = some (.int .i64 (endOf l (j + 1) : Int)) := by
  rcases h.2 with ⟨_, h2⟩ | ⟨g, cap', cur, h1, _, hg, h3, h4, h5, h6⟩
  · omega
  · cases h1
    refine ⟨g, rfl, ?_⟩
    have e := es_at l hj
    rw [← h6, List.getElem?_take, if_pos (by omega), Array.getElem?_toList] at e
    simp only [World.cell?, hg]
    exact e
/-- The two literal calls. -/
def nc (g : Nat) : Cl := ⟨false, some ⟨g, 0, none⟩, 1, 1, [nw]⟩
def wc : Cl := ⟨true, none, 0, 0, []⟩
theorem n_pts {w : World} {g1 g2 c : Nat} {t1 t2 : TypeId} {m1 m2 : Nat × Nat} (h1 : w.heap[g1]? = some (.cells #[.int .u8 110, .int .u8 101, .int .u8 120, .int .u8 116] t1 m1)) (h2 : w.heap[g2]? = some (.cells #[.slice (some ⟨g1, 0, none⟩) 4 c] t2 m2)) : Pts w (some ⟨g2, 0, none⟩) [nw] := by
  refine ⟨fun p hp => by simp at hp; subst hp; simp [nw], Or.inr ⟨g2, 0, rfl, lt_of_block h2, fun j p hj => ?_⟩⟩
  have hj0 : j = 0 := by have := (List.getElem?_eq_some_iff.1 hj).1; simpa using this
  subst hj0
  simp at hj
  subst hj
  refine ⟨some ⟨g1, 0, none⟩, c, ?_, ⟨fun x hx => by simp [nw] at hx; omega, Or.inr ⟨g1, 0, rfl, lt_of_block h1, fun j hj => ?_⟩⟩⟩
  · simp [World.cell?, h2, nw]
  · have hj5 : j < 4 := by simpa [nw] using hj
    rcases (show j = 0 ∨ j = 1 ∨ j = 2 ∨ j = 3 by omega) with rfl | rfl | rfl | rfl <;> simp [World.cell?, h1, nw]
theorem n_list (w : World) (K : Knd) {q : Nat × Nat → Prop} (hq : ¬ q (0, 0)) (W : World) (hW : W = (((w.alloc (.cells #[.int .u8 110, .int .u8 101, .int .u8 120, .int .u8 116] 5 (4, 5))).alloc (.cells #[.slice (some ⟨w.heap.size, 0, none⟩) 4 4] 42)).alloc (.cells #[.bool false, .slice (some ⟨w.heap.size + 1, 0, none⟩) 1 1, .bool true, .slice none 0 0] 48))) :
    Below w.heap.size w W ∧ Clr W (ext K w.heap.size (0, 0)) (some ⟨w.heap.size + 1 + 1, 0, none⟩) [nc (w.heap.size + 1), wc] ∧ (∀ y ∈ [nc (w.heap.size + 1), wc], Stay q (ext K w.heap.size (0, 0)) W y.pp y.ps ∧ y.ps.length = y.k ∧ fitsB y.ps = true ∧ ∀ p ∈ y.ps, ∀ z ∈ p, z < 256) := by
  have z : ∀ (w : World) (o : Obj), (w.alloc o).heap.size = w.heap.size + 1 := fun w o => by unfold World.alloc; exact Array.size_push _
  have b1 : Below w.heap.size w W := by
    rw [hW]; exact (((Below.refl w.heap.size w).alloc (Nat.le_refl _) _).alloc (by rw [z]; omega) _).alloc (by rw [z, z]; omega) _
  have h1 : W.heap[w.heap.size]? = some (.cells #[.int .u8 110, .int .u8 101, .int .u8 120, .int .u8 116] 5 (4, 5)) := by
    rw [hW, Below.heap_alloc _ _ _ (by rw [z, z]; omega), Below.heap_alloc _ _ _ (by rw [z]; omega)]; exact heap_alloc_new _ _
  have h2 : W.heap[w.heap.size + 1]? = some (.cells #[.slice (some ⟨w.heap.size, 0, none⟩) 4 4] 42 (0, 0)) := by
    rw [hW, Below.heap_alloc _ _ _ (by rw [z, z]; omega)]
    have := heap_alloc_new (w.alloc (.cells #[.int .u8 110, .int .u8 101, .int .u8 120, .int .u8 116] 5 (4, 5))) (.cells #[.slice (some ⟨w.heap.size, 0, none⟩) 4 4] 42 (0, 0))
    rw [z] at this; exact this
  have h3 : W.heap[w.heap.size + 1 + 1]? = some (.cells #[.bool false, .slice (some ⟨w.heap.size + 1, 0, none⟩) 1 1, .bool true, .slice none 0 0] 48 (0, 0)) := by
    have := heap_alloc_new ((w.alloc (.cells #[.int .u8 110, .int .u8 101, .int .u8 120, .int .u8 116] 5 (4, 5))).alloc (.cells #[.slice (some ⟨w.heap.size, 0, none⟩) 4 4] 42)) (.cells #[.bool false, .slice (some ⟨w.heap.size + 1, 0, none⟩) 1 1, .bool true, .slice none 0 0] 48 (0, 0))
    rw [z, z] at this; rw [hW]; exact this
  clear hW
  refine ⟨b1, ⟨Or.inr ⟨w.heap.size + 1 + 1, 0, rfl, lt_of_block h3, ext_new _ _ (by omega), fun j y hj => ?_⟩⟩, fun y hy => ?_⟩
  · have hj2 : j < 2 := by have := (List.getElem?_eq_some_iff.1 hj).1; simpa using this
    rcases (show j = 0 ∨ j = 1 by omega) with rfl | rfl
    · simp at hj
      subst hj
      exact ⟨by simp [World.cell?, h3, nc], by simp [World.cell?, h3, nc]⟩
    · simp at hj
      subst hj
      exact ⟨by simp [World.cell?, h3, wc], by simp [World.cell?, h3, wc]⟩
  · simp at hy
    rcases hy with rfl | rfl
    · exact ⟨fun K' w' hk => n_pts ((hk.block _ (lt_of_block h1) (by rw [ext_new _ _ (Nat.le_refl _)]; exact hq)).trans h1) ((hk.block _ (lt_of_block h2) (by rw [ext_new _ _ (by omega)]; exact hq)).trans h2), rfl, n_fits, n_small⟩
    · exact ⟨fun K' w' hk => ⟨(fun p hp => by cases hp), Or.inl rfl⟩, rfl, e_fits, (fun p hp => by cases hp)⟩
theorem and20 (z : Int) : ∃ i : Nat, i < 1048576 ∧ bits .and .i64 z 1048575 = (i : Int) := by
  refine ⟨(BitVec.ofInt 64 z).toNat % 1048576, Nat.mod_lt _ (by omega), ?_⟩
  show IntKind.i64.wrap ((BitVec.ofInt 64 z &&& BitVec.ofInt 64 1048575).toNat : Int) = _
  have h1 : (BitVec.ofInt 64 (1048575 : Int)).toNat = 2 ^ 20 - 1 := by decide
  rw [BitVec.toNat_and, h1, Nat.and_two_pow_sub_one_eq_mod, IntKind.wrap_i64]
  omega
end Go.Proofs.YtlmfohcdaahojabGreatDoor
