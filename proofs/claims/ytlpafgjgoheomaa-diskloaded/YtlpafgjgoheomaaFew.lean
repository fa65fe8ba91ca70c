import Derived.Test.YtlpafgjgoheomaaPlay
namespace Go.Proofs.Ytlpafgjgoheomaa
open Go.RowKit Go.Maps

theorem Try.infoOp : (Try.prog.info? 57).map (fun i => (i.zero, i.size, i.bytes)) = some (some (.agg #[.int .i64 0, .int .i64 0, .int .i64 0, .string ⟨#[]⟩, .string ⟨#[]⟩, .slice none 0 0, .int .i64 0, .int .i64 0, .int .i64 0, .slice none 0 0]), 10, 128) := by kernel_rfl

theorem bytes_take {w : World} {sp : Option Addr} {xs : List Nat} (h : Bytes w sp xs) (n : Nat) : Bytes w sp (xs.take n) := by
  refine ⟨fun x hx => h.small x (List.mem_of_mem_take hx), ?_⟩
  rcases h.lie with h0 | ⟨g, o, e, hg, hc⟩
  · left; rw [h0]; simp
  · refine Or.inr ⟨g, o, e, hg, fun j hj => ?_⟩
    rw [List.length_take] at hj
    rw [hc j (by omega)]
    simp only [List.getD, List.getElem?_take, if_pos (show j < n by omega)]
/-- Of a step's bytes the first 4096. -/
def trunc (q : Opm) : Opm := if 4096 < q.x.b.length then { q with x := { q.x with b := q.x.b.take 4096 } } else q
def stepF (acc : List Opm) (q : Opm) : List Opm := if q.x.kind < 1 ∨ 6 < q.x.kind then acc else acc ++ [trunc q]
def fewO (ops : List Opm) : List Opm := (ops.take 200).foldl stepF []
theorem trunc_ok {w : World} {K : Knd} {q : Opm} (h : OpOk w K q) : OpOk w K (trunc q) := by
  unfold trunc
  split
  · exact ⟨h.nn, h.name, h.to, bytes_take h.by_ _, h.al.imp (fun e => by simp [e]) id, by have := h.cap; simp; omega⟩
  · exact h
theorem trunc_len (q : Opm) : (trunc q).x.b.length ≤ 4096 := by
  unfold trunc
  split
  · simp; omega
  · omega
theorem trunc_kind (q : Opm) : (trunc q).x.kind = q.x.kind := by unfold trunc; split <;> rfl
theorem few_all {P : Opm → Prop} : ∀ (ops acc : List Opm), (∀ q ∈ acc, P q) → (∀ q ∈ ops, (1 ≤ q.x.kind ∧ q.x.kind ≤ 6) → P (trunc q)) → ∀ q ∈ ops.foldl stepF acc, P q
  | [], acc, h, _ => h
  | q :: ops, acc, h, h2 => by
    refine few_all ops (stepF acc q) ?_ (fun r hr => h2 r (List.mem_cons_of_mem _ hr))
    unfold stepF
    split
    · exact h
    · rename_i hk
      intro r hr
      rcases List.mem_append.1 hr with e | e
      · exact h r e
      · simp at e; subst e; exact h2 q (List.mem_cons_self ..) ⟨by omega, by omega⟩
theorem few_len : ∀ (ops acc : List Opm), (ops.foldl stepF acc).length ≤ acc.length + ops.length
  | [], acc => by simp
  | q :: ops, acc => by
    have := few_len ops (stepF acc q)
    have h2 : (stepF acc q).length ≤ acc.length + 1 := by unfold stepF; split <;> simp
    simp only [List.foldl_cons, List.length_cons]; omega
theorem few_kind (ops : List Opm) : ∀ q ∈ fewO ops, 1 ≤ q.x.kind ∧ q.x.kind ≤ 6 ∧ q.x.b.length ≤ 4096 := by
  refine few_all _ [] (fun q hq => (by cases hq)) (fun q _ hk => ?_)
  rw [trunc_kind]
  exact ⟨hk.1, hk.2, trunc_len q⟩
theorem few_ok {w : World} {K : Knd} {ops : List Opm} (h : ∀ q ∈ ops, OpOk w K q) : ∀ q ∈ fewO ops, OpOk w K q :=
  few_all _ [] (fun q hq => (by cases hq)) (fun q hq _ => trunc_ok (h q (List.mem_of_mem_take hq)))
theorem few_most (ops : List Opm) : (fewO ops).length ≤ 200 := by
  have := few_len (ops.take 200) []
  simp at this
  unfold fewO; omega

/-- Steps as values. -/
def opvs (ops : List Opm) : List Value := ops.flatMap opc
theorem opc_len (q : Opm) : (opc q).length = 10 := rfl
theorem opvs_len (ops : List Opm) : (opvs ops).length = ops.length * 10 := by
  unfold opvs
  induction ops with
  | nil => rfl
  | cons q l ih => rw [List.flatMap_cons, List.length_append, ih, opc_len, List.length_cons]; omega
theorem opvs_snoc (ops : List Opm) (q : Opm) : opvs (ops ++ [q]) = opvs ops ++ opc q := by simp [opvs]
theorem opvs_at : ∀ (ops : List Opm) (k : Nat) (q : Opm), ops[k]? = some q → ∀ i, i < 10 → (opvs ops)[k * 10 + i]? = (opc q)[i]?
  | [], k, q, h, _, _ => by simp at h
  | a :: l, 0, q, h, i, hi => by
    simp at h; subst h
    show (opc a ++ opvs l)[0 * 10 + i]? = _
    rw [Nat.zero_mul, Nat.zero_add, List.getElem?_append_left (by rw [opc_len]; exact hi)]
  | a :: l, k + 1, q, h, i, hi => by
    have ih := opvs_at l k q (by simpa using h) i hi
    show (opc a ++ opvs l)[(k + 1) * 10 + i]? = _
    rw [List.getElem?_append_right (by rw [opc_len]; omega), ← ih, opc_len]
    congr 1; omega
/-- Steps that lie in a row. -/
structure Opi (w : World) (sp : Option Addr) (ops : List Opm) : Prop where
  lie : ops = [] ∨ ∃ g o, sp = some ⟨g, o, none⟩ ∧ g < w.heap.size ∧ ∀ i v, (opvs ops)[i]? = some v → w.cell? ⟨g, o + i, none⟩ = some v
theorem Opi.below {w w' : World} {sp : Option Addr} {ops : List Opm} (h : Opi w sp ops) (hb : Below w.heap.size w w') : Opi w' sp ops := by
  refine ⟨h.lie.imp id ?_⟩
  rintro ⟨g, o, e, hg, hc⟩
  exact ⟨g, o, e, Nat.lt_of_lt_of_le hg hb.size, fun i v hv => by rw [hb.cell (p := ⟨g, o + i, none⟩) hg]; exact hc i v hv⟩
theorem owns_ops {w : World} {B : Nat} {a : Option Addr} {n c : Nat} {ops : List Opm} (h : w.ownsRow B 57 10 (.slice a n c) n (opvs ops)) : Opi w a ops := by
  have hl := h.1
  rw [opvs_len] at hl
  rcases h.2 with ⟨_, h2⟩ | ⟨g, cap, cur, h1, _, hg, h3, h4, h5, h6⟩
  · exact ⟨Or.inl (List.eq_nil_of_length_eq_zero (by omega))⟩
  · cases h1
    refine ⟨Or.inr ⟨g, 0, rfl, lt_of_block hg, fun i v hv => ?_⟩⟩
    have hi : i < (opvs ops).length := (List.getElem?_eq_some_iff.1 hv).1
    rw [opvs_len] at hi
    rw [← h6, List.getElem?_take, if_pos (by omega)] at hv
    simp only [World.cell?, hg, Nat.zero_add]
    simpa using hv
theorem Opi.at {w : World} {sp : Option Addr} {ops : List Opm} (h : Opi w sp ops) {k : Nat} {q : Opm} (hq : ops[k]? = some q) :
    ∃ g o, sp = some ⟨g, o, none⟩ ∧ g < w.heap.size ∧ w.cell? ⟨g, o + k * 10, none⟩ = some (.int .i64 q.x.kind) ∧ w.cell? ⟨g, o + k * 10 + 1, none⟩ = some (.int .i64 q.on) ∧ w.cell? ⟨g, o + k * 10 + 2, none⟩ = some (.int .i64 q.x.n) ∧ w.cell? ⟨g, o + k * 10 + 3, none⟩ = some (.string ⟨q.x.name.toArray⟩) ∧ w.cell? ⟨g, o + k * 10 + 4, none⟩ = some (.string ⟨q.x.to.toArray⟩) ∧
      w.cell? ⟨g, o + k * 10 + 5, none⟩ = some (.slice q.bp q.x.b.length q.bc) ∧ w.cell? ⟨g, o + k * 10 + 6, none⟩ = some (.int .i64 q.p1) ∧ w.cell? ⟨g, o + k * 10 + 7, none⟩ = some (.int .i64 q.p2) ∧ w.cell? ⟨g, o + k * 10 + 8, none⟩ = some (.int .i64 q.p3) ∧ w.cell? ⟨g, o + k * 10 + 9, none⟩ = some (.slice q.kp q.kl q.kc) := by
  rcases h.lie with h0 | ⟨g, o, e, hg, hc⟩
  · subst h0; simp at hq
  · have hat := opvs_at ops k q hq
    have f : ∀ i v, i < 10 → (opc q)[i]? = some v → w.cell? ⟨g, o + k * 10 + i, none⟩ = some v := fun i v hi hv => by
      rw [Nat.add_assoc]
      exact hc _ v ((hat i hi).trans hv)
    exact ⟨g, o, e, hg, f 0 _ (by omega) rfl, f 1 _ (by omega) rfl, f 2 _ (by omega) rfl, f 3 _ (by omega) rfl, f 4 _ (by omega) rfl, f 5 _ (by omega) rfl, f 6 _ (by omega) rfl, f 7 _ (by omega) rfl, f 8 _ (by omega) rfl, f 9 _ (by omega) rfl⟩

set_option maxRecDepth 100000 in
set_option maxHeartbeats 4000000 in
theorem few_any (w : World) (sp : Option Addr) (m cap : Nat) (ops : List Opm) (hm : ops.length = m) (hml : m ≤ 140737488355328) (h : Opi w sp ops) (hcap : ∀ q ∈ ops, q.x.b.length ≤ q.bc ∧ q.bc ≤ 9223372036854775807) :
    Calls Try.prog 23 #[.slice sp m cap] w fun e w' => ∃ a c, e = .returned (.slice a (fewO ops).length c) ∧ w'.ownsRow w.heap.size 57 10 (.slice a (fewO ops).length c) (fewO ops).length (opvs (fewO ops)) ∧ Below w.heap.size w w' := by
  obtain ⟨i0, hi, hz0, hz1, hz2⟩ := info_parts Try.infoOp
  have HI := hide h
  have HM := hide hm
  have HC := hide hcap
  clear h hm hcap
  go_enter Try.func23, Try.ntmps23
  go_wp2
  go_loopw [3, 4] (fun l i wr => ∃ (k : Nat) (a : Option Addr) (n c : Nat) (out : List Opm), k ≤ m ∧ k ≤ 200 ∧ i = .int .i64 k ∧ l = .slice a n c ∧ n ≤ k ∧ Hid (out = (ops.take k).foldl stepF []) ∧ Hid (n = out.length) ∧ Hid (wr.ownsRow w.heap.size 57 10 (.slice a n c) n (opvs out)) ∧ Hid (Below w.heap.size w wr)) (fun _ i _ => 200 - (intOf i).toNat)
  case atStart => exact ⟨0, none, 0, 0, [], Nat.zero_le _, by omega, rfl, rfl, Nat.le_refl _, rfl, rfl, ⟨rfl, Or.inl ⟨rfl, rfl⟩⟩, Below.refl _ _⟩
  case round =>
    obtain ⟨k, a, n, c, out, hk, hk2, rfl, rfl, hnk, HO, HN, HR, HB⟩ := hrel
    have HEnd : Hid (k = m ∨ k = 200 → fewO ops = out) := hide (fun hc => by
      rw [HO.out]
      unfold fewO
      rcases hc with e | e
      · rw [List.take_of_length_le (by have := HM.out; omega), List.take_of_length_le (by have := HM.out; omega)]
      · rw [e])
    by_cases hlt : k < m
    · have hlt' : (k : Int) < (m : Int) := by omega
      by_cases hlt2 : k < 200
      · have hlt2' : (k : Int) < 200 := by omega
        obtain ⟨q, hq⟩ : ∃ q, ops[k]? = some q := ⟨_, List.getElem?_eq_getElem (by have := HM.out; omega)⟩
        obtain ⟨g, o, rfl, hg, c0, c1, c2, c3, c4, c5, c6, c7, c8, c9⟩ := (HI.out.below HB.out).at hq
        have HS : Hid ((ops.take (k + 1)).foldl stepF [] = stepF out q) := by
          show _ = _
          rw [take_snoc' ops k q hq, List.foldl_append, ← HO.out]; rfl
        have hcq := HC.out q (List.mem_of_getElem? hq)
        have hcq1 := hcq.1
        have hcq2 := hcq.2
        have HQ := hide hq
        obtain ⟨q', hqq⟩ : ∃ q', trunc q = q' := ⟨_, rfl⟩
        have HTr := hide hqq
        clear hq hcq hqq
        by_cases hk1 : q.x.kind < 1
        · have HS2 : Hid (stepF out q = out) := by show _ = _; unfold stepF; rw [if_pos (Or.inl hk1)]
          go_wp2
          go_roundw
          case rel => exact ⟨k + 1, a, n, c, out, by omega, by omega, by go_num, rfl, by omega, hide (by rw [HS.out, HS2.out]), HN, HR.out.alloc _, hide (HB.out.alloc HB.out.size _)⟩
          case measure => simp [intOf]; omega
        · by_cases hk6 : 6 < q.x.kind
          · have HS2 : Hid (stepF out q = out) := by show _ = _; unfold stepF; rw [if_pos (Or.inr hk6)]
            go_wp2
            go_roundw
            case rel => exact ⟨k + 1, a, n, c, out, by omega, by omega, by go_num, rfl, by omega, hide (by rw [HS.out, HS2.out]), HN, HR.out.alloc _, hide (HB.out.alloc HB.out.size _)⟩
            case measure => simp [intOf]; omega
          · have HS2 : Hid (stepF out q = out ++ [trunc q]) := by show _ = _; unfold stepF; rw [if_neg (by omega)]
            by_cases hb : 4096 < q.x.b.length
            · have hb' : (4096 : Int) < (q.x.b.length : Int) := by omega
              have hcq3 : (4096 : Int) ≤ (q.bc : Int) := by omega
              obtain ⟨Q, hQ⟩ : ∃ Q, trunc q = Q := ⟨_, rfl⟩
              rw [hQ] at HS2
              have HQc : Hid ([.int .i64 q.x.kind, .int .i64 q.on, .int .i64 q.x.n, .string ⟨q.x.name.toArray⟩, .string ⟨q.x.to.toArray⟩, .slice q.bp 4096 q.bc, .int .i64 q.p1, .int .i64 q.p2, .int .i64 q.p3, .slice q.kp q.kl q.kc] = opc Q) := by
                show _ = _
                rw [← hQ]
                unfold trunc
                rw [if_pos hb]
                unfold opc
                simp only
                rw [List.length_take, Nat.min_eq_left (by omega)]
              clear hQ
              have HNew : Hid (∀ j u, (opc Q)[j]? = some u → ((wr.alloc (.cells (opc Q).toArray 57)).alloc (.cells (opc Q).toArray 57)).cell? ((⟨wr.heap.size + 1, 0, none⟩ : Addr).add j) = some u) := by
                have h := World.news_of_block (heap_alloc_new (wr.alloc (.cells (opc Q).toArray 57)) (.cells (opc Q).toArray 57))
                rw [show (wr.alloc (.cells (opc Q).toArray 57)).heap.size = wr.heap.size + 1 by simp] at h
                exact h
              have HOne : Hid (∀ u ∈ opc Q, u.oneCell' = true) := fun u hu => by
                simp only [opc, List.mem_cons, List.not_mem_nil, or_false] at hu
                rcases hu with e | e | e | e | e | e | e | e | e | e <;> (subst e; rfl)
              have HSz : Hid (w.heap.size ≤ ((wr.alloc (.cells (opc Q).toArray 57)).alloc (.cells (opc Q).toArray 57)).heap.size) := by
                show _ ≤ _
                have := HB.out.size
                simp; omega
              have HBw : Hid (Below w.heap.size w ((wr.alloc (.cells (opc Q).toArray 57)).alloc (.cells (opc Q).toArray 57))) := (HB.out.alloc HB.out.size _).alloc (by have := HB.out.size; simp; omega) _
              have HOw := hide ((HR.out.alloc (.cells (opc Q).toArray 57)).alloc (.cells (opc Q).toArray 57))
              rw [← HQc.out] at HNew HOne HSz HBw HOw
              go_wp2_with (at_builtin; refine wpList_append_lies _ rfl (.tmp 36) (.tmp 38) 48 rfl w.heap.size 57 i0 (.agg #[.int .i64 0, .int .i64 0, .int .i64 0, .string ⟨#[]⟩, .string ⟨#[]⟩, .slice none 0 0, .int .i64 0, .int .i64 0, .int .i64 0, .slice none 0 0]) 10 128 Try.underlying48 hi hz0 hz1 hz2 rfl (by omega) (.slice a n c) n (opvs out) rfl HOw.out ⟨wr.heap.size + 1, 0, none⟩ 1 1 _ rfl rfl HNew.out HOne.out (by omega) (by unfold maxLen; omega) (by omega) HSz.out _ rfl ?_; intro g' cap' w4 hown4 hgrow4 hat4 hltg)
              rw [HQc.out] at hown4
              have HO4 : Hid (w4.ownsRow w.heap.size 57 10 (.slice (some ⟨g', 0, none⟩) (n + 1) cap') (n + 1) (opvs (out ++ [Q]))) := by
                show World.ownsRow _ _ _ _ _ _ _
                rw [opvs_snoc]; exact hown4
              have HB4 : Hid (Below w.heap.size w w4) := HBw.out.grown hgrow4 HSz.out (fun g2 e => by
                rcases HR.out.2 with ⟨e1, _⟩ | ⟨g3, _, _, e1, e2, _⟩
                · rw [e1] at e; simp [Value.ownBlock] at e
                · rw [e1] at e; simp [Value.ownBlock] at e; omega)
              clear hown4 hgrow4 hat4
              go_wp2
              go_roundw
              case rel => exact ⟨k + 1, _, n + 1, cap', out ++ [Q], by omega, by omega, by go_num, rfl, by omega, hide (by rw [HS.out, HS2.out]), hide (by rw [HN.out]; simp), HO4, HB4⟩
              case measure => simp [intOf]; omega
            · have hb' : ¬ (4096 : Int) < (q.x.b.length : Int) := by omega
              obtain ⟨Q, hQ⟩ : ∃ Q, trunc q = Q := ⟨_, rfl⟩
              rw [hQ] at HS2
              have HQc : Hid ([.int .i64 q.x.kind, .int .i64 q.on, .int .i64 q.x.n, .string ⟨q.x.name.toArray⟩, .string ⟨q.x.to.toArray⟩, .slice q.bp q.x.b.length q.bc, .int .i64 q.p1, .int .i64 q.p2, .int .i64 q.p3, .slice q.kp q.kl q.kc] = opc Q) := by
                show _ = _
                rw [← hQ]
                unfold trunc
                rw [if_neg hb]
                rfl
              clear hQ
              have hbl : q.x.b.length ≤ 9223372036854775807 := by omega
              generalize q.x.b.length = BL at *
              have HNew : Hid (∀ j u, (opc Q)[j]? = some u → ((wr.alloc (.cells (opc Q).toArray 57)).alloc (.cells (opc Q).toArray 57)).cell? ((⟨wr.heap.size + 1, 0, none⟩ : Addr).add j) = some u) := by
                have h := World.news_of_block (heap_alloc_new (wr.alloc (.cells (opc Q).toArray 57)) (.cells (opc Q).toArray 57))
                rw [show (wr.alloc (.cells (opc Q).toArray 57)).heap.size = wr.heap.size + 1 by simp] at h
                exact h
              have HOne : Hid (∀ u ∈ opc Q, u.oneCell' = true) := fun u hu => by
                simp only [opc, List.mem_cons, List.not_mem_nil, or_false] at hu
                rcases hu with e | e | e | e | e | e | e | e | e | e <;> (subst e; rfl)
              have HSz : Hid (w.heap.size ≤ ((wr.alloc (.cells (opc Q).toArray 57)).alloc (.cells (opc Q).toArray 57)).heap.size) := by
                show _ ≤ _
                have := HB.out.size
                simp; omega
              have HBw : Hid (Below w.heap.size w ((wr.alloc (.cells (opc Q).toArray 57)).alloc (.cells (opc Q).toArray 57))) := (HB.out.alloc HB.out.size _).alloc (by have := HB.out.size; simp; omega) _
              have HOw := hide ((HR.out.alloc (.cells (opc Q).toArray 57)).alloc (.cells (opc Q).toArray 57))
              rw [← HQc.out] at HNew HOne HSz HBw HOw
              go_wp2_with (at_builtin; refine wpList_append_lies _ rfl (.tmp 36) (.tmp 38) 48 rfl w.heap.size 57 i0 (.agg #[.int .i64 0, .int .i64 0, .int .i64 0, .string ⟨#[]⟩, .string ⟨#[]⟩, .slice none 0 0, .int .i64 0, .int .i64 0, .int .i64 0, .slice none 0 0]) 10 128 Try.underlying48 hi hz0 hz1 hz2 rfl (by omega) (.slice a n c) n (opvs out) rfl HOw.out ⟨wr.heap.size + 1, 0, none⟩ 1 1 _ rfl rfl HNew.out HOne.out (by omega) (by unfold maxLen; omega) (by omega) HSz.out _ rfl ?_; intro g' cap' w4 hown4 hgrow4 hat4 hltg)
              rw [HQc.out] at hown4
              have HO4 : Hid (w4.ownsRow w.heap.size 57 10 (.slice (some ⟨g', 0, none⟩) (n + 1) cap') (n + 1) (opvs (out ++ [Q]))) := by
                show World.ownsRow _ _ _ _ _ _ _
                rw [opvs_snoc]; exact hown4
              have HB4 : Hid (Below w.heap.size w w4) := HBw.out.grown hgrow4 HSz.out (fun g2 e => by
                rcases HR.out.2 with ⟨e1, _⟩ | ⟨g3, _, _, e1, e2, _⟩
                · rw [e1] at e; simp [Value.ownBlock] at e
                · rw [e1] at e; simp [Value.ownBlock] at e; omega)
              clear hown4 hgrow4 hat4
              go_wp2
              go_roundw
              case rel => exact ⟨k + 1, _, n + 1, cap', out ++ [Q], by omega, by omega, by go_num, rfl, by omega, hide (by rw [HS.out, HS2.out]), hide (by rw [HN.out]; simp), HO4, HB4⟩
              case measure => simp [intOf]; omega
      · obtain rfl : k = 200 := by omega
        have HE := hide (HEnd.out (Or.inr rfl))
        go_wp2
        go_ret
        rw [HE.out, ← HN.out]
        exact ⟨a, c, rfl, HR.out, HB.out⟩
    · obtain rfl : k = m := by omega
      have HE := hide (HEnd.out (Or.inl rfl))
      go_wp2
      go_ret
      rw [HE.out, ← HN.out]
      exact ⟨a, c, rfl, HR.out, HB.out⟩

end Go.Proofs.Ytlpafgjgoheomaa
