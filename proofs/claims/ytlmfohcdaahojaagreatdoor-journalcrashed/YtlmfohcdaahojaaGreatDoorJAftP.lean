import Derived.Test.YtlmfohcdaahojaaGreatDoorJPlc
namespace Go.Proofs.YtlmfohcdaahojaaGreatDoor
open Go.RowKit Go.Maps

/-- A BOOK OF TRANSACTIONS: a row of the call's own; each transaction came in (at W). -/
structure Bok (W w : World) (K : Knd) (v : Value) (ts : List (List (List Nat))) (vs : List Value) : Prop where
  row : Rk w K (0, 0) 62 1 v ts.length vs
  few : ∀ ps ∈ ts, ps.length ≤ 4096
  el : ∀ (j : Nat) (ps : List (List Nat)), ts[j]? = some ps → ∃ (pp : Option Addr) (cp : Nat), vs[j]? = some (.slice pp ps.length cp) ∧ Pts W pp ps
  one : ∀ u ∈ vs, u.oneCell' = true
theorem Bok.kept {p : Nat × Nat → Prop} {K K' : Knd} {W w w' : World} {v : Value} {ts : List (List (List Nat))} {vs : List Value} (h : Bok W w K v ts vs) (hk : Kp p K K' w w') (hp : ¬ p (0, 0)) : Bok W w' K' v ts vs := ⟨h.row.kept hk hp, h.few, h.el, h.one⟩
theorem bok_nil (W w : World) (K : Knd) : Bok W w K (.slice none 0 0) [] [] := ⟨rk_nil _ _ _ _ _, fun _ h => (by cases h), fun j ps h => (by simp at h), fun _ h => (by cases h)⟩
theorem Bok.trs {W w : World} {K : Knd} {a : Option Addr} {n c : Nat} {ts : List (List (List Nat))} {vs : List Value} (h : Bok W w K (.slice a n c) ts vs) (hb : Below W.heap.size W w) : Trs w a ts := by
  refine ⟨fun ps hp => Nat.le_trans (h.few ps hp) (by omega), ?_⟩
  have hl := h.row.own.1
  rcases h.row.own.2 with ⟨_, h2⟩ | ⟨g, cap, cur, h1, _, hg, h3, h4, h5, h6⟩
  · exact Or.inl (List.eq_nil_of_length_eq_zero h2)
  · cases h1
    refine Or.inr ⟨g, 0, rfl, lt_of_block hg, fun j ps hj => ?_⟩
    obtain ⟨pp, cp, e, hP⟩ := h.el j ps hj
    have hjl : j < ts.length := (List.getElem?_eq_some_iff.1 hj).1
    rw [← h6, List.getElem?_take, if_pos (by omega), Array.getElem?_toList] at e
    exact ⟨pp, cp, by rw [Nat.zero_add]; simp only [World.cell?, hg]; exact e, hP.below hb⟩
/-- 'append(nil, l...)' of a row of the call's own. -/
theorem run_app_row {w : World} {v : Value} {n : Nat} {vs : List Value} (h : w.ownsRow 0 62 1 v n vs) (hone : ∀ u ∈ vs, u.oneCell' = true) (hn : n ≤ 1000000) (ty : TypeId) :
    ∃ a' c' w', (Builtin.append_ #[47, 47] ty #[.slice none 0 0, v]).run Tryz.prog w = .ok (.slice a' n c') w' ∧ w'.ownsRow w.heap.size 62 1 (.slice a' n c') n vs ∧ Below w.heap.size w w' := by
  obtain ⟨i0, hi, hz0, hz1, hz2⟩ := info_parts Tryz.infoRr
  have hl := h.1
  rcases h.2 with ⟨h1, h2⟩ | ⟨g, cap, cur, h1, _, hg, h3, h4, h5, h6⟩
  · subst h2
    have e : vs = [] := List.eq_nil_of_length_eq_zero (by omega)
    subst e
    refine ⟨none, 0, w, ?_, ⟨rfl, Or.inl ⟨rfl, rfl⟩⟩, Below.refl _ _⟩
    rw [h1]
    simp [Builtin.append_, run_underlying Tryz.underlying47, sizeOf, typeInfo, hi, Builtin.lenOf, Builtin.firstCells]
  · subst h1
    obtain ⟨v', w', hr, o2, o3, _, o5⟩ := run_append_own_at (P := Tryz.prog) w w.heap.size 47 ty 62 i0 (.slice none 0 0) 1 24 Tryz.underlying47 hi hz0 hz1 hz2 rfl (by omega) (.slice none 0 0) 0 [] ⟨rfl, Or.inl ⟨rfl, rfl⟩⟩ ⟨g, 0, none⟩ n cap vs hl (fun j u hj => by
      have hjl : j < vs.length := (List.getElem?_eq_some_iff.1 hj).1
      rw [← h6, List.getElem?_take, if_pos (by omega), Array.getElem?_toList] at hj
      have e : (⟨g, 0, none⟩ : Addr).add j = ⟨g, j, none⟩ := by
        unfold Addr.add
        by_cases h0 : j = 0
        · subst h0; simp
        · simp [h0]
      rw [e]
      simp only [World.cell?, hg]; exact hj) hone (by unfold maxLen; omega) (by omega) (Nat.le_refl _)
    rw [Nat.zero_add] at o2
    rw [List.nil_append] at o2
    obtain ⟨a', c', rfl, _, _⟩ := owns_form o2
    exact ⟨a', c', w', hr, o2, (Below.refl _ _).grown o3 (Nat.le_refl _) (fun k e => by simp [Value.ownBlock] at e)⟩

set_option maxRecDepth 100000 in
set_option maxHeartbeats 2000000 in
theorem after_any (W w : World) (K : Knd) (b : Bool) (pp : Option Addr) (k cap : Nat) (ps : List (List Nat)) (hk : ps.length = k) (hk2 : k ≤ 4096) (hP : Pts W pp ps) (v : Value) (ts : List (List (List Nat))) (vs : List Value) (h : Bok W w K v ts vs) (hts : ts.length ≤ 1000) :
    Calls Tryz.prog 30 #[.agg #[.bool b, .slice pp k cap], v] w fun e w' => ∃ v' vs', e = .returned v' ∧ Bok W w' (ext K w.heap.size (0, 0)) v' (lAf b ts ps) vs' ∧ Below w.heap.size w w' := by
  obtain ⟨i0, hi, hz0, hz1, hz2⟩ := info_parts Tryz.infoRr
  have hb1 : Below w.heap.size w (w.alloc (.cells #[.bool b, .slice pp k cap] 64)) := (Below.refl _ _).alloc (Nat.le_refl _) _
  have HB1 := hide hb1
  have HP := hide hP
  have HK := hide hk
  have HH := hide h
  have n0 : w.heap.size < w.heap.size + 1 := by omega
  cases b with
  | true =>
    clear hb1 hP hk h
    go_enter Tryz.func30, Tryz.ntmps30
    go_wp2
    go_ret
    have e := heap_alloc_new (w.alloc (.cells #[.bool true, .slice pp k cap] 64)) (.cells #[.slice pp k cap] 62)
    rw [World.size_alloc] at e
    refine ⟨_, [.slice pp k cap], rfl, ⟨⟨⟨rfl, Or.inr ⟨w.heap.size + 1, 1, #[.slice pp k cap], rfl, Nat.zero_le _, e, Nat.le_refl _, by unfold maxLen; omega, rfl, rfl⟩⟩, fun g e => ?_⟩, fun q hq => ?_, fun j q hj => ?_, fun u hu => ?_⟩, HB1.out.alloc (by simp) _⟩
    · simp [Value.ownBlock] at e
      subst e
      exact ext_new _ _ (by omega)
    · have hq' : q ∈ [ps] := hq
      simp at hq'; subst hq'; rw [HK.out]; exact hk2
    · have hj' : ([ps] : List (List (List Nat)))[j]? = some q := hj
      have hj0 : j = 0 := by have := (List.getElem?_eq_some_iff.1 hj').1; simpa using this
      subst hj0
      simp at hj'
      subst hj'
      exact ⟨pp, cap, by rw [HK.out]; rfl, HP.out⟩
    · simp at hu; subst hu; rfl
  | false =>
    obtain ⟨a, c, hv, _, _⟩ := h.row.form
    subst hv
    obtain ⟨q, hq⟩ : ∃ q, ts.length = q := ⟨_, rfl⟩
    rw [hq] at hts
    have ho := h.row.own
    rw [hq] at ho
    obtain ⟨a1, c1, w2, hr, ho2, hb2⟩ := run_app_row (owns_same ho (w' := w.alloc (.cells #[.bool false, .slice pp k cap] 64)) (fun g e => Below.heap_alloc _ _ _ (rk_lt ho e))) h.one (by omega) 47
    have hx1 : (w.alloc (.cells #[.bool false, .slice pp k cap] 64)).heap[w.heap.size]? = some (.cells #[.bool false, .slice pp k cap] 64 (0, 0)) := heap_alloc_new _ _
    have hx2 : w2.heap[w.heap.size]? = _ := (hb2.block w.heap.size (by simp)).trans hx1
    have z1 : w2.cell? ⟨w.heap.size, 1, none⟩ = some (.slice pp k cap) := by simp [World.cell?, hx2]
    have hl2 := lt_of_block hx2
    have HO2 := hide ho2
    have HB2 := hide (hb1.trans (hb2.mono (by simp)))
    have HQ := hide hq
    have hs2 := HB2.out.size
    have HS2 : Hid (w.heap.size + 1 ≤ w2.heap.size) := by have := hb2.size; simp at this; exact this
    have HO2' : Hid (w2.ownsRow w.heap.size 62 1 (.slice a1 q c1) q vs) := ⟨ho2.1, ho2.2.imp id (fun ⟨g, cap, cur, e1, e2, r⟩ => ⟨g, cap, cur, e1, by simp at e2; omega, r⟩)⟩
    rw [hq]
    clear hb1 hP hk h ho ho2 hb2 hx1 hx2 hq
    go_enter Tryz.func30, Tryz.ntmps30
    go_wp2_with (first | (at_builtin; refine wpList_app_run rfl (.tmp 11) (.tmp 12) 47 47 rfl (.slice none 0 0) (.slice a q c) _ _ rfl rfl hr ?_) | (at_builtin; refine wpList_append_lies _ rfl (.tmp 14) (.tmp 17) 47 rfl w.heap.size 62 i0 (.slice none 0 0) 1 24 Tryz.underlying47 hi hz0 hz1 hz2 rfl (by omega) (.slice a1 q c1) q vs rfl (HO2'.out.alloc _) ⟨w2.heap.size, 0, none⟩ 1 1 [.slice pp k cap] rfl rfl (World.news_of_block (heap_alloc_new w2 (.cells #[.slice pp k cap] 62))) (by simp [Value.oneCell']) (by omega) (by unfold maxLen; omega) (by omega) (by simp; omega) _ rfl ?_; intro g' cap' w4 hown4 hgrow4 hat4 hltg; have HO4 := hide hown4; have HG4 := hide hgrow4; clear hown4 hgrow4 hat4))
    go_ret
    have hz4 : Below w.heap.size w w4 := (HB2.out.alloc HB2.out.size _).grown HG4.out (by simp; omega) (fun g2 e => by
      rcases HO2'.out.2 with ⟨e1, _⟩ | ⟨g3, _, _, e1, e2, _⟩
      · rw [e1] at e; simp [Value.ownBlock] at e
      · rw [e1] at e; simp [Value.ownBlock] at e; omega)
    have hll : (lAf false ts ps).length = q + 1 := by
      show (ts ++ [ps]).length = q + 1
      rw [List.length_append, HQ.out]; rfl
    have hvl : vs.length = q := by have := HO2'.out.1; omega
    refine ⟨_, vs ++ [.slice pp k cap], rfl, ⟨⟨?_, fun g e => ?_⟩, fun x hx => ?_, fun j x hj => ?_, fun u hu => ?_⟩, hz4⟩
    · rw [hll]
      have := HO4.out
      exact ⟨this.1, this.2.imp id (fun ⟨g, cap, cur, e1, _, r⟩ => ⟨g, cap, cur, e1, Nat.zero_le _, r⟩)⟩
    · refine ext_new _ _ ?_
      rcases HO4.out.2 with ⟨e1, _⟩ | ⟨g3, _, _, e1, e2, _⟩
      · rw [e1] at e; simp [Value.ownBlock] at e
      · rw [e1] at e; simp [Value.ownBlock] at e; omega
    · have hx' : x ∈ ts ++ [ps] := hx
      rcases List.mem_append.1 hx' with h' | h'
      · exact HH.out.few x h'
      · simp at h'; subst h'; rw [HK.out]; exact hk2
    · have hj' : (ts ++ [ps])[j]? = some x := hj
      by_cases hjl : j < ts.length
      · rw [List.getElem?_append_left hjl] at hj'
        obtain ⟨p1, c1', e1, e2⟩ := HH.out.el j x hj'
        exact ⟨p1, c1', by rw [List.getElem?_append_left (by rw [hvl, ← HQ.out]; exact hjl)]; exact e1, e2⟩
      · have hjq : j = ts.length := by
          have := (List.getElem?_eq_some_iff.1 hj').1
          simp at this; omega
        subst hjq
        rw [List.getElem?_append_right (Nat.le_refl _)] at hj'
        simp at hj'
        subst hj'
        refine ⟨pp, cap, ?_, HP.out⟩
        rw [HQ.out, ← hvl, List.getElem?_append_right (Nat.le_refl _), HK.out]
        simp
    · rcases List.mem_append.1 hu with h' | h'
      · exact HH.out.one u h'
      · simp at h'; subst h'; rfl

end Go.Proofs.YtlmfohcdaahojaaGreatDoor
namespace Go.Proofs.YtlmfohcdaahojaaGreatDoor
open Go.RowKit Go.Maps

/-- A BOOK OF TRANSACTIONS: a row of the call's own; each transaction is P's. -/
structure Bop (P : Option Addr → List (List Nat) → Prop) (w : World) (K : Knd) (v : Value) (ts : List (List (List Nat))) (vs : List Value) : Prop where
  row : Rk w K (0, 0) 62 1 v ts.length vs
  few : ∀ ps ∈ ts, ps.length ≤ 4096
  el : ∀ (j : Nat) (ps : List (List Nat)), ts[j]? = some ps → ∃ (pp : Option Addr) (cp : Nat), vs[j]? = some (.slice pp ps.length cp) ∧ P pp ps
  one : ∀ u ∈ vs, u.oneCell' = true
theorem Bop.kept {p : Nat × Nat → Prop} {K K' : Knd} {P : Option Addr → List (List Nat) → Prop} {w w' : World} {v : Value} {ts : List (List (List Nat))} {vs : List Value} (h : Bop P w K v ts vs) (hk : Kp p K K' w w') (hp : ¬ p (0, 0)) : Bop P w' K' v ts vs := ⟨h.row.kept hk hp, h.few, h.el, h.one⟩
theorem bop_nil (P : Option Addr → List (List Nat) → Prop) (w : World) (K : Knd) : Bop P w K (.slice none 0 0) [] [] := ⟨rk_nil _ _ _ _ _, fun _ h => (by cases h), fun j ps h => (by simp at h), fun _ h => (by cases h)⟩
theorem Bop.trs {P : Option Addr → List (List Nat) → Prop} {w : World} {K : Knd} {a : Option Addr} {n c : Nat} {ts : List (List (List Nat))} {vs : List Value} (h : Bop P w K (.slice a n c) ts vs) (hb : ∀ pp ps, P pp ps → Pts w pp ps) : Trs w a ts := by
  refine ⟨fun ps hp => Nat.le_trans (h.few ps hp) (by omega), ?_⟩
  have hl := h.row.own.1
  rcases h.row.own.2 with ⟨_, h2⟩ | ⟨g, cap, cur, h1, _, hg, h3, h4, h5, h6⟩
  · exact Or.inl (List.eq_nil_of_length_eq_zero h2)
  · cases h1
    refine Or.inr ⟨g, 0, rfl, lt_of_block hg, fun j ps hj => ?_⟩
    obtain ⟨pp, cp, e, hP⟩ := h.el j ps hj
    have hjl : j < ts.length := (List.getElem?_eq_some_iff.1 hj).1
    rw [← h6, List.getElem?_take, if_pos (by omega), Array.getElem?_toList] at e
    exact ⟨pp, cp, by rw [Nat.zero_add]; simp only [World.cell?, hg]; exact e, hb _ _ hP⟩
set_option maxRecDepth 100000 in
set_option maxHeartbeats 2000000 in
theorem afterP_any (P : Option Addr → List (List Nat) → Prop) (w : World) (K : Knd) (b : Bool) (pp : Option Addr) (k cap : Nat) (ps : List (List Nat)) (hk : ps.length = k) (hk2 : k ≤ 4096) (hP : P pp ps) (v : Value) (ts : List (List (List Nat))) (vs : List Value) (h : Bop P w K v ts vs) (hts : ts.length ≤ 1000) :
    Calls Tryz.prog 30 #[.agg #[.bool b, .slice pp k cap], v] w fun e w' => ∃ v' vs', e = .returned v' ∧ Bop P w' (ext K w.heap.size (0, 0)) v' (lAf b ts ps) vs' ∧ Below w.heap.size w w' := by
  obtain ⟨i0, hi, hz0, hz1, hz2⟩ := info_parts Tryz.infoRr
  have hb1 : Below w.heap.size w (w.alloc (.cells #[.bool b, .slice pp k cap] 64)) := (Below.refl _ _).alloc (Nat.le_refl _) _
  have HB1 := hide hb1
  have HP := hide hP
  have HK := hide hk
  have HH := hide h
  have n0 : w.heap.size < w.heap.size + 1 := by omega
  cases b with
  | true =>
    clear hb1 hP hk h
    go_enter Tryz.func30, Tryz.ntmps30
    go_wp2
    go_ret
    have e := heap_alloc_new (w.alloc (.cells #[.bool true, .slice pp k cap] 64)) (.cells #[.slice pp k cap] 62)
    rw [World.size_alloc] at e
    refine ⟨_, [.slice pp k cap], rfl, ⟨⟨⟨rfl, Or.inr ⟨w.heap.size + 1, 1, #[.slice pp k cap], rfl, Nat.zero_le _, e, Nat.le_refl _, by unfold maxLen; omega, rfl, rfl⟩⟩, fun g e => ?_⟩, fun q hq => ?_, fun j q hj => ?_, fun u hu => ?_⟩, HB1.out.alloc (by simp) _⟩
    · simp [Value.ownBlock] at e
      subst e
      exact ext_new _ _ (by omega)
    · have hq' : q ∈ [ps] := hq
      simp at hq'; subst hq'; rw [HK.out]; exact hk2
    · have hj' : ([ps] : List (List (List Nat)))[j]? = some q := hj
      have hj0 : j = 0 := by have := (List.getElem?_eq_some_iff.1 hj').1; simpa using this
      subst hj0
      simp at hj'
      subst hj'
      exact ⟨pp, cap, by rw [HK.out]; rfl, HP.out⟩
    · simp at hu; subst hu; rfl
  | false =>
    obtain ⟨a, c, hv, _, _⟩ := h.row.form
    subst hv
    obtain ⟨q, hq⟩ : ∃ q, ts.length = q := ⟨_, rfl⟩
    rw [hq] at hts
    have ho := h.row.own
    rw [hq] at ho
    obtain ⟨a1, c1, w2, hr, ho2, hb2⟩ := run_app_row (owns_same ho (w' := w.alloc (.cells #[.bool false, .slice pp k cap] 64)) (fun g e => Below.heap_alloc _ _ _ (rk_lt ho e))) h.one (by omega) 47
    have hx1 : (w.alloc (.cells #[.bool false, .slice pp k cap] 64)).heap[w.heap.size]? = some (.cells #[.bool false, .slice pp k cap] 64 (0, 0)) := heap_alloc_new _ _
    have hx2 : w2.heap[w.heap.size]? = _ := (hb2.block w.heap.size (by simp)).trans hx1
    have z1 : w2.cell? ⟨w.heap.size, 1, none⟩ = some (.slice pp k cap) := by simp [World.cell?, hx2]
    have hl2 := lt_of_block hx2
    have HO2 := hide ho2
    have HB2 := hide (hb1.trans (hb2.mono (by simp)))
    have HQ := hide hq
    have hs2 := HB2.out.size
    have HS2 : Hid (w.heap.size + 1 ≤ w2.heap.size) := by have := hb2.size; simp at this; exact this
    have HO2' : Hid (w2.ownsRow w.heap.size 62 1 (.slice a1 q c1) q vs) := ⟨ho2.1, ho2.2.imp id (fun ⟨g, cap, cur, e1, e2, r⟩ => ⟨g, cap, cur, e1, by simp at e2; omega, r⟩)⟩
    rw [hq]
    clear hb1 hP hk h ho ho2 hb2 hx1 hx2 hq
    go_enter Tryz.func30, Tryz.ntmps30
    go_wp2_with (first | (at_builtin; refine wpList_app_run rfl (.tmp 11) (.tmp 12) 47 47 rfl (.slice none 0 0) (.slice a q c) _ _ rfl rfl hr ?_) | (at_builtin; refine wpList_append_lies _ rfl (.tmp 14) (.tmp 17) 47 rfl w.heap.size 62 i0 (.slice none 0 0) 1 24 Tryz.underlying47 hi hz0 hz1 hz2 rfl (by omega) (.slice a1 q c1) q vs rfl (HO2'.out.alloc _) ⟨w2.heap.size, 0, none⟩ 1 1 [.slice pp k cap] rfl rfl (World.news_of_block (heap_alloc_new w2 (.cells #[.slice pp k cap] 62))) (by simp [Value.oneCell']) (by omega) (by unfold maxLen; omega) (by omega) (by simp; omega) _ rfl ?_; intro g' cap' w4 hown4 hgrow4 hat4 hltg; have HO4 := hide hown4; have HG4 := hide hgrow4; clear hown4 hgrow4 hat4))
    go_ret
    have hz4 : Below w.heap.size w w4 := (HB2.out.alloc HB2.out.size _).grown HG4.out (by simp; omega) (fun g2 e => by
      rcases HO2'.out.2 with ⟨e1, _⟩ | ⟨g3, _, _, e1, e2, _⟩
      · rw [e1] at e; simp [Value.ownBlock] at e
      · rw [e1] at e; simp [Value.ownBlock] at e; omega)
    have hll : (lAf false ts ps).length = q + 1 := by
      show (ts ++ [ps]).length = q + 1
      rw [List.length_append, HQ.out]; rfl
    have hvl : vs.length = q := by have := HO2'.out.1; omega
    refine ⟨_, vs ++ [.slice pp k cap], rfl, ⟨⟨?_, fun g e => ?_⟩, fun x hx => ?_, fun j x hj => ?_, fun u hu => ?_⟩, hz4⟩
    · rw [hll]
      have := HO4.out
      exact ⟨this.1, this.2.imp id (fun ⟨g, cap, cur, e1, _, r⟩ => ⟨g, cap, cur, e1, Nat.zero_le _, r⟩)⟩
    · refine ext_new _ _ ?_
      rcases HO4.out.2 with ⟨e1, _⟩ | ⟨g3, _, _, e1, e2, _⟩
      · rw [e1] at e; simp [Value.ownBlock] at e
      · rw [e1] at e; simp [Value.ownBlock] at e; omega
    · have hx' : x ∈ ts ++ [ps] := hx
      rcases List.mem_append.1 hx' with h' | h'
      · exact HH.out.few x h'
      · simp at h'; subst h'; rw [HK.out]; exact hk2
    · have hj' : (ts ++ [ps])[j]? = some x := hj
      by_cases hjl : j < ts.length
      · rw [List.getElem?_append_left hjl] at hj'
        obtain ⟨p1, c1', e1, e2⟩ := HH.out.el j x hj'
        exact ⟨p1, c1', by rw [List.getElem?_append_left (by rw [hvl, ← HQ.out]; exact hjl)]; exact e1, e2⟩
      · have hjq : j = ts.length := by
          have := (List.getElem?_eq_some_iff.1 hj').1
          simp at this; omega
        subst hjq
        rw [List.getElem?_append_right (Nat.le_refl _)] at hj'
        simp at hj'
        subst hj'
        refine ⟨pp, cap, ?_, HP.out⟩
        rw [HQ.out, ← hvl, List.getElem?_append_right (Nat.le_refl _), HK.out]
        simp
    · rcases List.mem_append.1 hu with h' | h'
      · exact HH.out.one u h'
      · simp at h'; subst h'; rfl

end Go.Proofs.YtlmfohcdaahojaaGreatDoor
