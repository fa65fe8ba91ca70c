import Derived.Test.YtfdclebajninfaaGreatDoorJMem
import Derived.BigQuiet
namespace Go.Proofs.YtfdclebajninfaaGreatDoor
open Go.RowKit

/-! A file gone through -/
def goB : Nat → List Nat → List (List Nat) → Nat → List (List Nat) × Nat × Bool × Nat
  | 0, _, recs, last => (recs, last, false, 0)
  | f + 1, xs, recs, last =>
    if xs.length = 0 then (recs, last, false, 0)
    else if xs.length < 9 then (recs, last, true, 0)
    else if hdOk xs = false then (recs, last, false, 53)
    else if xs.length < hdN xs + 13 then (recs, last, true, 0)
    else match readR (xs.take (hdN xs + 13)) with
      | none => (recs, last, false, 53)
      | some (num, _) => if 0 < recs.length ∧ num ≠ last + 1 then (recs, last, false, 53) else goB f (xs.drop (hdN xs + 13)) (recs ++ [xs.take (hdN xs + 13)]) num
def Jr.went (J : Jr) (R : List (List Nat) × Nat × Bool × Nat) : Jr := { J with recs := R.1, last := R.2.1, torn := R.2.2.1 }
def slen : Value → Nat
  | .slice _ n _ => n
  | _ => 0
theorem hdOk_bounds {xs : List Nat} (h : hdOk xs = true) : 12 ≤ hdN xs ∧ hdN xs ≤ 4194291 := by
  simp only [hdOk, Bool.and_eq_true, decide_eq_true_eq] at h
  exact h.1
theorem readR_num {xs : List Nat} {num : Nat} {ps : List (List Nat)} (h : readR xs = some (num, ps)) : 1 ≤ num ∧ num ≤ 1099511627776 := by
  unfold readR at h
  split at h
  · cases h
  · unfold readB at h
    split at h
    · cases h
    · rename_i hn
      split at h
      · cases h
      · simp at h
        rw [← h.1]
        omega
theorem Jk.torned {w : World} {K : Knd} {o d jb : Nat} {J : Jr} (h : Jk w K o d jb J) (_ho : o ≠ 0) : Jk (w.setCell ⟨jb, 4, none⟩ (.bool true)) K o d jb { J with torn := true } ∧ Kp (Ow o) K K w (w.setCell ⟨jb, 4, none⟩ (.bool true)) := by
  obtain ⟨rv, vs, hm⟩ := h
  have hb := hm.blk
  unfold jcells at hb
  have kp : Kp (fun k => k = (o, 1)) K K w (w.setCell ⟨jb, 4, none⟩ (.bool true)) := (Kp.refl _ K w).setCell (Or.inr hm.kj) _ _
  refine ⟨⟨rv, vs, ⟨by rw [block_set hb]; rfl, hm.kj, hm.row.kept kp (by simp), fun i r hr => ?_⟩⟩, kp.mono (fun k e => by rw [e])⟩
  obtain ⟨g, q, c, h1, h2, h3, h4, h5, h6⟩ := hm.recs i r hr
  exact ⟨g, q, c, h1, h2, h3, h4, Nat.lt_of_lt_of_le h5 kp.size, bytes_kept h6 kp.size (fun g' o' e hg => by cases e; exact kp.block g hg (by rw [h4]; simp))⟩
theorem tab_kept {o : Nat} {K K' : Knd} {w w' : World} (h : C.Tab w) (hk : Kp (Ow o) K K' w w') (h0 : K 0 = (0, 0)) (ho : o ≠ 0) : C.Tab w' := fun j hj => by
  rw [World.cell?_of_block (w := w) (hk.block 0 h.pos (by rw [h0]; exact fun e => ho e.symm))]; exact h j hj

set_option maxRecDepth 100000 in
set_option maxHeartbeats 2000000 in
theorem goThrough_any (w : World) (K : Knd) (o d jb : Nat) (ho : o ≠ 0) (J : Jr) (h : Jk w K o d jb J) (h1 : J.recs = []) (h2 : J.last = 0) (h3 : J.torn = false) (sp : Option Addr) (n cap : Nat) (xs : List Nat) (hn : xs.length = n) (hcap : n ≤ cap) (hc2 : cap ≤ 9223372036854775807) (hnl : n ≤ 1099511627776) (hx : Bytes w sp xs)
    (hsp : 0 < n → ∃ g q, sp = some ⟨g, q, none⟩ ∧ K g = (o, 3)) (hT : C.Tab w) (hK0 : K 0 = (0, 0)) :
    Calls Tryz.prog 33 #[.pointer (some ⟨jb, 0, none⟩), .slice sp n cap] w fun e w' => ∃ K', e = .returned (.int .i64 ((goB (n + 1) xs [] 0).2.2.2 : Int)) ∧ Jk w' K' o d jb (J.went (goB (n + 1) xs [] 0)) ∧ Kp (Ow o) K K' w w' := by
  have HX := hide hx
  have HN := hide hn
  have HJ : Hid (Jk w K o d jb (J.went ([], 0, false, 0))) := by
    have : J.went ([], 0, false, 0) = J := by unfold Jr.went; rw [← h1, ← h2, ← h3]
    show Jk _ _ _ _ _ _
    rw [this]; exact h
  have HT := hide hT
  have HK0 := hide hK0
  have HSp := hide hsp
  obtain ⟨R, hR⟩ : ∃ R, goB (n + 1) xs [] 0 = R := ⟨_, rfl⟩
  rw [hR]
  have HR := hide hR
  clear h hx hn h1 h2 h3 hT hK0 hsp hR
  go_enter Tryz.func33, Tryz.ntmps33
  go_wp2
  go_loopw [1] (fun b wr => ∃ (sp' : Option Addr) (n' c' f : Nat) (xs' : List Nat) (recs : List (List Nat)) (last : Nat) (K' : Knd), b = .slice sp' n' c' ∧ n' ≤ c' ∧ c' ≤ 9223372036854775807 ∧ n' ≤ n ∧ Hid (xs'.length = n') ∧ Hid (Bytes wr sp' xs') ∧ Hid (0 < n' → ∃ g q, sp' = some ⟨g, q, none⟩ ∧ K' g = (o, 3)) ∧ Hid (Jk wr K' o d jb (J.went (recs, last, false, 0))) ∧ Hid (Kp (Ow o) K K' w wr) ∧ Hid (n' < f ∧ goB f xs' recs last = R) ∧ Hid (recs.length + n' ≤ n ∧ last ≤ 1099511627776)) (fun b _ => slen b)
  case atStart => exact ⟨sp, n, cap, n + 1, xs, [], 0, K, rfl, hcap, hc2, Nat.le_refl _, HN, HX, HSp, HJ, hide (Kp.refl _ _ _), hide ⟨by omega, HR.out⟩, hide ⟨by simp, by omega⟩⟩
  case round =>
    obtain ⟨sp', n', c', f, xs', recs, last, K', rfl, hnc, hc3, hnn, HN', HX', HSp', HJ', HKp, HGo, HLe⟩ := hrel
    clear HX HN HJ HSp HR
    obtain ⟨f', rfl⟩ : ∃ f', f = f' + 1 := ⟨f - 1, by have := HGo.out.1; omega⟩
    have HG2 : Hid (goB (f' + 1) xs' recs last = R) := HGo.out.2
    unfold goB at HG2
    have hg2 := HG2.out
    rw [HN'.out] at hg2
    by_cases hz : n' = 0
    · rw [if_pos hz] at hg2
      have HRe := hide hg2
      clear HG2 hg2
      subst hz
      go_wp2
      go_ret
      exact ⟨K', by rw [← HRe.out]; rfl, by rw [← HRe.out]; exact HJ'.out, HKp.out⟩
    rw [if_neg hz] at hg2
    have hz' : (0 : Int) < (n' : Int) := by omega
    obtain ⟨rv, vs, hm⟩ := HJ'.out
    have hbl := hm.blk
    unfold jcells at hbl
    obtain ⟨q0, q1, q2, q3, q4, q5, q6, qf⟩ := blk7 hbl
    have hjl := lt_of_block hbl
    by_cases h9 : n' < 9
    · have h9' : (n' : Int) < 9 := by omega
      rw [if_pos h9] at hg2
      have HRe := hide hg2
      have HTn := hide (HJ'.out.torned ho)
      clear HG2 hg2 hm hbl
      go_wp2
      go_ret
      exact ⟨K', by rw [← HRe.out]; rfl, by rw [← HRe.out]; exact HTn.out.1, HKp.out.trans HTn.out.2⟩
    have h9' : ¬ (n' : Int) < 9 := by omega
    rw [if_neg h9] at hg2
    have HTr := hide (tab_kept HT.out HKp.out HK0.out ho)
    have HRs := hide (recordSize_any wr sp' n' c' xs' HN'.out (by omega) hnc hc3 HX'.out HTr.out)
    cases hho : hdOk xs' with
    | false =>
      rw [if_pos hho] at hg2
      rw [hdRes_no hho] at HRs
      have HRe := hide hg2
      clear HG2 hg2 hm hbl hho
      go_wp2_with fail
      refine HRs.out.mono ?_
      rintro e w1 ⟨rfl, hb1⟩
      have HJ1 := hide (HJ'.out.kept (kp_below hb1 (fun _ => False) K' (0, 0)) (fun _ h => h))
      have HK1 := hide (HKp.out.trans (kp_below hb1 (Ow o) K' (0, 0)))
      clear hb1
      go_wp2
      go_ret
      exact ⟨_, by rw [← HRe.out]; rfl, by rw [← HRe.out]; exact HJ1.out, HK1.out⟩
    | true =>
      rw [if_neg (by rw [hho]; simp)] at hg2
      rw [hdRes_ok hho] at HRs
      have hbd := hdOk_bounds hho
      obtain ⟨S, hS⟩ : ∃ S, hdN xs' + 13 = S := ⟨_, rfl⟩
      have hS1 : 25 ≤ S ∧ S ≤ 4194304 := by omega
      rw [hS] at hg2 HRs
      clear hho hbd hS
      go_wp2_with fail
      refine HRs.out.mono ?_
      rintro e w1 ⟨rfl, hb1⟩
      have HJ1 := hide (HJ'.out.kept (kp_below hb1 (fun _ => False) K' (0, 0)) (fun _ h => h))
      have HK1 := hide (HKp.out.trans (kp_below hb1 (Ow o) K' (0, 0)))
      have HX1 := hide (HX'.out.below hb1)
      have HSp1 : Hid (∃ g q, sp' = some ⟨g, q, none⟩ ∧ ext K' wr.heap.size (0, 0) g = (o, 3) ∧ g < wr.heap.size) := by
        obtain ⟨g, q, e1, e2⟩ := HSp'.out (by omega)
        have hgl : g < wr.heap.size := by
          rcases HX'.out.lie with e | ⟨g', o', e, hg, _⟩
          · have := HN'.out; rw [e] at this; simp at this; omega
          · rw [e1] at e; cases e; exact hg
        exact ⟨g, q, e1, (ext_old K' _ hgl).trans e2, hgl⟩
      generalize ext K' wr.heap.size (0, 0) = K1 at *
      obtain ⟨rv1, vs1, hm1⟩ := HJ1.out
      have hbl1 := hm1.blk
      unfold jcells at hbl1
      clear q0 q1 q2 q3 q4 q5 q6 qf hbl hm hb1 HRs
      obtain ⟨q0, q1, q2, q3, q4, q5, q6, qf⟩ := blk7 hbl1
      have hjl1 := lt_of_block hbl1
      by_cases hsh : n' < S
      · have hsh' : (n' : Int) < (S : Int) := by omega
        rw [if_pos hsh] at hg2
        have HRe := hide hg2
        have HTn := hide (HJ1.out.torned ho)
        clear HG2 hg2 hm1 hbl1
        go_wp2
        go_ret
        exact ⟨K1, by rw [← HRe.out]; rfl, by rw [← HRe.out]; exact HTn.out.1, HK1.out.trans HTn.out.2⟩
      have hsh' : ¬ (n' : Int) < (S : Int) := by omega
      rw [if_neg hsh] at hg2
      obtain ⟨g, q, rfl, hkg, hgl⟩ := HSp1.out
      have hSc : S ≤ c' := by omega
      have hSc' : (S : Int) ≤ (c' : Int) := by omega
      have hSn' : (S : Int) ≤ (n' : Int) := by omega
      have HTl : Hid ((xs'.take S).length = S) := by show _ = _; rw [List.length_take, HN'.out]; omega
      have HRd := hide (readRecord_any w1 (some ⟨g, q, none⟩) S S (xs'.take S) HTl.out hS1.1 hS1.2 (Nat.le_refl _) (by omega) (bytes_take HX1.out S) (tab_kept HT.out HK1.out HK0.out ho))
      cases hrr : readR (xs'.take S) with
      | none =>
        rw [hrr] at hg2
        have HRe := hide hg2
        rw [hrr] at HRd
        clear HG2 hg2 hm1 hbl1 hrr
        go_wp2_with fail
        refine HRd.out.mono ?_
        rintro e w2 (⟨num, ps, he, _⟩ | ⟨_, rfl, hb2⟩)
        · cases he
        · have hb3 : Below w1.heap.size w1 (w2.alloc (.cells #[.int .u64 0, .slice none 0 0] 99)) := hb2.alloc hb2.size _
          have HJ3 := hide (HJ1.out.kept (kp_below hb3 (fun _ => False) K1 (0, 0)) (fun _ h => h))
          have HK3 := hide (HK1.out.trans (kp_below hb3 (Ow o) K1 (0, 0)))
          clear hb2 hb3 q0 q1 q2 q3 q4 q5 q6 qf
          go_wp2
          go_quiet (fail)
          go_wp2
          go_ret
          exact ⟨_, by rw [← HRe.out]; rfl, by rw [← HRe.out]; exact (HJ3.out.kept ((Kp.refl (fun _ => False) _ _).drewN nq) (fun _ h => h)), HK3.out.drewN nq⟩
      | some v =>
        obtain ⟨num, ps⟩ := v
        rw [hrr] at hg2
        simp only at hg2
        have hnum := readR_num hrr
        rw [hrr] at HRd
        clear HG2 hm1 hbl1 hrr
        have HG3 := hide hg2
        clear hg2
        go_wp2_with fail
        refine HRd.out.mono ?_
        rintro e w2 (⟨num', ps', he, pp, c, rfl, hp2, hb2⟩ | ⟨he, _⟩)
        · cases he
          have hb3 : Below w1.heap.size w1 (w2.alloc (.cells #[.int .u64 (num : Int), .slice pp ps.length c] 99)) := hb2.alloc hb2.size _
          have hT3 : (w2.alloc (.cells #[.int .u64 (num : Int), .slice pp ps.length c] 99)).heap[w2.heap.size]? = some (.cells #[.int .u64 (num : Int), .slice pp ps.length c] 99 (0, 0)) := heap_alloc_new _ _
          have HJ3 := hide (HJ1.out.kept (kp_below hb3 (fun _ => False) K1 (0, 0)) (fun _ h => h))
          have HK3 := hide (HK1.out.trans (kp_below hb3 (Ow o) K1 (0, 0)))
          have HX3 := hide (HX1.out.below hb3)
          have hkg3 : ext K1 w1.heap.size (0, 0) g = (o, 3) := (ext_old K1 _ (by
            rcases HX1.out.lie with e | ⟨g', o', e, hg, _⟩
            · have := HN'.out; rw [e] at this; simp at this; omega
            · cases e; exact hg)).trans hkg
          go_wp2
          generalize ps.length = pk at *
          clear q0 q1 q2 q3 q4 q5 q6 qf hp2 hb2 hb3
          obtain ⟨tb, htb⟩ : ∃ tb, w2.heap.size = tb := ⟨_, rfl⟩
          rw [htb] at hT3 ⊢
          generalize w2.alloc (.cells #[.int .u64 (num : Int), .slice pp pk c] 99) = w3 at *
          clear htb
          generalize ext K1 w1.heap.size (0, 0) = K3 at *
          have HT3 := hide hT3
          obtain ⟨t0, t1, tf⟩ := blk2 hT3
          obtain ⟨rv3, vs3, hm3⟩ := HJ3.out
          have hbl3 := hm3.blk
          unfold jcells at hbl3
          obtain ⟨a3, c3, hrv3, _, _⟩ := hm3.row.form
          have hrl : (J.went (recs, last, false, 0)).recs.length = recs.length := rfl
          rw [hrl] at hrv3
          rw [hrv3] at hbl3
          obtain ⟨q0, q1, q2, q3, q4, q5, q6, qf⟩ := blk7 hbl3
          have hll := HLe.out.2
          have HNx : Hid (∀ q', Calls Tryz.prog 16 #[.pointer (some ⟨jb, 0, none⟩)] (w3.drewN q') fun e w' => e = .returned (.int .u64 ((last + 1 : Nat) : Int)) ∧ w' = w3.drewN q') := fun q' => next_any (w3.drewN q') K3 o d jb _ (HJ3.out.kept ((Kp.refl (fun _ => False) _ w3).drewN q') (fun _ h => h)) (by show last < _; omega)
          clear hT3 hm3 hbl3 hrv3 hrl
          by_cases hr0 : 0 < recs.length
          · have hr0' : (0 : Int) < (recs.length : Int) := by omega
            by_cases hnx : num = last + 1
            · have HRe : Hid (goB f' (xs'.drop S) (recs ++ [xs'.take S]) num = R) := by
                have := HG3.out
                rw [if_neg (fun h => h.2 hnx)] at this
                exact this
              have hnx' : ((num : Int) != ((last + 1 : Nat) : Int)) = false := by simp; omega
              obtain ⟨L1, hL1⟩ : ∃ L1, last + 1 = L1 := ⟨_, rfl⟩
              rw [hL1] at HNx hnx'
              obtain ⟨rl, hrl⟩ : ∃ rl, recs.length = rl := ⟨_, rfl⟩
              rw [hrl] at hr0' q2 hr0
              have hd5 : decide (0 < rl) = true := by simpa using hr0
              have hd6 : decide ((0 : Int) < (rl : Int)) = true := by simpa using hr0
              clear hL1 hnx hrl
              go_wp2
              go_quiet (first | (go_at_call 16; exact Calls.quiet_of_same (HNx.out _)))
              have HJ4 := hide (HJ3.out.kept ((Kp.refl (fun _ => False) _ w3).drewN nq) (fun _ h => h))
              have HK4 := hide (HK3.out.drewN nq)
              have HX4 : Hid (Bytes (w3.drewN nq) (some ⟨g, q, none⟩) xs') := ⟨HX3.out.small, HX3.out.lie⟩
              have ht4 : (w3.drewN nq).heap[tb]? = _ := HT3.out
              obtain ⟨t0, t1, tf⟩ := blk2 ht4
              clear ht4 q0 q1 q2 q3 q4 q5 q6 qf
              generalize w3.drewN nq = w4 at *
              have HTk := hide (take_any w4 K3 o d jb _ HJ4.out g q S S num (xs'.take S) HTl.out (Nat.le_refl _) (by omega) hkg3 (bytes_take HX4.out S) (by omega) (by omega) (by have := HLe.out.1; show recs.length ≤ _; omega))
              go_wp2_with fail
              refine HTk.out.mono ?_
              rintro e w5 ⟨K5, rfl, hj5, hk5⟩
              have HJ5 : Hid (Jk w5 K5 o d jb (J.went (recs ++ [xs'.take S], num, false, 0))) := hj5
              have HK5 := hide (HK4.out.trans (hk5.mono (fun k e => by rcases e with e | e <;> rw [e])))
              have hgl4 : g < w4.heap.size := by
                rcases HX4.out.lie with e | ⟨g', o', e, hg, _⟩
                · have := HN'.out; rw [e] at this; simp at this; omega
                · cases e; exact hg
              have hkg5 : K5 g = (o, 3) := (hk5.same g hgl4).trans hkg3
              have HX5 : Hid (Bytes w5 (some ⟨g, q, none⟩) xs') := bytes_kept HX4.out hk5.size (fun g' o' e hg => by cases e; exact hk5.block g hg (by rw [hkg3]; simp))
              have HLr : Hid ((recs ++ [xs'.take S]).length + (n' - S) ≤ n ∧ num ≤ 1099511627776) := by
                refine ⟨?_, hnum.2⟩
                have := HLe.out.1
                rw [List.length_append]
                simp; omega
              have HGn : Hid (n' - S < f' ∧ goB f' (xs'.drop S) (recs ++ [xs'.take S]) num = R) := ⟨by have := HGo.out.1; omega, HRe.out⟩
              have HNd : Hid ((xs'.drop S).length = n' - S) := by show _ = _; rw [List.length_drop, HN'.out]
              clear hj5 hk5 HTk t0 t1 tf
              by_cases hcS : c' = S
              · go_wp2
                go_roundw
                case rel => exact ⟨_, n' - S, 0, f', xs'.drop S, recs ++ [xs'.take S], num, K5, rfl, by omega, by omega, by omega, HNd, hide ⟨fun x hx => HX5.out.small x (List.mem_of_mem_drop hx), Or.inl (List.eq_nil_of_length_eq_zero (by rw [HNd.out]; omega))⟩, hide (fun h => by omega), HJ5, HK5, HGn, HLr⟩
                case measure => simp [slen]; omega
              · go_wp2
                go_roundw
                case rel => exact ⟨_, n' - S, c' - S, f', xs'.drop S, recs ++ [xs'.take S], num, K5, rfl, by omega, by omega, by omega, HNd, hide (bytes_drop HX5.out S), hide (fun _ => ⟨g, q + S, rfl, hkg5⟩), HJ5, HK5, HGn, HLr⟩
                case measure => simp [slen]; omega
            · have HRe : Hid ((recs, last, false, 53) = R) := by
                have := HG3.out
                rw [if_pos ⟨hr0, hnx⟩] at this
                exact this
              have hnx' : ((num : Int) != ((last + 1 : Nat) : Int)) = true := by rw [bne_iff_ne]; omega
              obtain ⟨L1, hL1⟩ : ∃ L1, last + 1 = L1 := ⟨_, rfl⟩
              rw [hL1] at HNx hnx'
              obtain ⟨rl, hrl⟩ : ∃ rl, recs.length = rl := ⟨_, rfl⟩
              rw [hrl] at hr0' q2 hr0
              have hd5 : decide (0 < rl) = true := by simpa using hr0
              have hd6 : decide ((0 : Int) < (rl : Int)) = true := by simpa using hr0
              clear hL1 hnx hrl
              go_wp2
              go_quiet (first | (go_at_call 16; exact Calls.quiet_of_same (HNx.out _)))
              go_wp2
              go_ret
              exact ⟨_, by rw [← HRe.out]; rfl, by rw [← HRe.out]; exact (HJ3.out.kept ((Kp.refl (fun _ => False) _ _).drewN nq) (fun _ h => h)), HK3.out.drewN nq⟩
          · have hr0' : ¬ (0 : Int) < (recs.length : Int) := by omega
            have HRe : Hid (goB f' (xs'.drop S) (recs ++ [xs'.take S]) num = R) := by
              have := HG3.out
              rw [if_neg (fun h => hr0 h.1)] at this
              exact this
            have hr00 : decide ((0 : Int) < (recs.length : Int)) = false := decide_eq_false hr0'
            obtain ⟨rl, hrl⟩ : ∃ rl, recs.length = rl := ⟨_, rfl⟩
            rw [hrl] at hr0' q2 hr00 hr0
            have hd5 : decide (0 < rl) = false := by simpa using hr0
            clear hrl
            go_wp2
            go_quiet (fail)
            have HJ4 := hide (HJ3.out.kept ((Kp.refl (fun _ => False) _ w3).drewN nq) (fun _ h => h))
            have HK4 := hide (HK3.out.drewN nq)
            have HX4 : Hid (Bytes (w3.drewN nq) (some ⟨g, q, none⟩) xs') := ⟨HX3.out.small, HX3.out.lie⟩
            have ht4 : (w3.drewN nq).heap[tb]? = _ := HT3.out
            obtain ⟨t0, t1, tf⟩ := blk2 ht4
            clear ht4 q0 q1 q2 q3 q4 q5 q6 qf
            generalize w3.drewN nq = w4 at *
            have HTk := hide (take_any w4 K3 o d jb _ HJ4.out g q S S num (xs'.take S) HTl.out (Nat.le_refl _) (by omega) hkg3 (bytes_take HX4.out S) (by omega) (by omega) (by have := HLe.out.1; show recs.length ≤ _; omega))
            go_wp2_with fail
            refine HTk.out.mono ?_
            rintro e w5 ⟨K5, rfl, hj5, hk5⟩
            have HJ5 : Hid (Jk w5 K5 o d jb (J.went (recs ++ [xs'.take S], num, false, 0))) := hj5
            have HK5 := hide (HK4.out.trans (hk5.mono (fun k e => by rcases e with e | e <;> rw [e])))
            have hgl4 : g < w4.heap.size := by
              rcases HX4.out.lie with e | ⟨g', o', e, hg, _⟩
              · have := HN'.out; rw [e] at this; simp at this; omega
              · cases e; exact hg
            have hkg5 : K5 g = (o, 3) := (hk5.same g hgl4).trans hkg3
            have HX5 : Hid (Bytes w5 (some ⟨g, q, none⟩) xs') := bytes_kept HX4.out hk5.size (fun g' o' e hg => by cases e; exact hk5.block g hg (by rw [hkg3]; simp))
            have HLr : Hid ((recs ++ [xs'.take S]).length + (n' - S) ≤ n ∧ num ≤ 1099511627776) := by
              refine ⟨?_, hnum.2⟩
              have := HLe.out.1
              rw [List.length_append]
              simp; omega
            have HGn : Hid (n' - S < f' ∧ goB f' (xs'.drop S) (recs ++ [xs'.take S]) num = R) := ⟨by have := HGo.out.1; omega, HRe.out⟩
            have HNd : Hid ((xs'.drop S).length = n' - S) := by show _ = _; rw [List.length_drop, HN'.out]
            clear hj5 hk5 HTk t0 t1 tf
            by_cases hcS : c' = S
            · go_wp2
              go_roundw
              case rel => exact ⟨_, n' - S, 0, f', xs'.drop S, recs ++ [xs'.take S], num, K5, rfl, by omega, by omega, by omega, HNd, hide ⟨fun x hx => HX5.out.small x (List.mem_of_mem_drop hx), Or.inl (List.eq_nil_of_length_eq_zero (by rw [HNd.out]; omega))⟩, hide (fun h => by omega), HJ5, HK5, HGn, HLr⟩
              case measure => simp [slen]; omega
            · go_wp2
              go_roundw
              case rel => exact ⟨_, n' - S, c' - S, f', xs'.drop S, recs ++ [xs'.take S], num, K5, rfl, by omega, by omega, by omega, HNd, hide (bytes_drop HX5.out S), hide (fun _ => ⟨g, q + S, rfl, hkg5⟩), HJ5, HK5, HGn, HLr⟩
              case measure => simp [slen]; omega
        · cases he

end Go.Proofs.YtfdclebajninfaaGreatDoor
namespace Go.Proofs.YtfdclebajninfaaGreatDoor
open Go.RowKit

theorem Bytes.drewN {w : World} {sp : Option Addr} {xs : List Nat} (h : Bytes w sp xs) (q : Nat) : Bytes (w.drewN q) sp xs := ⟨h.small, h.lie⟩
theorem Pts.drewN {w : World} {pp : Option Addr} {ps : List (List Nat)} (h : Pts w pp ps) (q : Nat) : Pts (w.drewN q) pp ps := h.below (below_drewN (Below.refl _ w) q)

set_option maxRecDepth 100000 in
set_option maxHeartbeats 400000 in
theorem eqLists_same (w : World) (p1 p2 : Option Addr) (k c1 c2 : Nat) (ps : List (List Nat)) (hk : ps.length = k) (hkl : k ≤ 1099511627776) (h1 : Pts w p1 ps) (h2 : Pts w p2 ps) :
    Calls Tryz.prog 38 #[.slice p1 k c1, .slice p2 k c2] w fun e w' => e = .returned (.bool true) ∧ ∃ q, w' = w.drewN q := by
  have HA := hide h1
  have HB := hide h2
  have HK := hide hk
  clear h1 h2 hk
  go_enter Tryz.func38, Tryz.ntmps38
  go_wp2
  go_loopw [5] (fun i wr => ∃ j q : Nat, j ≤ k ∧ i = .int .i64 j ∧ Hid (wr = w.drewN q)) (fun i _ => k - (intOf i).toNat)
  case atStart => exact ⟨0, 0, Nat.zero_le _, rfl, rfl⟩
  case round =>
    obtain ⟨j, q, hj, rfl, HW⟩ := hrel
    by_cases hlt : j < k
    · obtain ⟨p, hp⟩ : ∃ p, ps[j]? = some p := ⟨_, List.getElem?_eq_getElem (by rw [HK.out]; exact hlt)⟩
      have hA : Pts wr p1 ps := by rw [HW.out]; exact HA.out.drewN q
      have hB : Pts wr p2 ps := by rw [HW.out]; exact HB.out.drewN q
      obtain ⟨g1, o1, a1, d1, rfl, l1, x1, b1⟩ := hA.at hp
      obtain ⟨g2, o2, a2, d2, rfl, l2, x2, b2⟩ := hB.at hp
      have hsm := HA.out.small p (List.mem_of_getElem? hp)
      have HQ := hide (fun q => eq_same (wr.drewN q) a1 a2 p.length d1 d2 p rfl (by omega) (b1.drewN q) (b2.drewN q))
      have i1 : (0 : Int) ≤ (j : Int) := by omega
      have i2 : (j : Int) < (k : Int) := by omega
      clear hp hA hB b1 b2 hsm
      generalize p.length = pl at *
      go_wp2
      go_quiet (first | (go_at_call 10; exact Calls.quiet_of (HQ.out _)))
      go_wp2
      go_roundw
      case rel => exact ⟨j + 1, q + nq, by omega, by go_num, by show _ = _; rw [HW.out, World.drewN_drewN]⟩
      case measure => simp [intOf]; omega
    · obtain rfl : j = k := by omega
      go_wp2
      go_ret
      exact ⟨rfl, q, HW.out⟩

/-! Transactions -/
structure Trs (w : World) (tp : Option Addr) (ts : List (List (List Nat))) : Prop where
  few : ∀ ps ∈ ts, ps.length ≤ 1099511627776
  lie : ts = [] ∨ ∃ g o, tp = some ⟨g, o, none⟩ ∧ g < w.heap.size ∧ ∀ (j : Nat) (ps : List (List Nat)), ts[j]? = some ps → ∃ (pp : Option Addr) (cp : Nat), w.cell? ⟨g, o + j, none⟩ = some (.slice pp ps.length cp) ∧ Pts w pp ps
theorem Trs.below {w w' : World} {tp : Option Addr} {ts : List (List (List Nat))} (h : Trs w tp ts) (hb : Below w.heap.size w w') : Trs w' tp ts := by
  refine ⟨h.few, h.lie.imp id ?_⟩
  rintro ⟨g, o, e, hg, hc⟩
  refine ⟨g, o, e, Nat.lt_of_lt_of_le hg hb.size, fun j ps hp => ?_⟩
  obtain ⟨pp, cp, c0, c1⟩ := hc j ps hp
  exact ⟨pp, cp, (hb.cell (p := ⟨g, o + j, none⟩) hg).trans c0, c1.below hb⟩
theorem Trs.drewN {w : World} {tp : Option Addr} {ts : List (List (List Nat))} (h : Trs w tp ts) (q : Nat) : Trs (w.drewN q) tp ts := h.below (below_drewN (Below.refl _ w) q)
theorem Trs.at {w : World} {tp : Option Addr} {ts : List (List (List Nat))} (h : Trs w tp ts) {j : Nat} {ps : List (List Nat)} (hp : ts[j]? = some ps) : ∃ g o pp cp, tp = some ⟨g, o, none⟩ ∧ g < w.heap.size ∧ w.cell? ⟨g, o + j, none⟩ = some (.slice pp ps.length cp) ∧ Pts w pp ps := by
  rcases h.lie with h0 | ⟨g, o, e, hg, hc⟩
  · subst h0; simp at hp
  · obtain ⟨pp, cp, c0, c1⟩ := hc j ps hp
    exact ⟨g, o, pp, cp, e, hg, c0, c1⟩

set_option maxRecDepth 100000 in
set_option maxHeartbeats 400000 in
theorem trans_same (w : World) (p1 p2 : Option Addr) (k c1 c2 : Nat) (ts : List (List (List Nat))) (hk : ts.length = k) (hkl : k ≤ 1099511627776) (h1 : Trs w p1 ts) (h2 : Trs w p2 ts) :
    Calls Tryz.prog 13 #[.slice p1 k c1, .slice p2 k c2] w fun e w' => e = .returned (.bool true) ∧ ∃ q, w' = w.drewN q := by
  have HA := hide h1
  have HB := hide h2
  have HK := hide hk
  clear h1 h2 hk
  go_enter Tryz.func13, Tryz.ntmps13
  go_wp2
  go_loopw [5] (fun i wr => ∃ j q : Nat, j ≤ k ∧ i = .int .i64 j ∧ Hid (wr = w.drewN q)) (fun i _ => k - (intOf i).toNat)
  case atStart => exact ⟨0, 0, Nat.zero_le _, rfl, rfl⟩
  case round =>
    obtain ⟨j, q, hj, rfl, HW⟩ := hrel
    by_cases hlt : j < k
    · obtain ⟨p, hp⟩ : ∃ p, ts[j]? = some p := ⟨_, List.getElem?_eq_getElem (by rw [HK.out]; exact hlt)⟩
      have hA : Trs wr p1 ts := by rw [HW.out]; exact HA.out.drewN q
      have hB : Trs wr p2 ts := by rw [HW.out]; exact HB.out.drewN q
      obtain ⟨g1, o1, a1, d1, rfl, l1, x1, b1⟩ := hA.at hp
      obtain ⟨g2, o2, a2, d2, rfl, l2, x2, b2⟩ := hB.at hp
      have hsm := HA.out.few p (List.mem_of_getElem? hp)
      have HQ := hide (fun q => eqLists_same (wr.drewN q) a1 a2 p.length d1 d2 p rfl hsm (b1.drewN q) (b2.drewN q))
      have i1 : (0 : Int) ≤ (j : Int) := by omega
      have i2 : (j : Int) < (k : Int) := by omega
      clear hp hA hB b1 b2 hsm
      generalize p.length = pl at *
      go_wp2
      go_quiet (first | (go_at_call 38; exact Calls.quiet_of (HQ.out _)))
      go_wp2
      go_roundw
      case rel => exact ⟨j + 1, q + nq, by omega, by go_num, by show _ = _; rw [HW.out, World.drewN_drewN]⟩
      case measure => simp [intOf]; omega
    · obtain rfl : j = k := by omega
      go_wp2
      go_ret
      exact ⟨rfl, q, HW.out⟩

end Go.Proofs.YtfdclebajninfaaGreatDoor
namespace Go.Proofs.YtfdclebajninfaaGreatDoor
open Go.RowKit

theorem Tryz.infoRr : (Tryz.prog.info? 56).map (fun i => (i.zero, i.size, i.bytes)) = some (some (.slice none 0 0), 1, 24) := by kernel_rfl

/-- The parts that a record tells. -/
def partsOf (r : List Nat) : List (List Nat) := match readR r with
  | some (_, ps) => ps
  | none => []
def allOf (recs : List (List Nat)) : List (List (List Nat)) := recs.map partsOf
theorem got_len (xs : List Nat) (a : Nat) (x : C.It × Nat × Nat) : (C.got xs a x).length ≤ xs.length := by
  unfold C.got
  simp only [List.length_take, List.length_drop]
  omega
theorem readR_parts {xs : List Nat} {num : Nat} {ps : List (List Nat)} (h : readR xs = some (num, ps)) : ps.length ≤ 4096 ∧ ∀ p ∈ ps, p.length ≤ xs.length := by
  unfold readR at h
  split at h
  · cases h
  · unfold readB at h
    split at h
    · cases h
    · rename_i hn
      split at h
      · cases h
      · simp only [Option.some.injEq, Prod.mk.injEq] at h
        rw [← h.2]
        refine ⟨by rw [bParts_len]; omega, fun p hp => ?_⟩
        simp only [bParts, List.mem_map] at hp
        obtain ⟨j, _, rfl⟩ := hp
        have := got_len (bodyOf xs) (rA (bodyOf xs) (bCnt (bodyOf xs)).2.1 (bCnt (bodyOf xs)).2.2 j).1 (C.rText 4194291 (bodyOf xs) (rA (bodyOf xs) (bCnt (bodyOf xs)).2.1 (bCnt (bodyOf xs)).2.2 j).1 (rA (bodyOf xs) (bCnt (bodyOf xs)).2.1 (bCnt (bodyOf xs)).2.2 j).2)
        have h2 : (bodyOf xs).length ≤ xs.length := by unfold bodyOf; simp only [List.length_take, List.length_drop]; omega
        unfold rP
        omega
theorem partsOf_small (r : List Nat) : (partsOf r).length ≤ 4096 ∧ ∀ p ∈ partsOf r, p.length ≤ r.length := by
  unfold partsOf
  cases h : readR r with
  | none => simp
  | some v => obtain ⟨num, ps⟩ := v; exact readR_parts h

/-- All blocks but those of rows of rows of rows stay. -/
def Ukk (w w' : World) : Prop := ∀ (g : Nat) (D : Array Value) (t : TypeId) (fr : Nat × Nat), w.heap[g]? = some (.cells D t fr) → t ≠ 56 → w'.heap[g]? = w.heap[g]?
theorem Ukk.trans {a b c : World} (h : Ukk a b) (k : Ukk b c) : Ukk a c := fun g D t fr e ht => (k g D t fr ((h g D t fr e ht).trans e) ht).trans (h g D t fr e ht)
theorem ukk_below {w w' : World} (h : Below w.heap.size w w') : Ukk w w' := fun g _ _ _ e _ => h.block g (lt_of_block e)
theorem ukk_grown {w w' : World} {v : Value} {B n s : Nat} {xs : List Value} (h : w.grownBy w' v.ownBlock) (ho : w.ownsRow B 56 s v n xs) : Ukk w w' := fun g _ _ _ e ht => h.block g (lt_of_block e) (owns_ne ho e ht)
theorem Prow.kept {B : Nat} {w w' : World} {a : Option Addr} {j c : Nat} {ps : List (List Nat)} (h : Prow B w a j c ps) (hk : Ukk w w') : Prow B w' a j c ps := by
  obtain ⟨vs, h1, h2⟩ := h.row
  refine ⟨h.len, vs, ⟨h1.1, h1.2.imp id ?_⟩, fun i p hp => ?_⟩
  · rintro ⟨g, cap, cur, e1, e2, e3, r⟩
    exact ⟨g, cap, cur, e1, e2, (hk g _ _ _ e3 (by decide)).trans e3, r⟩
  · obtain ⟨sp, q1, q2, q3⟩ := h2 i p hp
    exact ⟨sp, q1, mine_kept q2 (fun g D fr e => hk g D _ fr e (by decide)), q3⟩
theorem prow_nil (B : Nat) (w : World) : Prow B w none 0 0 [] := ⟨rfl, [], ⟨rfl, Or.inl ⟨rfl, rfl⟩⟩, fun i p hp => by simp at hp⟩
structure Tro (B : Nat) (w : World) (a : Option Addr) (k c : Nat) (ts : List (List (List Nat))) : Prop where
  len : ts.length = k
  row : ∃ tvs : List Value, w.ownsRow B 56 1 (Value.slice a k c) k tvs ∧ ∀ (i : Nat) (ps : List (List Nat)), ts[i]? = some ps → ∃ (pp : Option Addr) (cp : Nat), tvs[i]? = some (Value.slice pp ps.length cp) ∧ Prow B w pp ps.length cp ps
theorem Tro.trs {B : Nat} {w : World} {a : Option Addr} {k c : Nat} {ts : List (List (List Nat))} (h : Tro B w a k c ts) (hs : ∀ ps ∈ ts, ps.length ≤ 4096 ∧ ∀ p ∈ ps, p.length ≤ 140737488351232) : Trs w a ts := by
  obtain ⟨vs, h1, h2⟩ := h.row
  refine ⟨fun ps hp => by have := (hs ps hp).1; omega, ?_⟩
  rcases h1.2 with ⟨_, e2⟩ | ⟨g, cap, cur, e1, _, hg, e3, e4, e5, e6⟩
  · left; exact List.eq_nil_of_length_eq_zero (by rw [h.len]; exact e2)
  · cases e1
    right
    refine ⟨g, 0, rfl, lt_of_block hg, fun i ps hp => ?_⟩
    obtain ⟨pp, cp, hv, hm⟩ := h2 i ps hp
    refine ⟨pp, cp, ?_, hm.pts (hs ps (List.mem_of_getElem? hp)).2⟩
    have hi : i < k := by rw [← h.len]; exact (List.getElem?_eq_some_iff.1 hp).1
    rw [← e6, List.getElem?_take, if_pos (by omega)] at hv
    simp only [World.cell?, hg, Nat.zero_add]
    simpa using hv

set_option maxRecDepth 100000 in
set_option maxHeartbeats 1000000 in
theorem All_any (w : World) (K : Knd) (o d jb : Nat) (J : Jr) (h : Jk w K o d jb J) (hs : ∀ r ∈ J.recs, 25 ≤ r.length ∧ r.length ≤ 4194304) (hk : J.recs.length ≤ 1099511627776) (hT : C.Tab w) :
    Calls Tryz.prog 14 #[.pointer (some ⟨jb, 0, none⟩)] w fun e w' => ∃ a c, e = .returned (.slice a J.recs.length c) ∧ Tro w.heap.size w' a J.recs.length c (allOf J.recs) ∧ Below w.heap.size w w' := by
  obtain ⟨rv, vs, hm⟩ := h
  have hb := hm.blk
  unfold jcells at hb
  obtain ⟨ra, rc, hrv, _, _⟩ := hm.row.form
  subst hrv
  obtain ⟨k, hkk⟩ : ∃ k, J.recs.length = k := ⟨_, rfl⟩
  rw [hkk] at hb hk ⊢
  have HK := hide hkk
  have HM := hide hm
  have HT := hide hT
  have HS := hide hs
  obtain ⟨q0, q1, q2, q3, q4, q5, q6, qf⟩ := blk7 hb
  have hjl := lt_of_block hb
  have HB := hide hb
  clear hm hb hT hs hkk
  obtain ⟨i0, hi, hz0, hz1, hz2⟩ := info_parts Tryz.infoRr
  obtain ⟨w1, hmk, hown1, hgr1⟩ := run_make_own (P := Tryz.prog) w w.heap.size 41 56 i0 (.slice none 0 0) 1 Tryz.underlying41 hi hz0 hz1 .i64 .i64 k (by rw [hz2]; omega) (by unfold maxLen; omega) (Nat.le_refl _)
  have hb1 : Below w.heap.size w w1 := (Below.refl _ _).grown hgr1 (Nat.le_refl _) (fun k e => by cases e)
  have hj1 : w1.heap[jb]? = _ := (hb1.block _ hjl).trans HB.out
  obtain ⟨y0, y1, y2, y3, y4, y5, y6, yf⟩ := blk7 hj1
  have HT1 : Hid (Tro w.heap.size w1 (some ⟨w.heap.size, 0, none⟩) 0 k (allOf (J.recs.take 0))) := ⟨rfl, [], hown1, fun i p hp => by simp [allOf] at hp⟩
  have HB1 := hide hb1
  clear hown1 hgr1 hb1 hj1
  go_enter Tryz.func14, Tryz.ntmps14
  go_wp2
  clear hmk y0 y1 y2 y3 y4 y5 y6 yf q0 q1 q2 q3 q4 q5 q6 qf
  go_loopw [3, 19] (fun l i wr => ∃ (j : Nat) (a : Option Addr) (c : Nat), j ≤ k ∧ i = .int .i64 j ∧ l = .slice a j c ∧ Hid (Tro w.heap.size wr a j c (allOf (J.recs.take j))) ∧ Hid (Below w.heap.size w wr)) (fun _ i _ => k - (intOf i).toNat)
  case atStart => exact ⟨0, _, k, Nat.zero_le _, rfl, rfl, HT1, HB1⟩
  case round =>
    obtain ⟨j, a, c, hj, rfl, rfl, HR, HBr⟩ := hrel
    clear HT1 HB1
    by_cases hlt : j < k
    · have i1 : (0 : Int) ≤ (j : Int) := by omega
      have i2 : (j : Int) < (k : Int) := by omega
      obtain ⟨r, hr⟩ : ∃ r, J.recs[j]? = some r := ⟨_, List.getElem?_eq_getElem (by rw [HK.out]; exact hlt)⟩
      have HTk := hide (take_snoc' J.recs j r hr)
      have hsz := HS.out r (List.mem_of_getElem? hr)
      obtain ⟨g, q, rc2, u1, u2, u3, u4, u5, u6⟩ := HM.out.recs j r hr
      obtain ⟨rg, e1, c0⟩ : ∃ rg, ra = some ⟨rg, 0, none⟩ ∧ wr.cell? ⟨rg, j, none⟩ = some (.slice (some ⟨g, q, none⟩) r.length rc2) := by
        have hro := HM.out.row.own
        rw [HK.out] at hro
        rcases hro.2 with ⟨_, e2⟩ | ⟨g', cap, cur, e1, _, hg, e3, e4, e5, e6⟩
        · omega
        · cases e1
          refine ⟨g', rfl, ?_⟩
          rw [HBr.out.cell (p := ⟨g', j, none⟩) (lt_of_block hg)]
          rw [← e6, List.getElem?_take, if_pos (by omega)] at u1
          simp only [World.cell?, hg]
          simpa using u1
      subst e1
      have HRd := hide (readRecord_any wr (some ⟨g, q, none⟩) r.length rc2 r rfl hsz.1 hsz.2 u2 u3 (u6.below HBr.out) (HT.out.below HBr.out HT.out.pos))
      have HPo : Hid ((∃ num ps, readR r = some (num, ps) ∧ partsOf r = ps) ∨ (readR r = none ∧ partsOf r = [])) := by
        show _ ∨ _
        unfold partsOf
        cases readR r with
        | none => exact Or.inr ⟨rfl, rfl⟩
        | some v => obtain ⟨n1, p1⟩ := v; exact Or.inl ⟨n1, p1, rfl, rfl⟩
      have HAl : Hid (allOf (J.recs.take (j + 1)) = allOf (J.recs.take j) ++ [partsOf r]) := by show _ = _; rw [HTk.out]; simp [allOf]
      obtain ⟨rl, hrl⟩ : ∃ rl, r.length = rl := ⟨_, rfl⟩
      rw [hrl] at c0 HRd
      clear hr u1 u4 u6 hrl hsz
      go_wp2_with fail
      refine HRd.out.mono ?_
      rintro e w2 hcase
      obtain ⟨num, ok, pp, pk, pc, rfl, hpk, hp2, hb2⟩ : ∃ (num : Nat) (ok : Bool) (pp : Option Addr) (pk pc : Nat), e = .returned (.tuple #[.agg #[.int .u64 (num : Int), .slice pp pk pc], .bool ok]) ∧ pk = (partsOf r).length ∧ Prow wr.heap.size w2 pp pk pc (partsOf r) ∧ Below wr.heap.size wr w2 := by
        rcases hcase with ⟨num, ps, he, pp, pc, rfl, hp, hb⟩ | ⟨he, rfl, hb⟩
        · rcases HPo.out with ⟨n1, p1, e1, e2⟩ | ⟨e1, _⟩
          · rw [e1] at he
            cases he
            exact ⟨num, true, pp, ps.length, pc, rfl, by rw [e2], by rw [e2]; exact hp, hb⟩
          · rw [e1] at he; cases he
        · rcases HPo.out with ⟨n1, p1, e1, e2⟩ | ⟨e1, e2⟩
          · rw [e1] at he; cases he
          · exact ⟨0, false, none, 0, 0, rfl, by rw [e2]; rfl, by rw [e2]; exact prow_nil _ _, hb⟩
      have hpk4 : pk ≤ 4096 := by rw [hpk]; exact (partsOf_small r).1
      have HPk := hide hpk
      have HP2 := hide hp2
      have HB2 := hide hb2
      obtain ⟨tvs, hv1, hv2⟩ := HR.out.row
      have hv3 : w2.ownsRow w.heap.size 56 1 (.slice a j c) j tvs := owns_same hv1 (fun g hg => hb2.block g (rk_lt hv1 hg))
      have HV1 := hide hv1
      have HV2 := hide hv2
      have hX3 : (w2.alloc (.cells #[.int .u64 (num : Int), .slice pp pk pc] 99)).heap[w2.heap.size]? = some (.cells #[.int .u64 (num : Int), .slice pp pk pc] 99 (0, 0)) := heap_alloc_new _ _
      have hb3 : Below wr.heap.size wr (w2.alloc (.cells #[.int .u64 (num : Int), .slice pp pk pc] 99)) := hb2.alloc hb2.size _
      have hv4 : (w2.alloc (.cells #[.int .u64 (num : Int), .slice pp pk pc] 99)).ownsRow w.heap.size 56 1 (.slice a j c) j tvs := hv3.alloc _
      have hu3 : Ukk w2 (w2.alloc (.cells #[.int .u64 (num : Int), .slice pp pk pc] 99)) := ukk_below ((Below.refl _ _).alloc (Nat.le_refl _) _)
      have hsl3 : w.heap.size ≤ ((w2.alloc (.cells #[.int .u64 (num : Int), .slice pp pk pc] 99)).alloc (.cells #[.slice pp pk pc] 56)).heap.size := by
        have h1 := hb3.size
        have h2 := HBr.out.size
        rw [World.size_alloc]
        omega
      have HV4 := hide hv4
      have HB3 := hide hb3
      have HU3 := hide hu3
      have HX3 := hide hX3
      clear hpk hp2 hb2 hv1 hv2 hv3 hv4 hX3 hb3 hu3 hcase HRd
      go_wp2_with (at_builtin; refine wpList_append_lies _ rfl (.tmp 28) (.tmp 31) 41 rfl w.heap.size 56 i0 (.slice none 0 0) 1 24 Tryz.underlying41 hi hz0 hz1 hz2 rfl (by omega) (.slice a j c) j tvs rfl (HV4.out.alloc _) ⟨w2.heap.size + 1, 0, none⟩ 1 1 [.slice pp pk pc] rfl rfl (World.news_of_block (heap_alloc2_new w2 (.cells #[.int .u64 (num : Int), .slice pp pk pc] 99) (.cells #[.slice pp pk pc] 56))) (by simp [Value.oneCell']) (by omega) (by unfold maxLen; omega) (by omega) hsl3 _ rfl ?_; intro g' cap' w5 hown5 hgrow5 hat5 hltg)
      have HB5 : Hid (Below w.heap.size w w5) := by
        have h1 : Below w.heap.size w (w2.alloc (.cells #[.int .u64 (num : Int), .slice pp pk pc] 99)) := HBr.out.trans (HB3.out.mono HBr.out.size)
        exact (h1.alloc (Nat.le_trans HBr.out.size HB3.out.size) _).grown hgrow5 hsl3 (fun g2 e2 => by
          rcases HV4.out.2 with ⟨e3, _⟩ | ⟨g3, _, _, e3, e4, _⟩
          · rw [e3] at e2; simp [Value.ownBlock] at e2
          · rw [e3] at e2; simp [Value.ownBlock] at e2; omega)
      have HUa : Hid (Ukk w2 w5) := HU3.out.trans ((ukk_below ((Below.refl _ _).alloc (Nat.le_refl _) _)).trans (ukk_grown hgrow5 (HV4.out.alloc _)))
      have HR5 : Hid (Tro w.heap.size w5 (some ⟨g', 0, none⟩) (j + 1) cap' (allOf (J.recs.take (j + 1)))) := by
        have hvl : tvs.length = j := by have := HV1.out.1; omega
        have hal : (allOf (J.recs.take j)).length = j := by simp [allOf, HK.out]; omega
        refine ⟨by rw [HAl.out, List.length_append, hal]; rfl, tvs ++ [.slice pp pk pc], hown5, fun i ps hp => ?_⟩
        rw [HAl.out] at hp
        by_cases hi2 : i < j
        · rw [List.getElem?_append_left (by rw [hal]; exact hi2)] at hp
          obtain ⟨p2, c2, u1, u2⟩ := HV2.out i ps hp
          exact ⟨p2, c2, by rw [List.getElem?_append_left (by omega)]; exact u1, u2.kept ((ukk_below HB2.out).trans HUa.out)⟩
        · have hij : i = j := by
            have := (List.getElem?_eq_some_iff.1 hp).1
            rw [List.length_append, hal] at this
            simp at this; omega
          subst hij
          rw [List.getElem?_append_right (by rw [hal]; exact Nat.le_refl _), hal, Nat.sub_self] at hp
          simp at hp
          subst hp
          exact ⟨pp, pc, by rw [List.getElem?_append_right (by omega), hvl, Nat.sub_self, HPk.out]; rfl, by
            have := (HP2.out.mono HBr.out.size).kept HUa.out
            rw [HPk.out] at this
            exact this⟩
      clear hown5 hgrow5 hat5
      go_wp2
      go_roundw
      case rel => exact ⟨j + 1, _, cap', by omega, by go_num, rfl, HR5, HB5⟩
      case measure => simp [intOf]; omega
    · obtain rfl : j = k := by omega
      have HRe : Hid (Tro w.heap.size wr a j c (allOf J.recs)) := by
        have := HR.out
        rwa [List.take_of_length_le (by rw [HK.out]; exact Nat.le_refl _)] at this
      go_wp2
      go_ret
      exact ⟨a, c, rfl, HRe.out, HBr.out⟩

end Go.Proofs.YtfdclebajninfaaGreatDoor
namespace Go.Proofs.YtfdclebajninfaaGreatDoor
open Go.RowKit Go.Maps

def newE : Nm := [46, 110, 101, 119]
theorem zero_disk : (#[.int .i64 0, .map none, .map none, .slice none 0 0, .int .i64 0, .int .i64 0, .int .i64 0, .int .i64 0, .int .i64 0, .bool false] : Array Value) = dcells (St.new 0) (.map none) (.map none) (.slice none 0 0) := rfl

set_option maxRecDepth 100000 in
set_option maxHeartbeats 400000 in
theorem jname_any (w : World) (x : Nm) (hx : x.length ≤ 140737488355328) :
    Calls Tryz.prog 31 #[.string ⟨x.toArray⟩] w fun e w' => e = .returned (.bool (isNm x)) ∧ Below w.heap.size w w' := by
  have hd := new_dk w (fun _ => (0, 0)) 9 0
  rw [← zero_disk] at hd
  have HS := hide (Size_any _ _ 9 w.heap.size (St.new 0) hd (new_inv (by omega)) x hx)
  have hb : Below w.heap.size w (w.alloc (.cells #[.int .i64 0, .map none, .map none, .slice none 0 0, .int .i64 0, .int .i64 0, .int .i64 0, .int .i64 0, .int .i64 0, .bool false] 92)) := (Below.refl _ _).alloc (Nat.le_refl _) _
  have HB := hide hb
  have he : (St.new 0).err x = if isNm x then 42 else 41 := by unfold St.err; simp [St.new, lookN]
  have HBy : Hid ((St.new 0).bytes x = []) := by
    show _ = _
    unfold St.bytes
    rw [he]
    cases isNm x <;> rfl
  rw [HBy.out, he] at HS
  clear hd he hb
  cases hn : isNm x with
  | false =>
    rw [hn] at HS
    go_enter Tryz.func31, Tryz.ntmps31
    go_wp2_with fail
    refine HS.out.mono ?_
    rintro e w1 ⟨rfl, rfl⟩
    go_wp2
    go_ret
    exact ⟨rfl, HB.out⟩
  | true =>
    rw [hn] at HS
    go_enter Tryz.func31, Tryz.ntmps31
    go_wp2_with fail
    refine HS.out.mono ?_
    rintro e w1 ⟨rfl, rfl⟩
    go_wp2
    go_ret
    exact ⟨rfl, HB.out⟩

/-- What Open finds. -/
def St.found (S : St) (x : Nm) : List (List Nat) × Nat × Bool × Nat := goB ((S.bytes x).length + 1) (S.bytes x) [] 0
def jnew (x : Nm) (R : List (List Nat) × Nat × Bool × Nat) : Jr := ⟨x, R.1, R.2.1, R.2.2.1, false, false⟩
theorem str_add (x : Nm) : (⟨x.toArray⟩ : ByteArray) ++ (⟨#[46, 110, 101, 119]⟩ : ByteArray) = ⟨(x ++ newE).toArray⟩ := by
  apply ByteArray.ext
  rw [ByteArray.data_append]
  simp [newE]
theorem bytes_le {S : St} (hv : Inv S) (x : Nm) : (S.bytes x).length ≤ 16777216 := by
  unfold St.bytes
  split
  · rename_i he
    obtain ⟨_, _, i, hi⟩ := err_zero he
    rw [hi]
    exact S.file_le hv hi
  · simp
theorem bytes_small {S : St} (hv : Inv S) {k : Nat} (hz : Sz S k) (x : Nm) : ∀ y ∈ S.bytes x, y < 256 := by
  unfold St.bytes
  split
  · rename_i he
    obtain ⟨_, _, i, hi⟩ := err_zero he
    rw [hi]
    exact (hz.file (St.seen_file hv hi)).1.allSmall
  · intro y hy; cases hy

set_option maxRecDepth 100000 in
set_option maxHeartbeats 1000000 in
theorem Open_any (w : World) (K : Knd) (od o d : Nat) (ho : o ≠ 0) (_hod : o ≠ od) (S : St) (h : Dk w K od d S) (hv : Inv S) (k : Nat) (hz : Sz S k) (hk : k ≤ 549755813888) (hoff : S.off = false) (x : Nm) (hx1 : isNm x = true) (hx2 : isNm (x ++ newE) = true) (hT : C.Tab w) (hK0 : K 0 = (0, 0)) :
    Calls Tryz.prog 8 #[.pointer (some ⟨d, 0, none⟩), .string ⟨x.toArray⟩] w fun e w' => ∃ K', Kp (Ow o) K K' w w' ∧
      (((S.found x).2.2.2 = 0 ∧ ∃ jb, e = .returned (.tuple #[.pointer (some ⟨jb, 0, none⟩), .int .i64 0]) ∧ Jk w' K' o d jb (jnew x (S.found x))) ∨
       ((S.found x).2.2.2 ≠ 0 ∧ e = .returned (.tuple #[.pointer none, .int .i64 ((S.found x).2.2.2 : Int)]))) := by
  have HD := hide h
  have HV := hide hv
  have HZ := hide hz
  have HT := hide hT
  have HK0 := hide hK0
  have hxl : x.length ≤ 64 := (nm_len hx1).2
  have HN1 := hide (jname_any w x (by omega))
  rw [hx1] at HN1
  have hsz : (⟨x.toArray⟩ : ByteArray).size ≤ 64 := by simpa [ByteArray.size] using hxl
  have hsa := str_add x
  have HN2 := hide (fun w' => jname_any w' (x ++ newE) (by rw [List.length_append]; simp [newE]; omega))
  rw [hx2] at HN2
  have HRd := hide (fun w' K' hd' => Read_any w' K' od d S hd' HV.out k HZ.out hk x (by omega))
  have HEr : Hid (S.err x = 0 ∨ (S.err x = 42 ∧ S.bytes x = [])) := by
    show _ ∨ _
    unfold St.bytes St.err
    rw [hoff, hx1]
    simp only [Bool.false_eq_true, if_false, if_true]
    split
    · right; exact ⟨rfl, by simp⟩
    · left; rfl
  generalize hs1 : (⟨x.toArray⟩ : ByteArray) = s1 at *
  generalize hs2 : (⟨(x ++ newE).toArray⟩ : ByteArray) = s2 at *
  have HS1 := hide hs1
  clear hs1 hs2 h hv hz hT hK0 hx1 hx2
  obtain ⟨R, hR⟩ : ∃ R, S.found x = R := ⟨_, rfl⟩
  rw [hR]
  have HRf := hide hR
  clear hR
  go_enter Tryz.func8, Tryz.ntmps8
  go_wp2_with fail
  refine HN1.out.mono ?_
  rintro e w1 ⟨rfl, hb1⟩
  go_wp2_with fail
  refine (HN2.out _).mono ?_
  rintro e w2 ⟨rfl, hb2⟩
  have hbw2 : Below w.heap.size w w2 := hb1.trans (hb2.mono hb1.size)
  have hjb : (w2.alloc (.cells #[.pointer (some ⟨d, 0, none⟩), .string s1, .slice none 0 0, .int .u64 0, .bool false, .bool false, .bool false] 78)).heap[w2.heap.size]? = some (.cells #[.pointer (some ⟨d, 0, none⟩), .string s1, .slice none 0 0, .int .u64 0, .bool false, .bool false, .bool false] 78 (0, 0)) := heap_alloc_new _ _
  have hb3 : Below w.heap.size w (w2.alloc (.cells #[.pointer (some ⟨d, 0, none⟩), .string s1, .slice none 0 0, .int .u64 0, .bool false, .bool false, .bool false] 78)) := hbw2.alloc hbw2.size _
  have hszb := hbw2.size
  generalize hw3 : w2.alloc (.cells #[.pointer (some ⟨d, 0, none⟩), .string s1, .slice none 0 0, .int .u64 0, .bool false, .bool false, .bool false] 78) = w3 at *
  obtain ⟨jb, hjbe⟩ : ∃ jb, w2.heap.size = jb := ⟨_, rfl⟩
  rw [hjbe] at hjb hszb
  have kp3 : ∀ p, Kp p K (newK (ext K w.heap.size (0, 0)) jb (o, 1)) w w3 := fun p => ⟨hb3.os, hb3.tape, hb3.output, hb3.size, fun c hc => by unfold newK; rw [if_neg (by omega)]; exact ext_old K _ hc, fun c hc _ => hb3.block c hc⟩
  have HJ3 : Hid (Jk w3 (newK (ext K w.heap.size (0, 0)) jb (o, 1)) o d jb (jnew x ([], 0, false, 0))) :=
    ⟨.slice none 0 0, [], ⟨by rw [hjb, ← HS1.out]; rfl, by simp [newK], rk_nil _ _ _ _ _, fun i r hr => by simp [jnew] at hr⟩⟩
  have HK3 := hide (kp3 (Ow o))
  have HD3 := hide (HD.out.kept (kp3 (fun _ => False)) (fun _ h => h))
  have HT3 := hide (HT.out.below hb3 HT.out.pos)
  have HZ3 : Hid (newK (ext K w.heap.size (0, 0)) jb (o, 1) 0 = (0, 0)) := ((kp3 (Ow o)).same 0 HT.out.pos).trans HK0.out
  generalize newK (ext K w.heap.size (0, 0)) jb (o, 1) = K3 at *
  have HFi := hide (files_any w3 K3 o d jb _ HJ3.out)
  clear hb1 hb2 hbw2 hb3 kp3 hjb hszb HN1 HN2
  go_wp2_with fail
  clear hw3 hjbe
  refine HFi.out.mono ?_
  rintro e w3' ⟨rfl, rfl⟩
  go_wp2_with fail
  refine (HRd.out _ K3 HD3.out).mono ?_
  rintro e w4 ⟨a, c, rfl, hr4, hb4⟩
  obtain ⟨_, _, hqe, hqc, hqm⟩ := owns_form hr4
  cases hqe
  unfold maxLen at hqm
  have hbl := bytes_le HV.out x
  have hJ4 := HJ3.out.kept (kp_below hb4 (fun _ => False) K3 (o, 3)) (fun _ h => h)
  have HK4 := hide (HK3.out.trans (kp_below hb4 (Ow o) K3 (o, 3)))
  have hY4 := owns_bytes hr4 (bytes_small HV.out HZ.out x)
  have hsp : 0 < (S.bytes x).length → ∃ g q, a = some ⟨g, q, none⟩ ∧ ext K3 w3'.heap.size (o, 3) g = (o, 3) := fun h0 => by
    rcases hr4.2 with ⟨_, e2⟩ | ⟨g, cap, cur, e1, e2, _⟩
    · omega
    · cases e1
      exact ⟨g, 0, rfl, ext_new _ _ e2⟩
  have hT4 := HT3.out.below hb4 HT3.out.pos
  have hz4 : ext K3 w3'.heap.size (o, 3) 0 = (0, 0) := (ext_old K3 _ HT3.out.pos).trans HZ3.out
  have HGo := hide (goThrough_any w4 _ o d jb ho _ hJ4 rfl rfl rfl a (S.bytes x).length c (S.bytes x) rfl hqc (by omega) (by omega) hY4 hsp hT4 hz4)
  rw [show goB ((S.bytes x).length + 1) (S.bytes x) [] 0 = S.found x from rfl] at HGo
  have hwent : ∀ R : List (List Nat) × Nat × Bool × Nat, (jnew x ([], 0, false, 0)).went R = jnew x R := fun R => rfl
  rw [hwent] at HGo
  rw [HRf.out] at HGo
  obtain ⟨bl, hble⟩ : ∃ bl, (S.bytes x).length = bl := ⟨_, rfl⟩
  rw [hble] at HGo ⊢
  obtain ⟨er, her⟩ : ∃ er, S.err x = er := ⟨_, rfl⟩
  have her2 : er = 0 ∨ er = 42 := by rw [← her]; rcases HEr.out with h | ⟨h, _⟩ <;> simp [h]
  rw [her]
  clear hr4 hb4 hJ4 hY4 hsp hT4 hz4 hwent hble her HRd HFi hbl hqc hqm
  rcases her2 with rfl | rfl
  · skip
    go_wp2_with fail
    refine HGo.out.mono ?_
    rintro e w5 ⟨K5, rfl, hj5, hk5⟩
    have HJ5 := hide hj5
    have HK5 := hide (HK4.out.trans hk5)
    clear hj5 hk5
    by_cases hE : R.2.2.2 = 0
    · have hE' : ((R.2.2.2 : Nat) : Int) = 0 := by omega
      go_wp2
      go_ret2
      exact ⟨K5, HK5.out, Or.inl ⟨hE, _, rfl, HJ5.out⟩⟩
    · have hE' : ¬ ((R.2.2.2 : Nat) : Int) = 0 := by omega
      go_wp2
      go_ret2
      exact ⟨K5, HK5.out, Or.inr ⟨hE, rfl⟩⟩
  · skip
    go_wp2_with fail
    refine HGo.out.mono ?_
    rintro e w5 ⟨K5, rfl, hj5, hk5⟩
    have HJ5 := hide hj5
    have HK5 := hide (HK4.out.trans hk5)
    clear hj5 hk5
    by_cases hE : R.2.2.2 = 0
    · have hE' : ((R.2.2.2 : Nat) : Int) = 0 := by omega
      go_wp2
      go_ret2
      exact ⟨K5, HK5.out, Or.inl ⟨hE, _, rfl, HJ5.out⟩⟩
    · have hE' : ¬ ((R.2.2.2 : Nat) : Int) = 0 := by omega
      go_wp2
      go_ret2
      exact ⟨K5, HK5.out, Or.inr ⟨hE, rfl⟩⟩

end Go.Proofs.YtfdclebajninfaaGreatDoor
