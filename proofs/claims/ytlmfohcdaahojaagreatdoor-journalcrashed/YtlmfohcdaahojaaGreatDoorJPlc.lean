import Derived.Test.YtlmfohcdaahojaaGreatDoorJWake
import Derived.Laws.OwnMore
import Derived.Test.YtlmfohcdaahojaaGreatDoorJWakeP
namespace Go.Proofs.YtlmfohcdaahojaaGreatDoor
open Go.RowKit Go.Maps

/-- An element of a row of copies. -/
def El (w : World) (v : Value) (p : List Nat) : Prop := ∃ a c, v = .slice a p.length c ∧ w.ownsRow 0 5 1 (.slice a p.length c) p.length (vals p)
theorem El.kept {w w' : World} {v : Value} {p : List Nat} (h : El w v p) (hk : U8k w w') : El w' v p := by
  obtain ⟨a, c, e, ho⟩ := h
  refine ⟨a, c, e, ho.1, ho.2.imp id ?_⟩
  rintro ⟨g, cap, cur, h1, h2, h3, r⟩
  exact ⟨g, cap, cur, h1, h2, (hk g _ _ h3).trans h3, r⟩

theorem made_rep5 (z : Value) (n : Nat) : madeCells #[z] n = (List.replicate n z).toArray := by
  apply Array.ext
  · simp [madeCells]
  · intro i h1 h2
    simp [madeCells, Nat.mod_one]
def TwinOf (w : World) (k : Nat) (ps : List (List Nat)) (e : Ending) (w' : World) : Prop := ∃ a c, e = .returned (.slice a k c) ∧ Pts w' a ps ∧ Below w.heap.size w w'

set_option maxRecDepth 100000 in
set_option maxHeartbeats 1000000 in
theorem twins_any (w : World) (pp : Option Addr) (k cap : Nat) (ps : List (List Nat)) (hk : ps.length = k) (hkl : k ≤ 4096) (hP : Pts w pp ps) (hs : ∀ p ∈ ps, ∀ x ∈ p, x < 256) :
    Calls Tryz.prog 66 #[.slice pp k cap] w (TwinOf w k ps) := by
  have qe : ∀ (w : World) (a : Option Addr) (n c n' c' : Nat), (binOp .eql 62 (.slice a n c) (.slice none n' c')).run Tryz.prog w = .ok (.bool a.isNone) w := fun w a n c n' c' => Lib.run_eql_slice_nil w _ _ a n c n' c' Tryz.underlying62
  have qn : ∀ (w : World) (a : Option Addr) (n c n' c' : Nat), (binOp .neq 28 (.slice a n c) (.slice none n' c')).run Tryz.prog w = .ok (.bool (!a.isNone)) w := fun w a n c n' c' => run_neq_slice_nil_any w _ _ a n c n' c' Tryz.underlying28
  obtain ⟨i0, hi, hz0, hz1, hz2⟩ := info_parts Tryz.infoRw
  have HP := hide hP
  have HK := hide hk
  clear hP hk
  cases pp with
  | none =>
    have h0 : Hid (k = 0 ∧ ps = []) := by
      rcases HP.out.lie with h | ⟨g, o, e, _⟩
      · exact ⟨by rw [← HK.out, h]; rfl, h⟩
      · cases e
    obtain ⟨rfl, rfl⟩ := h0.out
    go_enter Tryz.func66, Tryz.ntmps66
    go_wp2
    go_ret
    exact ⟨none, 0, rfl, HP.out, Below.refl _ _⟩
  | some ad =>
    obtain ⟨w1, hmk, hown1, hgr1⟩ := run_makeSlice_full (P := Tryz.prog) w w.heap.size 62 28 i0 (.slice none 0 0) 1 Tryz.underlying62 hi hz0 hz1 .i64 .i64 k (by omega) (by rw [hz2]; omega) (by unfold maxLen; omega) (Nat.le_refl _)
    have hb1 : Below w.heap.size w w1 := (Below.refl _ _).grown hgr1 (Nat.le_refl _) (fun k e => by cases e)
    have hmc : (madeCells (Value.slice none 0 0).cells (k * 1)).toList = List.replicate k (.slice none 0 0) := by
      rw [Nat.mul_one, show (Value.slice none 0 0).cells = #[.slice none 0 0] from rfl, made_rep5]
    rw [hmc] at hown1
    have HO1 := hide hown1
    have HB1 := hide hb1
    clear hown1 hgr1 hb1 hmc
    go_enter Tryz.func66, Tryz.ntmps66
    go_wp2
    clear hmk
    go_loopw [4] (fun i wr => ∃ (j : Nat), j ≤ k ∧ i = .int .i64 j ∧ Hid (Below w.heap.size w wr) ∧ Hid (∃ vs, wr.ownsRow w.heap.size 28 1 (.slice (some ⟨w.heap.size, 0, none⟩) k k) k vs ∧ (∀ i p, i < j → ps[i]? = some p → ∃ v, vs[i]? = some v ∧ El wr v p) ∧ ∀ i, j ≤ i → i < k → vs[i]? = some (.slice none 0 0))) (fun i _ => k - (intOf i).toNat)
    case atStart => exact ⟨0, Nat.zero_le _, rfl, HB1, ⟨_, HO1.out, fun i p h => by omega, fun i _ h => by simp [h]⟩⟩
    case round =>
      obtain ⟨j, hj, rfl, HBr, HR⟩ := hrel
      by_cases hlt : j < k
      · have i1 : (0 : Int) ≤ (j : Int) := by omega
        have i2 : (j : Int) < (k : Int) := by omega
        obtain ⟨vs, hv1, hv2, hv3⟩ := HR.out
        obtain ⟨p, hp⟩ : ∃ p, ps[j]? = some p := ⟨_, List.getElem?_eq_getElem (by rw [HK.out]; exact hlt)⟩
        obtain ⟨g, o, e1, hgl, hc⟩ : ∃ g o, some ad = some ⟨g, o, none⟩ ∧ g < w.heap.size ∧ ∀ j p, ps[j]? = some p → ∃ ap cp, w.cell? ⟨g, o + j, none⟩ = some (.slice ap p.length cp) ∧ Bytes w ap p := by
          rcases HP.out.lie with h | h
          · rw [h] at hp; simp at hp
          · exact h
        cases e1
        obtain ⟨ap, cp, hcell, hby⟩ := hc j p hp
        have c0 : wr.cell? ⟨g, o + j, none⟩ = some (.slice ap p.length cp) := (HBr.out.cell (p := ⟨g, o + j, none⟩) hgl).trans hcell
        have hpl := HP.out.small p (List.mem_of_getElem? hp)
        have HV1 := hide hv1
        have HV2 := hide hv2
        have HV3 := hide hv3
        have HPj := hide hp
        have hvl : vs.length = k := by have := hv1.1; omega
        have HVl := hide hvl
        obtain ⟨pl, hpe⟩ : ∃ pl, p.length = pl := ⟨_, rfl⟩
        have HPl := hide hpe
        rw [hpe] at c0 hpl
        cases ap with
        | none =>
          have hnil : p = [] := by
            rcases hby.lie with h | ⟨g', o', e, _⟩
            · exact h
            · cases e
          have HNil := hide hnil
          clear hv1 hv2 hv3 hp hc hcell hby hvl hpe hnil HR
          go_wp2
          go_roundw
          case rel => exact ⟨j + 1, by omega, by go_num, HBr, ⟨vs, HV1.out, fun i p' hi hp' => by
            by_cases hij : i < j
            · exact HV2.out i p' hij hp'
            · obtain rfl : i = j := by omega
              rw [HPj.out] at hp'
              cases hp'
              refine ⟨_, HV3.out i (Nat.le_refl _) hlt, none, 0, ?_, ?_⟩
              · rw [HNil.out]; rfl
              · rw [HNil.out]; exact ⟨rfl, Or.inl ⟨rfl, rfl⟩⟩, fun i hi hik => HV3.out i (by omega) hik⟩⟩
          case measure => simp [intOf]; omega
        | some a2 =>
          have HCp := hide (copy_any wr (some a2) pl cp p HPl.out (hby.below HBr.out) (by omega))
          clear hv1 hv2 hv3 hp hc hcell hby hvl hpe HR
          go_wp2_with fail
          refine HCp.out.mono ?_
          rintro e w2 ⟨ra, rc, rfl, hr2, hb2⟩
          have hrow : w2.ownsRow w.heap.size 28 1 (.slice (some ⟨w.heap.size, 0, none⟩) k k) k vs := owns_same HV1.out (fun g hg => hb2.block g (rk_lt HV1.out hg))
          have hst := hrow.stored j (.slice ra pl rc)
          obtain ⟨cv, fz⟩ : (∃ v, w2.cell? ⟨w.heap.size, j, none⟩ = some v) ∧ w2.frozen? ⟨w.heap.size, j, none⟩ = false := by
            rcases hrow.2 with ⟨e, _⟩ | ⟨g', cap', cur, e1, _, hg, e3, e4, e5, e6⟩
            · cases e
            · cases e1
              have hjc : j < cur.size := by omega
              exact ⟨⟨cur[j], by simp [World.cell?, hg, hjc]⟩, by simp [World.frozen?, hg]⟩
          obtain ⟨v0, hv0⟩ := cv
          have HU : Hid (U8k w2 (w2.setCell ⟨w.heap.size, j, none⟩ (.slice ra pl rc))) := u8k_grown (v := .slice (some ⟨w.heap.size, 0, none⟩) k k) hst.2 hrow (by decide)
          have HU1 : Hid (U8k wr w2) := u8k_below hb2
          have HSt := hide hst
          have HR2 := hide hr2
          have HB2 := hide hb2
          clear hrow hst hr2 hb2 HCp
          go_wp2
          go_roundw
          case rel =>
            refine ⟨j + 1, by omega, by go_num, ?_, ⟨vs.set j (.slice ra pl rc), HSt.out.1, fun i p' hi hp' => ?_, fun i hi hik => ?_⟩⟩
            · have b2 := HBr.out.trans (HB2.out.mono HBr.out.size)
              exact b2.grown HSt.out.2 b2.size (fun g e => by cases e; exact Nat.le_refl _)
            · by_cases hij : i < j
              · obtain ⟨v, h1, h2⟩ := HV2.out i p' hij hp'
                exact ⟨v, by rw [List.getElem?_set_ne (by omega)]; exact h1, (h2.kept HU1.out).kept HU.out⟩
              · obtain rfl : i = j := by omega
                rw [HPj.out] at hp'
                cases hp'
                refine ⟨.slice ra pl rc, by rw [List.getElem?_set_self (by rw [HVl.out]; exact hlt)], ?_⟩
                have h3 : El w2 (.slice ra pl rc) p := ⟨ra, rc, by rw [HPl.out], by rw [HPl.out]; exact owns_zero HR2.out⟩
                exact h3.kept HU.out
            · rw [List.getElem?_set_ne (by omega)]
              exact HV3.out i (by omega) hik
          case measure => simp [intOf]; omega
      · obtain rfl : j = k := by omega
        obtain ⟨vs, hv1, hv2, hv3⟩ := HR.out
        have HPt : Hid (Pts wr (some ⟨w.heap.size, 0, none⟩) ps) := by
          refine ⟨HP.out.small, ?_⟩
          rcases hv1.2 with ⟨e, _⟩ | ⟨g', cap', cur, e1, _, hg, e3, e4, e5, e6⟩
          · cases e
          · cases e1
            refine Or.inr ⟨w.heap.size, 0, rfl, lt_of_block hg, fun i p hp => ?_⟩
            have hi : i < j := by rw [← HK.out]; exact (List.getElem?_eq_some_iff.1 hp).1
            obtain ⟨v, h1, a2, c2, rfl, ho⟩ := hv2 i p hi hp
            refine ⟨a2, c2, ?_, owns_bytes ho (hs p (List.mem_of_getElem? hp))⟩
            rw [← e6, List.getElem?_take, if_pos (by omega)] at h1
            simp only [World.cell?, hg, Nat.zero_add]
            simpa using h1
        clear hv1 hv2 hv3 HR
        go_wp2
        go_ret
        exact ⟨_, _, rfl, HPt.out, HBr.out⟩

end Go.Proofs.YtlmfohcdaahojaaGreatDoor
namespace Go.Proofs.YtlmfohcdaahojaaGreatDoor
open Go.RowKit Go.Maps

def callR (b : Bool) (S : St) (J : Jr) (ps : List (List Nat)) : Nat × St × Jr := if b then chkR S J ps else addR S J ps
theorem Kept5.behind {w w1 : World} {K : Knd} {od o d jb : Nat} {R : Nat × St × Jr} {e : Ending} {w' : World} (hb : Below w.heap.size w w1) (h : Kept5 w1 (ext K w.heap.size (0, 0)) od o d jb R e w') : Kept5 w K od o d jb R e w' := by
  obtain ⟨K', e1, h1, h2, h3⟩ := h
  exact ⟨K', e1, h1, h2, (kp_below hb (Pk od o) K (0, 0)).trans h3⟩

set_option maxRecDepth 100000 in
set_option maxHeartbeats 400000 in
theorem run_any (b : Bool) (w : World) (K : Knd) (od o d jb : Nat) (hne : o ≠ od) (S : St) (J : Jr) (hd : Dk w K od d S) (hv : Inv S) (k : Nat) (hz : Sz S k) (hk : k + 41943050 ≤ 549755813888) (hj : Jk w K o d jb J)
    (hnm : J.second.length ≤ 64) (hgd : goodN J ≤ 1099511627776) (hlen : J.recs.length ≤ 1099511627776) (hlast : J.last < 18446744073709551615) (pp : Option Addr) (kp cp : Nat) (ps : List (List Nat)) (hps : ps.length = kp) (hkp : kp ≤ 4096) (hP : Pts w pp ps) (hs : ∀ p ∈ ps, ∀ x ∈ p, x < 256) (hT : C.Tab w) :
    Calls Tryz.prog 29 #[.agg #[.bool b, .slice pp kp cp], .pointer (some ⟨jb, 0, none⟩)] w (Kept5 w K od o d jb (callR b S J ps)) := by
  have hnl : J.name.length ≤ 64 := by unfold Jr.second at hnm; rw [List.length_append] at hnm; omega
  have hb1 : Below w.heap.size w (w.alloc (.cells #[.bool b, .slice pp kp cp] 64)) := (Below.refl _ _).alloc (Nat.le_refl _) _
  have HTw := hide (twins_any _ pp kp cp ps hps hkp (hP.below hb1) hs)
  have HB1 := hide hb1
  have HW : Hid (∀ (w2 : World) (a : Option Addr) (c : Nat), Pts w2 a ps → Below w.heap.size w w2 → Calls Tryz.prog (if b then 52 else 36) #[.pointer (some ⟨jb, 0, none⟩), .slice a kp c] w2 (Kept5 w K od o d jb (callR b S J ps))) := fun w2 a c hp hb2 => by
    have kp2 := kp_below hb2 (fun _ => False) K (0, 0)
    have hd2 := hd.kept kp2 (fun _ h => h)
    have hj2 := hj.kept kp2 (fun _ h => h)
    have hT2 := hT.below hb2 hT.pos
    cases b with
    | true => exact (Checkpoint_any w2 _ od o d jb hne S J hd2 hv k hz hk hj2 hnm hlen hlast a kp c ps hps (by omega) hp hT2).mono (fun e w' h => h.behind hb2)
    | false => exact (Add_any w2 _ od o d jb hne S J hd2 hv k hz hk hj2 hnl hgd hlen hlast a kp c ps hps (by omega) hp hT2).mono (fun e w' h => h.behind hb2)
  clear hd hv hz hj hP hT hb1
  cases b with
  | true =>
    go_enter Tryz.func29, Tryz.ntmps29
    go_wp2_with fail
    refine HTw.out.mono ?_
    rintro e w2 ⟨a, c, rfl, hp2, hb2⟩
    have HC := hide (HW.out w2 a c hp2 (HB1.out.trans (hb2.mono HB1.out.size)))
    first | rw [if_pos True.intro] at HC | rw [if_pos rfl] at HC
    clear hp2 hb2 HW HTw
    go_wp2_with fail
    refine HC.out.mono ?_
    rintro e w3 ⟨K3, rfl, hd3, hj3, hk3⟩
    have H : Hid (Kept5 w K od o d jb (callR true S J ps) (.returned (.int .i64 ((callR true S J ps).1 : Int))) w3) := ⟨K3, rfl, hd3, hj3, hk3⟩
    clear hd3 hj3 hk3 HC
    generalize (callR true S J ps).1 = er at *
    go_wp2
    go_ret
    exact H.out
  | false =>
    go_enter Tryz.func29, Tryz.ntmps29
    go_wp2_with fail
    refine HTw.out.mono ?_
    rintro e w2 ⟨a, c, rfl, hp2, hb2⟩
    have HC := hide (HW.out w2 a c hp2 (HB1.out.trans (hb2.mono HB1.out.size)))
    first | rw [if_neg (fun h : False => h)] at HC | rw [if_neg (by simp)] at HC
    clear hp2 hb2 HW HTw
    go_wp2_with fail
    refine HC.out.mono ?_
    rintro e w3 ⟨K3, rfl, hd3, hj3, hk3⟩
    have H : Hid (Kept5 w K od o d jb (callR false S J ps) (.returned (.int .i64 ((callR false S J ps).1 : Int))) w3) := ⟨K3, rfl, hd3, hj3, hk3⟩
    clear hd3 hj3 hk3 HC
    generalize (callR false S J ps).1 = er at *
    go_wp2
    go_ret
    exact H.out

end Go.Proofs.YtlmfohcdaahojaaGreatDoor
namespace Go.Proofs.YtlmfohcdaahojaaGreatDoor
open Go.RowKit Go.Maps

def fitN (ps : List (List Nat)) : Nat := (ps.map fun p => p.length + 10).sum
def fitsB (ps : List (List Nat)) : Bool := decide (ps.length ≤ 50) && decide (fitN ps ≤ 4000)
theorem fit_take (ps : List (List Nat)) (j : Nat) (p : List Nat) (h : ps[j]? = some p) : fitN (ps.take (j + 1)) = fitN (ps.take j) + p.length + 10 := by
  unfold fitN
  rw [List.take_add_one, h]
  simp
  omega
theorem fit_le {ps : List (List Nat)} {M : Nat} (hs : ∀ p ∈ ps, p.length + 10 ≤ M) : ∀ j, fitN (ps.take j) ≤ j * M
  | 0 => by simp [fitN]
  | j + 1 => by
    have ih := fit_le hs j
    rw [Nat.succ_mul]
    cases h : ps[j]? with
    | none =>
      have e : ps.take (j + 1) = ps.take j := by rw [List.take_add_one, h]; simp
      rw [e]
      omega
    | some p =>
      rw [fit_take ps j p h]
      have := hs p (List.mem_of_getElem? h)
      omega

set_option maxRecDepth 100000 in
set_option maxHeartbeats 400000 in
theorem fits_few (w : World) (b : Bool) (pp : Option Addr) (k cap : Nat) (ps : List (List Nat)) (hk : ps.length = k) (hkl : k ≤ 50) (hP : Pts w pp ps) :
    Calls Tryz.prog 65 #[.agg #[.bool b, .slice pp k cap]] w fun e w' => e = .returned (.bool (fitsB ps)) ∧ Below w.heap.size w w' := by
  have hb1 : Below w.heap.size w (w.alloc (.cells #[.bool b, .slice pp k cap] 64)) := (Below.refl _ _).alloc (Nat.le_refl _) _
  have hx : (w.alloc (.cells #[.bool b, .slice pp k cap] 64)).heap[w.heap.size]? = some (.cells #[.bool b, .slice pp k cap] 64 (0, 0)) := heap_alloc_new _ _
  have z1 : (w.alloc (.cells #[.bool b, .slice pp k cap] 64)).cell? ⟨w.heap.size, 1, none⟩ = some (.slice pp k cap) := by simp only [World.cell?, hx]; rfl
  have HP := hide (hP.below hb1)
  have HK := hide hk
  have HB1 := hide hb1
  have HF : Hid (fitsB ps = decide (fitN ps ≤ 4000)) := by show _ = _; unfold fitsB; rw [hk, decide_eq_true hkl]; rfl
  rw [HF.out]
  clear hP hk hb1 hx
  go_enter Tryz.func65, Tryz.ntmps65
  go_wp2
  generalize hw1 : w.alloc (.cells #[.bool b, .slice pp k cap] 64) = w1 at *
  clear hw1
  go_loop [3, 4] (fun l i => ∃ (j n : Nat), j ≤ k ∧ i = .int .i64 (j : Int) ∧ l = .int .i64 (n : Int) ∧ Hid (n = fitN (ps.take j))) (fun _ i => k - (intOf i).toNat)
  case atStart => exact ⟨0, 0, Nat.zero_le _, rfl, rfl, by show _ = _; simp [fitN]⟩
  case round =>
    obtain ⟨j, n, hj, rfl, rfl, HN⟩ := hrel
    by_cases hlt : j < k
    · have i1 : (0 : Int) ≤ (j : Int) := by omega
      have i2 : (j : Int) < (k : Int) := by omega
      obtain ⟨p, hp⟩ : ∃ p, ps[j]? = some p := ⟨_, List.getElem?_eq_getElem (by rw [HK.out]; exact hlt)⟩
      obtain ⟨g, o, e1, hgl, hc⟩ : ∃ g o, pp = some ⟨g, o, none⟩ ∧ g < w1.heap.size ∧ ∀ j p, ps[j]? = some p → ∃ ap cp, w1.cell? ⟨g, o + j, none⟩ = some (.slice ap p.length cp) ∧ Bytes w1 ap p := by
        rcases HP.out.lie with h | h
        · rw [h] at hp; simp at hp
        · exact h
      subst e1
      obtain ⟨ap, cp, c0, hby⟩ := hc j p hp
      have hpl := HP.out.small p (List.mem_of_getElem? hp)
      have HNx : Hid (n + p.length + 10 = fitN (ps.take (j + 1))) := by show _ = _; rw [fit_take ps j p hp, HN.out]
      have hnb : n ≤ 50 * 140737488351242 := by
        have := HN.out
        have h2 := fit_le (M := 140737488351242) (fun p hp => by have := HP.out.small p hp; omega) j
        have h3 : j * 140737488351242 ≤ 50 * 140737488351242 := Nat.mul_le_mul_right _ (by omega)
        rw [HN.out]
        exact Nat.le_trans h2 h3
      obtain ⟨pl, hpe⟩ : ∃ pl, p.length = pl := ⟨_, rfl⟩
      rw [hpe] at c0 hpl HNx
      clear hp hc hby hpe
      go_wp2
      go_round
      case rel => exact ⟨j + 1, n + pl + 10, by omega, by go_num, by go_num, HNx⟩
      case measure => simp [intOf]; omega
    · obtain rfl : j = k := by omega
      have e0 : n = fitN ps := by
        have := HN.out
        rw [List.take_of_length_le (by rw [HK.out]; exact Nat.le_refl _)] at this
        exact this
      have hk50 : (j : Int) ≤ 50 := by omega
      have HE := hide e0
      clear e0
      by_cases hn : n ≤ 4000
      · have hn2 : (n : Int) ≤ 4000 := by omega
        have HD : Hid (decide (fitN ps ≤ 4000) = true) := by show _ = _; rw [← HE.out, decide_eq_true hn]
        go_wp2
        go_ret
        refine ⟨?_, HB1.out⟩
        rw [HD.out]
        rfl
      · have hn2 : ¬ (n : Int) ≤ 4000 := by omega
        have HD : Hid (decide (fitN ps ≤ 4000) = false) := by show _ = _; rw [← HE.out, decide_eq_false hn]
        go_wp2
        go_ret
        refine ⟨?_, HB1.out⟩
        rw [HD.out]
        rfl

set_option maxRecDepth 100000 in
set_option maxHeartbeats 400000 in
theorem fits_many (w : World) (b : Bool) (pp : Option Addr) (k cap : Nat) (ps : List (List Nat)) (hk : ps.length = k) (hkl : 50 < k) (hk2 : k ≤ 140737488355328) (hP : Pts w pp ps) :
    Calls Tryz.prog 65 #[.agg #[.bool b, .slice pp k cap]] w fun e w' => e = .returned (.bool (fitsB ps)) ∧ Below w.heap.size w w' := by
  have hb1 : Below w.heap.size w (w.alloc (.cells #[.bool b, .slice pp k cap] 64)) := (Below.refl _ _).alloc (Nat.le_refl _) _
  have hx : (w.alloc (.cells #[.bool b, .slice pp k cap] 64)).heap[w.heap.size]? = some (.cells #[.bool b, .slice pp k cap] 64 (0, 0)) := heap_alloc_new _ _
  have z1 : (w.alloc (.cells #[.bool b, .slice pp k cap] 64)).cell? ⟨w.heap.size, 1, none⟩ = some (.slice pp k cap) := by simp only [World.cell?, hx]; rfl
  have HP := hide (hP.below hb1)
  have HK := hide hk
  have HB1 := hide hb1
  have HF : Hid (fitsB ps = false) := by show _ = _; unfold fitsB; rw [hk, decide_eq_false (by omega)]; rfl
  rw [HF.out]
  clear hP hk hb1 hx
  go_enter Tryz.func65, Tryz.ntmps65
  go_wp2
  generalize hw1 : w.alloc (.cells #[.bool b, .slice pp k cap] 64) = w1 at *
  clear hw1
  go_loop [3, 4] (fun l i => ∃ (j : Nat) (z : Int), j ≤ k ∧ i = .int .i64 (j : Int) ∧ l = .int .i64 z) (fun _ i => k - (intOf i).toNat)
  case atStart => exact ⟨0, 0, Nat.zero_le _, rfl, rfl⟩
  case round =>
    obtain ⟨j, z, hj, rfl, rfl⟩ := hrel
    by_cases hlt : j < k
    · have i1 : (0 : Int) ≤ (j : Int) := by omega
      have i2 : (j : Int) < (k : Int) := by omega
      obtain ⟨p, hp⟩ : ∃ p, ps[j]? = some p := ⟨_, List.getElem?_eq_getElem (by rw [HK.out]; exact hlt)⟩
      obtain ⟨g, o, e1, hgl, hc⟩ : ∃ g o, pp = some ⟨g, o, none⟩ ∧ g < w1.heap.size ∧ ∀ j p, ps[j]? = some p → ∃ ap cp, w1.cell? ⟨g, o + j, none⟩ = some (.slice ap p.length cp) ∧ Bytes w1 ap p := by
        rcases HP.out.lie with h | h
        · rw [h] at hp; simp at hp
        · exact h
      subst e1
      obtain ⟨ap, cp, c0, hby⟩ := hc j p hp
      obtain ⟨pl, hpe⟩ : ∃ pl, p.length = pl := ⟨_, rfl⟩
      rw [hpe] at c0
      clear hp hc hby hpe
      go_wp2
      go_round
      case rel => exact ⟨j + 1, _, by omega, by go_num, rfl⟩
      case measure => simp [intOf]; omega
    · obtain rfl : j = k := by omega
      have hk50 : ¬ (j : Int) ≤ 50 := by omega
      go_wp2
      go_ret
      exact ⟨rfl, HB1.out⟩
theorem fits_any (w : World) (b : Bool) (pp : Option Addr) (k cap : Nat) (ps : List (List Nat)) (hk : ps.length = k) (hk2 : k ≤ 140737488355328) (hP : Pts w pp ps) :
    Calls Tryz.prog 65 #[.agg #[.bool b, .slice pp k cap]] w fun e w' => e = .returned (.bool (fitsB ps)) ∧ Below w.heap.size w w' := by
  by_cases h : k ≤ 50
  · exact fits_few w b pp k cap ps hk h hP
  · exact fits_many w b pp k cap ps hk (by omega) hk2 hP

end Go.Proofs.YtlmfohcdaahojaaGreatDoor
namespace Go.Proofs.YtlmfohcdaahojaaGreatDoor
open Go.RowKit Go.Maps

theorem found_recsN {S : St} (ho : S.off = false) {x : Nm} (hx : isNm x = true) {n : Nat} {l : List (List (List Nat))} (hl : Trns n l) (h : (S.v x).getD [] = (recsOf n l).flatten) : S.found x = (recsOf n l, if l = [] then 0 else n + l.length - 1, false, 0) := by
  unfold St.found
  rw [bytes_view ho hx, h]
  have hlen : l.length ≤ (recsOf n l).flatten.length := by
    have key : ∀ (l : List (List (List Nat))) (n : Nat), l.length ≤ (recsOf n l).flatten.length := fun l => by
      induction l with
      | nil => intro n; simp
      | cons t l ih =>
        intro n
        have := ih (n + 1)
        have := recB_len n t
        simp only [recsOf, List.flatten_cons, List.length_append, List.length_cons]
        omega
    exact key l n
  obtain ⟨f, hf⟩ : ∃ f, (recsOf n l).flatten.length + 1 = (f + 1) + l.length := ⟨(recsOf n l).flatten.length - l.length, by omega⟩
  have := goB_recs l n (f + 1) [] [] 0 hl (Or.inl rfl)
  rw [List.append_nil] at this
  rw [hf, this]
  rw [goB]
  simp only [List.length_nil, if_true, List.nil_append]

theorem parts_le : ∀ (ps : List (List Nat)), (∀ p ∈ ps, p.length < 18446744073709551616) → (partsB ps).length ≤ fitN ps
  | [], _ => by simp [partsB, fitN]
  | p :: ps, h => by
    have ih := parts_le ps (fun q hq => h q (List.mem_cons_of_mem _ hq))
    have h1 := partB_len2 p (h p (by simp))
    have h2 := C.vs_bounds p.length (h p (by simp))
    rw [partsB_cons, List.length_append, h1]
    have e : fitN (p :: ps) = p.length + 10 + fitN ps := by simp [fitN]
    rw [e]
    omega
theorem fits_small {ps : List (List Nat)} (hf : fitsB ps = true) : ps.length ≤ 50 ∧ fitN ps ≤ 4000 ∧ ∀ p ∈ ps, p.length < 18446744073709551616 := by
  unfold fitsB at hf
  simp at hf
  refine ⟨hf.1, hf.2, fun p hp => ?_⟩
  have key : ∀ (l : List (List Nat)), p ∈ l → p.length ≤ fitN l := fun l => by
    induction l with
    | nil => intro h; cases h
    | cons q l ih =>
      intro h
      have e : fitN (q :: l) = q.length + 10 + fitN l := by simp [fitN]
      rw [e]
      rcases List.mem_cons.1 h with rfl | h'
      · omega
      · have := ih h'; omega
  have := key ps hp
  omega
theorem rec_fit {ps : List (List Nat)} (hf : fitsB ps = true) {num : Nat} (hn : num ≤ 1099511627776) : (recB num ps).length ≤ 4025 ∧ recOk num ps = true := by
  obtain ⟨h1, h2, h3⟩ := fits_small hf
  have h4 := parts_le ps h3
  have h5 := bodyB_len num ps
  have h6 := recB_len num ps
  refine ⟨by omega, ?_⟩
  unfold recOk
  simp only [Bool.and_eq_true, decide_eq_true_eq]
  exact ⟨⟨by omega, hn⟩, by omega⟩
theorem recs_snoc : ∀ (l : List (List (List Nat))) (n : Nat) (t : List (List Nat)), recsOf n (l ++ [t]) = recsOf n l ++ [recB (n + l.length) t]
  | [], n, t => by simp [recsOf]
  | a :: l, n, t => by
    show recB n a :: recsOf (n + 1) (l ++ [t]) = _
    rw [recs_snoc l (n + 1) t]
    simp only [recsOf, List.length_cons, List.cons_append]
    rw [show n + 1 + l.length = n + (l.length + 1) by omega]
theorem trns_snoc : ∀ (l : List (List (List Nat))) (n : Nat) (t : List (List Nat)), Trns n l → Trn (n + l.length) t → Trns n (l ++ [t])
  | [], n, t, _, h => ⟨by simpa using h, True.intro⟩
  | a :: l, n, t, h1, h2 => ⟨h1.1, trns_snoc l (n + 1) t h1.2 (by rw [show n + 1 + l.length = n + (a :: l).length by simp; omega]; exact h2)⟩
/-- A journal on the disk, its transactions, the number of the first. -/
structure Jb (S : St) (J : Jr) (n : Nat) (l : List (List (List Nat))) : Prop where
  d : Jd S J
  recs : J.recs = recsOf n l
  trns : Trns n l
  last : J.last + 1 = n + l.length
  torn : J.torn = false
  pos : 1 ≤ n
def lAf (b : Bool) (l : List (List (List Nat))) (ps : List (List Nat)) : List (List (List Nat)) := if b then [ps] else l ++ [ps]
def nAf (b : Bool) (n : Nat) (l : List (List (List Nat))) : Nat := if b then n + l.length else n
theorem Sz.more {S : St} {k k' : Nat} (h : Sz S k) (hk : k ≤ k') : Sz S k' := ⟨Nat.le_trans h.st hk, Nat.le_trans h.pl hk, Nat.le_trans h.ch hk, fun f hf => ⟨(h.fl f hf).1, (h.fl f hf).2.1, Nat.le_trans (h.fl f hf).2.2 hk⟩⟩
theorem Stl.more {S : St} {k k' : Nat} (h : Stl S k) (hk : k ≤ k') : Stl S k' := ⟨h.inv, h.sz.more hk, h.on, h.chg, h.un⟩
theorem full_no {S : St} {m : Nat} (hp : S.pFrom = 0) (hr : S.used + m ≤ S.room) : S.stroked.full m = false := by
  unfold St.full St.fullP
  have e1 : S.stroked.pFrom = 0 := hp
  have e2 : S.stroked.room = S.room := rfl
  have e3 : S.stroked.used = S.used := rfl
  rw [e1, e2, e3]
  simp
  omega
theorem call_heal (b : Bool) {S : St} {k : Nat} {J : Jr} {n : Nat} {l : List (List (List Nat))} (hS : Stl S k) (hJ : Jb S J n l) (ps : List (List Nat)) (hf : fitsB ps = true) (hsm : ∀ p ∈ ps, ∀ x ∈ p, x < 256) (hseen : S.seen.length < 64) (hnum : n + l.length ≤ 1099511627776) (hroom : S.used + 4025 ≤ S.room) (hpf : S.pFrom = 0) :
    ∃ S' J', callR b S J ps = (0, S', J') ∧ Stl S' (k + 20971525) ∧ Jb S' J' (nAf b n l) (lAf b l ps) ∧ (∀ y, y ≠ J.name → S'.v y = S.v y) ∧ S'.used ≤ S.used + 4025 ∧ S'.room = S.room ∧ S'.pFrom = S.pFrom ∧ J'.name = J.name := by
  obtain ⟨hl, hok⟩ := rec_fit hf (num := J.last + 1) (by rw [hJ.last]; exact hnum)
  have htr : Trn (J.last + 1) ps := ⟨by omega, hok, hsm⟩
  have hrs := htr.rec_small
  have hfu := full_no (m := (recB (J.last + 1) ps).length) hpf (by omega)
  cases b with
  | true =>
    rcases chk_heal hS hJ.d ps hok hrs hseen with ⟨h, _⟩ | ⟨_, S', h1, h2, h3, h4, h5⟩
    · rw [hfu] at h; cases h
    · refine ⟨S', _, h1, h2, ⟨hJ.d.checked _ h3, ?_, ?_, ?_, rfl, ?_⟩, fun y hy => by rw [h3, if_neg hy], by omega, h4.room, h4.pf, rfl⟩
      · show [] ++ [recB (J.last + 1) ps] = recsOf (n + l.length) [ps]
        rw [hJ.last]; rfl
      · show Trns (n + l.length) [ps]
        rw [← hJ.last]; exact ⟨htr, True.intro⟩
      · show J.last + 1 + 1 = n + l.length + 1
        rw [hJ.last]
      · show 1 ≤ n + l.length
        have := hJ.pos; omega
  | false =>
    rcases add_heal hS hJ.d hJ.torn ps hok hrs (Or.inr hseen) with ⟨h, _⟩ | ⟨_, S', h1, h2, h3, h4, h5⟩
    · rw [hfu] at h; cases h
    · refine ⟨S', _, h1, h2.more (by omega), ⟨hJ.d.added _ h3, ?_, ?_, ?_, hJ.torn, hJ.pos⟩, fun y hy => by rw [h3, if_neg hy], by omega, h4.room, h4.pf, rfl⟩
      · show J.recs ++ [recB (J.last + 1) ps] = recsOf n (l ++ [ps])
        rw [recs_snoc, hJ.recs, hJ.last]
      · exact trns_snoc l n ps hJ.trns (by rw [← hJ.last]; exact htr)
      · show J.last + 1 + 1 = n + (l ++ [ps]).length
        rw [hJ.last, List.length_append]; rfl

end Go.Proofs.YtlmfohcdaahojaaGreatDoor
namespace Go.Proofs.YtlmfohcdaahojaaGreatDoor
open Go.RowKit Go.Maps

theorem Tryz.infoCl : (Tryz.prog.info? 64).map (fun i => (i.zero, i.size, i.bytes)) = some (some (.agg #[.bool false, .slice none 0 0]), 2, 32) := by kernel_rfl
/-- A call that came in. -/
structure Cl where
  b : Bool
  pp : Option Addr
  k : Nat
  cap : Nat
  ps : List (List Nat)
def clc (c : Cl) : List Value := [.bool c.b, .slice c.pp c.k c.cap]
def clv (l : List Cl) : List Value := l.flatMap clc
theorem clv_len : ∀ l : List Cl, (clv l).length = l.length * 2
  | [] => rfl
  | c :: l => by show (clc c ++ clv l).length = _; rw [List.length_append, clv_len l, List.length_cons]; simp [clc]; omega
theorem clv_snoc (l : List Cl) (c : Cl) : clv (l ++ [c]) = clv l ++ clc c := by simp [clv]
theorem clv_at : ∀ {l : List Cl} {k : Nat} {c : Cl}, l[k]? = some c → (clv l)[k * 2]? = some (.bool c.b) ∧ (clv l)[k * 2 + 1]? = some (.slice c.pp c.k c.cap)
  | [], _, _, h => by simp at h
  | a :: l, 0, c, h => by simp at h; subst h; exact ⟨rfl, rfl⟩
  | a :: l, k + 1, c, h => by
    have := clv_at (l := l) (k := k) (by simpa using h)
    show (clc a ++ clv l)[(k + 1) * 2]? = _ ∧ (clc a ++ clv l)[(k + 1) * 2 + 1]? = _
    rw [List.getElem?_append_right (by show 2 ≤ _; omega), List.getElem?_append_right (by show 2 ≤ _; omega)]
    have e1 : (k + 1) * 2 - (clc a).length = k * 2 := by show (k + 1) * 2 - 2 = _; omega
    have e2 : (k + 1) * 2 + 1 - (clc a).length = k * 2 + 1 := by show (k + 1) * 2 + 1 - 2 = _; omega
    rw [e1, e2]; exact this
structure ClOk (w : World) (c : Cl) : Prop where
  pts : Pts w c.pp c.ps
  len : c.ps.length = c.k
  max : c.k ≤ 140737488355328
  small : ∀ p ∈ c.ps, ∀ x ∈ p, x < 256
structure Cls (w : World) (sp : Option Addr) (l : List Cl) : Prop where
  lie : l = [] ∨ ∃ g o, sp = some ⟨g, o, none⟩ ∧ g < w.heap.size ∧ ∀ (j : Nat) (c : Cl), l[j]? = some c → w.cell? ⟨g, o + j * 2, none⟩ = some (.bool c.b) ∧ w.cell? ⟨g, o + j * 2 + 1, none⟩ = some (.slice c.pp c.k c.cap)
theorem Cls.below {w w' : World} {sp : Option Addr} {l : List Cl} (h : Cls w sp l) (hb : Below w.heap.size w w') : Cls w' sp l := by
  refine ⟨h.lie.imp id ?_⟩
  rintro ⟨g, o, e, hg, hc⟩
  exact ⟨g, o, e, Nat.lt_of_lt_of_le hg hb.size, fun j c hj => ⟨(hb.cell (p := ⟨g, o + j * 2, none⟩) hg).trans (hc j c hj).1, (hb.cell (p := ⟨g, o + j * 2 + 1, none⟩) hg).trans (hc j c hj).2⟩⟩
theorem ClOk.below {w w' : World} {c : Cl} (h : ClOk w c) (hb : Below w.heap.size w w') : ClOk w' c := ⟨h.pts.below hb, h.len, h.max, h.small⟩
theorem cls_own {w : World} {B : Nat} {a : Option Addr} {n c : Nat} {l : List Cl} (h : w.ownsRow B 64 2 (.slice a n c) n (clv l)) : Cls w a l := by
  have hl := h.1
  rw [clv_len] at hl
  rcases h.2 with ⟨_, h2⟩ | ⟨g, cap, cur, h1, _, hg, h3, h4, h5, h6⟩
  · exact ⟨Or.inl (List.eq_nil_of_length_eq_zero (by omega))⟩
  · cases h1
    refine ⟨Or.inr ⟨g, 0, rfl, lt_of_block hg, fun j c hj => ?_⟩⟩
    have hjl : j < l.length := (List.getElem?_eq_some_iff.1 hj).1
    obtain ⟨e0, e1⟩ := clv_at hj
    rw [← h6, List.getElem?_take, if_pos (by omega), Array.getElem?_toList] at e0 e1
    rw [Nat.zero_add]
    exact ⟨by simp only [World.cell?, hg]; exact e0, by simp only [World.cell?, hg]; exact e1⟩
/-- The calls that can be kept. -/
def plc (l : List Cl) (n : Nat) : List Cl := (l.filter fun c => fitsB c.ps).take n
theorem plc_end {l : List Cl} {n k : Nat} (ho : ((l.take k).filter fun c => fitsB c.ps).length ≤ n) (h : k = l.length ∨ ((l.take k).filter fun c => fitsB c.ps).length = n) : plc l n = (l.take k).filter fun c => fitsB c.ps := by
  unfold plc
  rcases h with e | e
  · rw [e, List.take_length] at ho ⊢
    exact List.take_of_length_le ho
  · have e2 : (l.filter fun c => fitsB c.ps) = ((l.take k).filter fun c => fitsB c.ps) ++ ((l.drop k).filter fun c => fitsB c.ps) := by rw [← List.filter_append, List.take_append_drop]
    rw [e2, List.take_append_of_le_length (by omega), List.take_of_length_le (by omega)]

set_option maxRecDepth 100000 in
set_option maxHeartbeats 2000000 in
theorem places_any (w : World) (sp : Option Addr) (m cap : Nat) (l : List Cl) (n : Nat) (hm : l.length = m) (hml : m ≤ 140737488355328) (hn : n ≤ 100) (h : Cls w sp l) (hok : ∀ c ∈ l, ClOk w c) :
    Calls Tryz.prog 26 #[.slice sp m cap, .int .i64 (n : Int)] w fun e w' => ∃ a c, e = .returned (.slice a (plc l n).length c) ∧ w'.ownsRow w.heap.size 64 2 (.slice a (plc l n).length c) (plc l n).length (clv (plc l n)) ∧ Below w.heap.size w w' := by
  obtain ⟨i0, hi, hz0, hz1, hz2⟩ := info_parts Tryz.infoCl
  have HC := hide h
  have HO := hide hok
  have HM := hide hm
  clear h hok hm
  go_enter Tryz.func26, Tryz.ntmps26
  go_wp2
  go_loopw [5, 6] (fun v i wr => ∃ (k : Nat) (a : Option Addr) (q c : Nat) (out : List Cl), k ≤ m ∧ i = .int .i64 k ∧ v = .slice a q c ∧ q ≤ n ∧ Hid (out = (l.take k).filter fun c => fitsB c.ps) ∧ Hid (out.length = q) ∧ Hid (wr.ownsRow w.heap.size 64 2 (.slice a q c) q (clv out)) ∧ Hid (Below w.heap.size w wr)) (fun _ i _ => m - (intOf i).toNat)
  case atStart => exact ⟨0, none, 0, 0, [], Nat.zero_le _, rfl, rfl, Nat.zero_le _, hide (by simp), hide rfl, hide ⟨rfl, Or.inl ⟨rfl, rfl⟩⟩, hide (Below.refl _ _)⟩
  case round =>
    obtain ⟨k, a, q, c, out, hk, rfl, rfl, hq, HT, HQ, HR, HB⟩ := hrel
    have HEnd : Hid (k = m ∨ q = n → plc l n = out) := fun hh => by
      rw [HT.out]
      exact plc_end (by rw [← HT.out, HQ.out]; exact hq) (hh.imp (fun e => by rw [HM.out]; exact e) (fun e => by rw [← HT.out, HQ.out]; exact e))
    by_cases hlt : k < m
    · have hlt' : (k : Int) < (m : Int) := by omega
      by_cases hqn : q < n
      · have hqn' : (q : Int) < (n : Int) := by omega
        have i1 : (0 : Int) ≤ (k : Int) := by omega
        obtain ⟨x, hx⟩ : ∃ x, l[k]? = some x := ⟨_, List.getElem?_eq_getElem (by have := HM.out; omega)⟩
        obtain ⟨g, o, rfl, hg, hcs⟩ : ∃ g o, sp = some ⟨g, o, none⟩ ∧ g < w.heap.size ∧ ∀ (j : Nat) (c : Cl), l[j]? = some c → w.cell? ⟨g, o + j * 2, none⟩ = some (.bool c.b) ∧ w.cell? ⟨g, o + j * 2 + 1, none⟩ = some (.slice c.pp c.k c.cap) := by
          rcases HC.out.lie with e | e
          · rw [e] at hx; simp at hx
          · exact e
        have s0 : wr.cell? ⟨g, o + k * 2, none⟩ = some (.bool x.b) := (HB.out.cell (p := ⟨g, o + k * 2, none⟩) hg).trans (hcs k x hx).1
        have s1 : wr.cell? ⟨g, o + k * 2 + 1, none⟩ = some (.slice x.pp x.k x.cap) := (HB.out.cell (p := ⟨g, o + k * 2 + 1, none⟩) hg).trans (hcs k x hx).2
        have hgr : g < wr.heap.size := Nat.lt_of_lt_of_le hg HB.out.size
        have hxo := (HO.out x (List.mem_of_getElem? hx)).below HB.out
        have HF := hide (fits_any wr x.b x.pp x.k x.cap x.ps hxo.len hxo.max hxo.pts)
        have HS : Hid ((l.take (k + 1)).filter (fun c => fitsB c.ps) = if fitsB x.ps then out ++ [x] else out) := by
          show _ = _
          rw [take_snoc' l k x hx, List.filter_append, ← HT.out]
          by_cases hfx : fitsB x.ps = true <;> simp [hfx]
        clear hx hcs hxo
        obtain ⟨xb, xp, xk, xc, xs⟩ := x
        simp only at s0 s1 HF HS
        cases hfx : fitsB xs with
        | false =>
          rw [hfx] at HF HS
          simp only [Bool.false_eq_true, if_false] at HS
          clear hfx
          go_wp2_with (go_at_call 65; refine HF.out.mono ?_; rintro e w2 ⟨rfl, hb2⟩; have HB2 := hide hb2; clear hb2)
          go_roundw
          case rel => exact ⟨k + 1, a, q, c, out, by omega, by go_num, rfl, hq, hide HS.out.symm, HQ, hide (owns_same HR.out (fun g e => HB2.out.block g (rk_lt HR.out e))), hide (HB.out.trans (HB2.out.mono HB.out.size))⟩
          case measure => simp [intOf]; omega
        | true =>
          rw [hfx] at HF HS
          simp only [if_true] at HS
          clear hfx
          go_wp2_with fail
          refine HF.out.mono ?_
          rintro e w2 ⟨rfl, hb2⟩
          have HB2 := hide (HB.out.trans (hb2.mono HB.out.size))
          have HR2 : Hid (w2.ownsRow w.heap.size 64 2 (.slice a q c) q (clv out)) := owns_same HR.out (fun g e => hb2.block g (rk_lt HR.out e))
          have t0 : w2.cell? ⟨g, o + k * 2, none⟩ = _ := (hb2.cell (p := ⟨g, o + k * 2, none⟩) hgr).trans s0
          have t1 : w2.cell? ⟨g, o + k * 2 + 1, none⟩ = _ := (hb2.cell (p := ⟨g, o + k * 2 + 1, none⟩) hgr).trans s1
          have hsz := HB2.out.size
          clear hb2 s0 s1
          go_wp2_with (at_builtin; refine wpList_append_lies _ rfl (.tmp 24) (.tmp 29) 55 rfl w.heap.size 64 i0 (.agg #[.bool false, .slice none 0 0]) 2 32 Tryz.underlying55 hi hz0 hz1 hz2 rfl (by omega) (.slice a q c) q (clv out) rfl (HR2.out.alloc _) ⟨w2.heap.size, 0, none⟩ 1 1 [.bool xb, .slice xp xk xc] rfl rfl (World.news_of_block (heap_alloc_new w2 (.cells #[.bool xb, .slice xp xk xc] 64))) (by simp [Value.oneCell']) (by omega) (by unfold maxLen; omega) (by omega) (by simp; omega) _ rfl ?_; intro g' cap' w4 hown4 hgrow4 hat4 hltg; have HO4 := hide hown4; have HG4 := hide hgrow4; clear hown4 hgrow4 hat4)
          go_roundw
          case rel =>
            refine ⟨k + 1, _, q + 1, cap', out ++ [⟨xb, xp, xk, xc, xs⟩], by omega, by go_num, rfl, by omega, hide HS.out.symm, hide (by rw [List.length_append, HQ.out]; rfl), hide (by rw [clv_snoc]; exact HO4.out), hide ((HB2.out.alloc HB2.out.size _).grown HG4.out (by simp; omega) (fun g2 e => ?_))⟩
            rcases HR2.out.2 with ⟨e1, _⟩ | ⟨g3, _, _, e1, e2, _⟩
            · rw [e1] at e; simp [Value.ownBlock] at e
            · rw [e1] at e; simp [Value.ownBlock] at e; omega
          case measure => simp [intOf]; omega
      · have hqe : q = n := by omega
        have HE := hide (HEnd.out (Or.inr hqe))
        have hqn' : ¬ (q : Int) < (n : Int) := by omega
        clear hqe
        go_wp2
        go_ret
        exact ⟨a, c, by rw [HE.out, HQ.out]; rfl, by rw [HE.out, HQ.out]; exact HR.out, HB.out⟩
    · have hke : k = m := by omega
      have HE := hide (HEnd.out (Or.inl hke))
      have hlt' : ¬ (k : Int) < (m : Int) := by omega
      clear hke
      go_wp2
      go_ret
      exact ⟨a, c, by rw [HE.out, HQ.out]; rfl, by rw [HE.out, HQ.out]; exact HR.out, HB.out⟩

end Go.Proofs.YtlmfohcdaahojaaGreatDoor
