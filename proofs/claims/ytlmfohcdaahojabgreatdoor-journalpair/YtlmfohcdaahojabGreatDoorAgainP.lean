import Derived.Test.YtlmfohcdaahojabGreatDoorRoomP
namespace Go.Proofs.YtlmfohcdaahojabGreatDoor
open Go.RowKit Go.Maps

/-- Numbers that are read. -/
structure Ins (w : World) (pp : Option Addr) (ps : List Int) : Prop where
  lie : ps = [] ∨ ∃ g o, pp = some ⟨g, o, none⟩ ∧ g < w.heap.size ∧ ∀ j, j < ps.length → w.cell? ⟨g, o + j, none⟩ = some (.int .i64 (ps.getD j 0))
theorem Ins.kept {w w' : World} {pp : Option Addr} {ps : List Int} (h : Ins w pp ps) (hs : w.heap.size ≤ w'.heap.size) (hk : ∀ g o, pp = some ⟨g, o, none⟩ → g < w.heap.size → w'.heap[g]? = w.heap[g]?) : Ins w' pp ps := by
  refine ⟨h.lie.imp id ?_⟩
  rintro ⟨g, o, e, hg, hc⟩
  exact ⟨g, o, e, Nat.lt_of_lt_of_le hg hs, fun j hj => by rw [World.cell?_of_block (hk g o e hg)]; exact hc j hj⟩
theorem Ins.below {w w' : World} {pp : Option Addr} {ps : List Int} (h : Ins w pp ps) (hb : Below w.heap.size w w') : Ins w' pp ps := h.kept hb.size (fun g _ _ hg => hb.block g hg)
def pickP (ps : List Int) (i n : Nat) : Nat := match ps[i]? with | none => 0 | some p => (p % ((n + 1 : Nat) : Int)).toNat
theorem pick_le (ps : List Int) (i n : Nat) : pickP ps i n ≤ n := by
  unfold pickP
  split
  · exact Nat.zero_le _
  · rename_i p _
    have h1 := Int.emod_lt_of_pos p (show (0 : Int) < ((n + 1 : Nat) : Int) by omega)
    omega
theorem tmod_fix (p m : Int) (hm : 0 < m) : (p.tmod m < 0 → p.tmod m + m = p % m) ∧ (¬ p.tmod m < 0 → p.tmod m = p % m) := by

  have h2 := Int.tmod_lt_of_pos p hm
  have h3 : -m < p.tmod m := Int.lt_tmod_of_pos p hm
  have h4 := Int.emod_nonneg p (show m ≠ 0 by omega)
  have h5 := Int.emod_lt_of_pos p hm
  rw [Int.tmod_def] at *
  have h6 : (p - m * p.tdiv m) % m = p % m := Int.sub_mul_emod_self_left ..
  generalize p - m * p.tdiv m = t at *
  constructor
  · intro h
    rw [← h6, ← Int.add_emod_right, Int.emod_eq_of_lt (by omega) (by omega)]
  · intro h
    rw [← h6, Int.emod_eq_of_lt (by omega) (by omega)]

set_option maxRecDepth 100000 in
set_option maxHeartbeats 400000 in
theorem pick_any (w : World) (pp : Option Addr) (m cap : Nat) (ps : List Int) (hm : ps.length = m) (hp : Ins w pp ps) (i n : Nat) (hn : n ≤ 1099511627776) (hi : i ≤ 1099511627776) (_hml : m ≤ 140737488355328) :
    Calls Tryz.prog 33 #[.slice pp m cap, .int .i64 (i : Int), .int .i64 (n : Int)] w fun e w' => e = .returned (.int .i64 (pickP ps i n : Int)) ∧ w' = w := by
  by_cases hlt : i < m
  · have hget : ps[i]? = some (ps.getD i 0) := by rw [List.getD, List.getElem?_eq_getElem (by omega)]; rfl
    obtain ⟨g, o, rfl, hg, hc⟩ : ∃ g o, pp = some ⟨g, o, none⟩ ∧ g < w.heap.size ∧ ∀ j, j < ps.length → w.cell? ⟨g, o + j, none⟩ = some (.int .i64 (ps.getD j 0)) := by
      rcases hp.lie with h | h
      · rw [h] at hm; simp at hm; omega
      · exact h
    have hcell := hc i (by omega)
    have e1 : pickP ps i n = ((ps.getD i 0) % ((n + 1 : Nat) : Int)).toNat := by unfold pickP; rw [hget]
    obtain ⟨p, hpp⟩ : ∃ p, ps.getD i 0 = p := ⟨_, rfl⟩
    rw [hpp] at e1 hcell
    have hpos : (0 : Int) < (n : Int) + 1 := by omega
    have hfix := tmod_fix p ((n : Int) + 1) hpos
    have h2 := Int.tmod_lt_of_pos p hpos
    have h3 : -((n : Int) + 1) < p.tmod ((n : Int) + 1) := Int.lt_tmod_of_pos p hpos
    have h4 := Int.emod_nonneg p (show (n : Int) + 1 ≠ 0 by omega)
    have e2 : ((pickP ps i n : Nat) : Int) = p % ((n : Int) + 1) := by
      rw [e1]
      have : ((n + 1 : Nat) : Int) = (n : Int) + 1 := by omega
      rw [this]; omega
    rw [e2]
    have hlt' : (i : Int) < (m : Int) := by omega
    have hi0 : (0 : Int) ≤ (i : Int) := by omega
    have hn0 : ¬ (n : Int) + 1 = 0 := by omega
    clear hc hget hp e1 e2 hpp
    by_cases hneg : p.tmod ((n : Int) + 1) < 0
    · rw [← hfix.1 hneg]
      clear hfix h4
      go_enter Tryz.func33, Tryz.ntmps33
      go_wp2
      go_ret
      exact ⟨rfl, rfl⟩
    · rw [← hfix.2 hneg]
      clear hfix h4
      go_enter Tryz.func33, Tryz.ntmps33
      go_wp2
      go_ret
      exact ⟨rfl, rfl⟩
  · have e1 : pickP ps i n = 0 := by unfold pickP; rw [List.getElem?_eq_none (by omega)]
    rw [e1]
    have hlt' : ¬ (i : Int) < (m : Int) := by omega
    clear e1 hp
    go_enter Tryz.func33, Tryz.ntmps33
    go_wp2
    go_ret
    exact ⟨rfl, rfl⟩

/-- The names that a crash leaves, and the image. -/
def St.leftN (S : St) (ps : List Int) : List (Nm × Nat) := (S.chg.take (pickP ps 0 S.chg.length)).foldl withN S.safe
def St.crash (S : St) (ps : List Int) : Image := (S.leftN ps).mapIdx fun i p => (p.1, (S.file p.2).left (pickP ps (i + 1) (S.file p.2).units.length))
theorem fold_srt {l : List (Nm × Nat)} (h : Srt l) : ∀ cs : List Chg, Srt (cs.foldl withN l)
  | [] => h
  | c :: cs => fold_srt (h.withN c) cs
theorem with_mem {l : List (Nm × Nat)} {c : Chg} {p : Nm × Nat} (h : p ∈ withN l c) : p ∈ l ∨ (c.to ≠ [] ∧ p = (c.to, c.file)) := by
  unfold withN at h
  split at h
  · exact Or.inl (mem_del.1 h).1
  · rename_i hne
    rcases mem_put.1 h with e | ⟨e, _⟩
    · exact Or.inr ⟨hne, e⟩
    · exact Or.inl (mem_del.1 e).1
theorem fold_in {n : Nat} : ∀ (cs : List Chg) {l : List (Nm × Nat)}, (∀ p ∈ l, p.2 < n ∧ isNm p.1 = true) → (∀ c ∈ cs, c.to = [] ∨ (isNm c.to = true ∧ c.file < n)) → ∀ p ∈ cs.foldl withN l, p.2 < n ∧ isNm p.1 = true
  | [], _, h, _ => h
  | c :: cs, l, h, hc => fold_in cs (fun p hp => by
      rcases with_mem hp with e | ⟨e1, e2⟩
      · exact h p e
      · rcases hc c (List.mem_cons_self ..) with e3 | e3
        · exact absurd e3 e1
        · rw [e2]; exact ⟨e3.2, e3.1⟩) (fun d hd => hc d (List.mem_cons_of_mem _ hd))
theorem left_in {S : St} (hv : Inv S) (ps : List Int) : ∀ p ∈ S.leftN ps, p.2 < S.files.length ∧ isNm p.1 = true :=
  fold_in _ hv.inf (fun c hc => (hv.chg c (List.mem_of_mem_take hc)).2)
theorem left_srt {S : St} (hv : Inv S) (ps : List Int) : Srt (S.leftN ps) := fold_srt hv.srts _
theorem left_len {S : St} (hv : Inv S) {k : Nat} (hz : Sz S k) (ps : List Int) : (S.leftN ps).length ≤ 64 + k := by
  have h1 := len_fold S.safe (S.chg.take (pickP ps 0 S.chg.length))
  have h2 := hv.mosts
  have h3 := hz.ch
  have h4 : (S.chg.take (pickP ps 0 S.chg.length)).length ≤ S.chg.length := by rw [List.length_take]; omega
  unfold St.leftN; omega

theorem crash_at {S : St} {ps : List Int} {j : Nat} {p : Nm × Nat} (hp : (S.leftN ps)[j]? = some p) : (S.crash ps)[j]? = some (p.1, (S.file p.2).left (pickP ps (j + 1) (S.file p.2).units.length)) := by
  unfold St.crash; rw [List.getElem?_mapIdx, hp]; rfl
theorem crash_len (S : St) (ps : List Int) : (S.crash ps).length = (S.leftN ps).length := by simp [St.crash]
theorem left_small {f : Fil} (h : f.ok) (n : Nat) : ∀ x ∈ f.left n, x < 256 := carry_small h.small (okU_small (okU_take h.units n))
theorem left_length (f : Fil) (n : Nat) : (f.left n).length ≤ f.safe.length + f.units.length := by
  have := carry_len f.safe (f.units.take n)
  have h2 : (f.units.take n).length ≤ f.units.length := by rw [List.length_take]; omega
  unfold Fil.left; omega

set_option maxRecDepth 100000 in
set_option maxHeartbeats 4000000 in
theorem Crash_any (w : World) (K : Knd) (o d : Nat) (S : St) (h : Dk w K o d S) (hv : Inv S) (k : Nat) (hz : Sz S k) (hk : k ≤ 274877906944) (pp : Option Addr) (m cap : Nat) (ps : List Int) (hm : ps.length = m) (hp : Ins w pp ps) (hml : m ≤ 140737488355328) :
    Calls Tryz.prog 12 #[.pointer (some ⟨d, 0, none⟩), .slice pp m cap] w fun e w' => ∃ v, e = .returned v ∧ Im w' (ext K w.heap.size (0, 0)) v (S.crash ps) ∧ Below w.heap.size w w' := by
  obtain ⟨i0, hi, hz0, hz1, hz2⟩ := info_parts Tryz.infoFb
  obtain ⟨loc, sv, nv, cv, hmm⟩ := h
  have HD := hide hmm
  have HV := hide hv
  have HZ := hide hz
  have HP := hide hp
  have HM := hide hm
  have hb := hmm.blk
  unfold dcells at hb
  have HB := hide hb
  obtain ⟨q0, q1, q2, q3, q4, q5, q6, q7, q8, q9, qf⟩ := blk10 hb
  have hbl := lt_of_block hb
  have HCl := hide (clone_any w sv (mapN loc S.safe) hmm.sf.mp)
  obtain ⟨ca, cc, hcv, hcc, _⟩ := hmm.ch.form
  subst hcv
  obtain ⟨n, hn⟩ : ∃ n, S.chg.length = n := ⟨_, rfl⟩
  have HN := hide hn
  have hnb : n ≤ 274877906944 := by have := hz.ch; omega
  rw [hn] at q3 hcc
  obtain ⟨pk, hpk⟩ : ∃ pk, pickP ps 0 n = pk := ⟨_, rfl⟩
  have HPkE := hide hpk
  have hpkn : pk ≤ n := by rw [← hpk]; exact pick_le ps 0 n
  clear hv hz hp hm hb hmm hn hpk
  go_enter Tryz.func12, Tryz.ntmps12
  go_wp2_with fail
  refine HCl.out.mono ?_
  rintro e w1 ⟨ov, rfl, hmp1, hb1, hov⟩
  have HMp1 := hide hmp1
  have HB1 := hide hb1
  have HOv := hide hov
  obtain ⟨y0, y1, y2, y3, y4, y5, y6, y7, y8, y9, yf⟩ := blk10 ((hb1.block d hbl).trans HB.out)
  rw [HN.out] at y3
  have HPk := hide (fun q => pick_any (w1.drewN q) pp m cap ps HM.out ⟨(HP.out.below hb1).lie⟩ 0 n (by omega) (by omega) hml)
  rw [HPkE.out] at HPk
  have hpc : (pk : Int) ≤ (cc : Int) := by omega
  have hp0 : (0 : Int) ≤ (pk : Int) := by omega
  clear hmp1 hb1 hov q0 q1 q2 q3 q4 q5 q6 q7 q8 q9 qf
  go_wp2
  go_quiet (first | (go_at_call 33; exact Calls.quiet_of_same (HPk.out _)))
  have HB2 : Hid (Below w.heap.size w (w1.drewN nq)) := below_drewN HB1.out nq
  have HMp2 : Hid (Mp (w1.drewN nq) (.map ov) (mapN loc S.safe)) := HMp1.out
  generalize w1.drewN nq = w2 at *
  go_wp2
  go_loopw [5, 30] (fun l i wr => ∃ (j : Nat) (o : Option Nat), j ≤ pk ∧ i = .int .i64 j ∧ l = .map o ∧ Hid (Mp wr (.map o) (mapN loc ((S.chg.take j).foldl withN S.safe))) ∧ Hid (Below w.heap.size w wr) ∧ Hid (∀ b, o = some b → w.heap.size ≤ b)) (fun _ i _ => pk - (intOf i).toNat)
  case atStart => exact ⟨0, ov, Nat.zero_le _, rfl, rfl, HMp2, HB2, HOv⟩
  case round =>
    obtain ⟨j, ol, hj, rfl, rfl, HMr, HBr, HOr⟩ := hrel
    clear HMp1 HMp2 HB2 HOv HB1
    by_cases hlt : j < pk
    · have hlt' : (j : Int) < (pk : Int) := by omega
      obtain ⟨c, hc⟩ : ∃ c, S.chg[j]? = some c := ⟨_, List.getElem?_eq_getElem (by rw [HN.out]; omega)⟩
      have kb := kp_below HBr.out (fun _ => False) K (0, 0)
      have hown := (HD.out.kept kb (fun _ h => h)).ch.own
      rw [HN.out] at hown
      obtain ⟨g, rfl, hg, c0, c1, c2⟩ := chg_cells hown hc
      have HT : Hid (S.chg.take (j + 1) = S.chg.take j ++ [c]) := take_snoc' _ _ _ hc
      obtain ⟨l1, l2⟩ := HV.out.lens c (List.mem_of_getElem? hc)
      have HL1 := hide l1
      have HL2 := hide l2
      obtain ⟨fp, hfp⟩ : ∃ fp : Option Addr, (if c.to = [] then none else some ⟨loc c.file, 0, none⟩) = fp := ⟨_, rfl⟩
      rw [hfp] at c2
      have HFp := hide hfp
      clear hc hown l1 l2 hfp kb
      have HBk : Hid (((S.chg.take j).foldl withN S.safe).length < 1099511627776) := by
        show _ < _
        have e1 := len_fold S.safe (S.chg.take j)
        have e2 := HV.out.mosts
        have e3 := HZ.out.ch
        have e4 : (S.chg.take j).length ≤ S.chg.length := by rw [List.length_take]; omega
        omega
      obtain ⟨sA, hsA⟩ : ∃ sA : ByteArray, (⟨c.frm.toArray⟩ : ByteArray) = sA := ⟨_, rfl⟩
      obtain ⟨sB, hsB⟩ : ∃ sB : ByteArray, (⟨c.to.toArray⟩ : ByteArray) = sB := ⟨_, rfl⟩
      rw [hsA] at c0
      rw [hsB] at c1
      have HW := hide (with_any (wr.alloc (.cells #[.string sA, .string sB, .pointer fp] 89)) (.map ol) (mapN loc ((S.chg.take j).foldl withN S.safe)) (lc loc c) (.pointer fp) (fun hne => by rw [← HFp.out, if_neg (show ¬ c.to = [] from hne)]; rfl) (HMr.out.same (fun b hb => Below.heap_alloc _ _ _ (HMr.out.lt hb))) HL1.out HL2.out (by rw [mapN_len]; exact HBk.out) ⟨_, rfl⟩)
      rw [show lc loc c = ⟨c.frm, c.to, loc c.file⟩ from rfl] at HW
      simp only at HW
      rw [hsA, hsB] at HW
      clear hsA hsB
      go_wp2_with fail
      refine HW.out.mono ?_
      rintro e w3 ⟨b3, rfl, hm3, hg3, ha3⟩
      have HM3 : Hid (Mp w3 (.map (some b3)) (mapN loc ((S.chg.take (j + 1)).foldl withN S.safe))) := by
        show Mp _ _ _
        rw [HT.out, List.foldl_append, List.foldl_cons, List.foldl_nil, mapN_with]
        exact hm3
      have HB3 : Hid (Below w.heap.size w w3) := (HBr.out.alloc HBr.out.size _).grown hg3 (by have := HBr.out.size; simp; omega) (fun b e => HOr.out b e)
      have HO3 : Hid (∀ b, some b3 = some b → w.heap.size ≤ b) := fun b e => by
        cases e
        rcases ha3 with h | h
        · exact HOr.out b3 h.symm
        · have := HBr.out.size
          simp at h; omega
      clear hm3 hg3 ha3
      go_wp2
      go_roundw
      case rel => exact ⟨j + 1, some b3, by omega, by go_num, rfl, HM3, HB3, HO3⟩
      case measure => simp [intOf]; omega
    · obtain rfl : j = pk := by omega
      have HLf : Hid ((S.chg.take j).foldl withN S.safe = S.leftN ps) := by show _ = _; unfold St.leftN; rw [HN.out, HPkE.out]
      rw [HLf.out] at HMr
      obtain ⟨L, hL⟩ : ∃ L, (S.leftN ps).length = L := ⟨_, rfl⟩
      have HL := hide hL
      have hLb : L ≤ 274877906944 + 64 := by have := left_len HV.out HZ.out ps; omega
      have HSo := hide (sorted_any wr (.map ol) (mapN loc (S.leftN ps)) HMr.out (by unfold mapN Srt; exact List.pairwise_map.2 (left_srt HV.out ps)) (by rw [mapN_len]; omega))
      have e3 : (mapN loc (S.leftN ps)).map (·.1) = (S.leftN ps).map (·.1) := by unfold mapN; simp
      rw [e3, mapN_len, hL] at HSo
      clear e3 hL
      go_wp2_with fail
      refine HSo.out.mono ?_
      rintro e w5 ⟨na, nc, rfl, hr5, hb5⟩
      have HR5 := hide hr5
      have HB5 : Hid (Below w.heap.size w w5) := HBr.out.trans (hb5.mono HBr.out.size)
      have HM5 : Hid (Mp w5 (.map ol) (mapN loc (S.leftN ps))) := HMr.out.same (fun b hb => hb5.block b (HMr.out.lt hb))
      clear hr5 hb5 HMr HBr
      go_wp2
      go_loopw [8, 41] (fun l i wr => ∃ (j : Nat) (a : Option Addr) (c : Nat), j ≤ L ∧ i = .int .i64 j ∧ l = .slice a j c ∧ Hid (Im wr (ext K w.heap.size (0, 0)) (.slice a j c) ((S.crash ps).take j)) ∧ Hid (Below w.heap.size w wr) ∧ Hid (Below w5.heap.size w5 wr) ∧ Hid (∀ g, (Value.slice a j c).ownBlock = some g → w5.heap.size ≤ g)) (fun _ i _ => L - (intOf i).toNat)
      case atStart => exact ⟨0, none, 0, Nat.zero_le _, rfl, rfl, im_nil _ _, HB5, Below.refl _ _, fun g e => by simp [Value.ownBlock] at e⟩
      case round =>
        obtain ⟨j, a, c, hj, rfl, rfl, HI, HB, HBw, HOb⟩ := hrel
        by_cases hlt : j < L
        · have hlt' : (j : Int) < (L : Int) := by omega
          obtain ⟨p, hp⟩ : ∃ p, (S.leftN ps)[j]? = some p := ⟨_, List.getElem?_eq_getElem (by rw [HL.out]; exact hlt)⟩
          have hpm := List.mem_of_getElem? hp
          obtain ⟨hpi, hpn⟩ := left_in HV.out ps p hpm
          have hfs := St.file_some hpi
          have hfz := HZ.out.file hpi
          have kb := kp_below HB.out (fun _ => False) K (0, 0)
          have hDr := HD.out.kept kb (fun _ h => h)
          have HT := hide (take_snoc' (S.crash ps) j _ (crash_at hp))
          have hMr : Mp wr (.map ol) (mapN loc (S.leftN ps)) := HM5.out.same (fun b hb => HBw.out.block b (HM5.out.lt hb))
          have hlk := hMr.look p.1 (by have := (nm_len hpn).2; unfold maxLen; omega)
          rw [mapN_look, look_of_mem (left_srt HV.out ps) hpm] at hlk
          simp only [Option.map_some] at hlk
          obtain ⟨fs, fu, hfl, _, _⟩ := (hDr.fl p.2 _ hfs).fl
          obtain ⟨z0, z1, z2, zf⟩ := blk3 hfl.blk
          obtain ⟨ua, uc, hua, _, _⟩ := owns_form hfl.unit
          subst hua
          obtain ⟨pj, hpj⟩ : ∃ pj, pickP ps (j + 1) (S.file p.2).units.length = pj := ⟨_, rfl⟩
          have HPj := hide (pick_any wr pp m cap ps HM.out (HP.out.below HB.out) (j + 1) (S.file p.2).units.length (by omega) (by omega) hml)
          rw [hpj] at HPj HT
          have hpjl : pj ≤ (S.file p.2).units.length := by rw [← hpj]; exact pick_le _ _ _
          have HLf2 := hide (hDr.leftF hfs pj hpjl (by omega))
          have HSm : Hid ((∀ x ∈ (S.file p.2).left pj, x < 256) ∧ ((S.file p.2).left pj).length ≤ 1099511627776) := ⟨left_small hfz.1 pj, by have := left_length (S.file p.2) pj; omega⟩
          obtain ⟨g, rfl, hg, hc⟩ : ∃ g, na = some ⟨g, 0, none⟩ ∧ g < w5.heap.size ∧ w5.cell? ⟨g, j, none⟩ = some (.string ⟨p.1.toArray⟩) := by
            have hst : (strs ((S.leftN ps).map (·.1)))[j]? = some (.string ⟨p.1.toArray⟩) := by unfold strs; rw [List.getElem?_map, List.getElem?_map, hp]; rfl
            rcases HR5.out.2 with ⟨_, e2⟩ | ⟨g, cap, cur, e1, _, hg, e3, e4, e5, e6⟩
            · omega
            · cases e1
              refine ⟨g, rfl, lt_of_block hg, ?_⟩
              rw [← e6, List.getElem?_take, if_pos (by omega)] at hst
              simp only [World.cell?, hg]
              simpa using hst
          have hcr : wr.cell? ⟨g, j, none⟩ = some (.string ⟨p.1.toArray⟩) := (HBw.out.cell (p := ⟨g, j, none⟩) hg).trans hc
          have hub : (S.file p.2).units.length ≤ 1099511627776 := by omega
          have hjj : ((j + 1 : Nat) : Int) = (j : Int) + 1 := by omega
          rw [hjj] at HPj
          clear hp hpm hpi hpn hfs hfz kb hDr hMr hfl hc hpj z0 z2 hjj
          generalize hsp : (⟨p.1.toArray⟩ : ByteArray) = sp at *
          have HSp := hide hsp
          clear hsp
          generalize (S.file p.2).units.length = UL at *
          obtain ⟨B, hB⟩ : ∃ B, (S.file p.2).left pj = B := ⟨_, rfl⟩
          rw [hB] at HLf2 HSm HT
          clear hB
          go_wp2_with fail
          refine HPj.out.mono ?_
          rintro e w6 ⟨rfl, rfl⟩
          go_wp2_with fail
          refine HLf2.out.mono ?_
          rintro e w7 ⟨ra, rc, rfl, hr7, hb7⟩
          have HR7 := hide hr7
          have HB7 := hide hb7
          clear hr7 hb7
          have HI7 := hide (HI.out.kept (p := fun _ => False) (K' := ext K w.heap.size (0, 0)) ⟨HB7.out.os, HB7.out.tape, HB7.out.output, HB7.out.size, fun _ _ => rfl, fun b hb _ => HB7.out.block b hb⟩ (fun h => h))
          have hlen : ((S.crash ps).take j).length = j := by rw [List.length_take, crash_len, HL.out]; omega
          obtain ⟨ds, hd1, hd2, hd3⟩ := HI7.out.row
          rw [hlen] at hd1 hd2
          have HD1 := hide hd1
          have HD2 := hide hd2
          have HD3 := hide hd3
          clear hd1 hd2 hd3
          have HRr : Hid (Rk w7 (ext K w.heap.size (0, 0)) (0, 0) 5 1 (.slice ra B.length rc) B.length (vals B)) := by
            refine ⟨⟨HR7.out.1, HR7.out.2.imp id ?_⟩, fun g' e => ?_⟩
            · rintro ⟨g', cap, cur, e1, _, r⟩
              exact ⟨g', cap, cur, e1, Nat.zero_le _, r⟩
            · refine ext_new K _ ?_
              rcases HR7.out.2 with ⟨e1, _⟩ | ⟨g2, cap, cur, e1, e2, _⟩
              · rw [e1] at e; simp [Value.ownBlock] at e
              · rw [e1] at e; simp [Value.ownBlock] at e
                have := HB.out.size
                omega
          generalize hpl : B.length = pl at *
          have HPl := hide hpl
          clear hpl
          go_wp2_with (at_builtin; refine wpList_append_lies _ rfl (.tmp 49) (.tmp 63) 38 rfl 0 58 i0 (.agg #[.string ⟨#[]⟩, .slice none 0 0]) 2 40 Tryz.underlying38 hi hz0 hz1 hz2 rfl (by omega) (.slice a j c) j (imv ((S.crash ps).take j) ds) rfl (HD2.out.own.alloc _) ⟨w7.heap.size, 0, none⟩ 1 1 [.string sp, .slice ra pl rc] rfl rfl (World.news_of_block (heap_alloc_new w7 (.cells #[.string sp, .slice ra pl rc] 58))) (by simp [Value.oneCell']) (by omega) (by unfold maxLen; omega) (by omega) (by omega) _ rfl ?_; intro g' cap' w8 hown8 hgrow8 hat8 hltg)
          have HB8 : Hid (Below w.heap.size w w8 ∧ Below w5.heap.size w5 w8) := by
            have s1 := HB5.out.size
            have s2 := HBw.out.size
            have s3 := HB7.out.size
            have h1 : Below w5.heap.size w5 w7 := HBw.out.trans (HB7.out.mono s2)
            have h2 := (h1.alloc (by omega) (.cells #[.string sp, .slice ra pl rc] 58)).grown hgrow8 (by simp; omega) (fun g e => HOb.out g e)
            exact ⟨HB5.out.trans (h2.mono s1), h2⟩
          have HOb8 : Hid (∀ g2, (Value.slice (some ⟨g', 0, none⟩) (j + 1) cap').ownBlock = some g2 → w5.heap.size ≤ g2) := fun g2 e => by
            simp [Value.ownBlock] at e
            subst e
            rcases hat8 with h | h
            · exact HOb.out g' h
            · have s2 := HBw.out.size
              have s3 := HB7.out.size
              simp at h; omega
          have HI8 : Hid (Im w8 (ext K w.heap.size (0, 0)) (.slice (some ⟨g', 0, none⟩) (j + 1) cap') ((S.crash ps).take (j + 1))) := by
            show Im _ _ _ _
            rw [HT.out]
            have e1 := HPl.out
            subst e1
            have e2 := HSp.out
            subst e2
            refine Im.push (w := w7) (v := .slice a j c) (p := (p.1, B)) HI7.out.small (by rw [hlen]; exact HD1.out) (by rw [hlen]; exact HD2.out) HD3.out HSm.out HRr.out (by rw [hlen]; exact hown8) (fun g2 hg2 hne => (hgrow8.block g2 (by simp; omega) hne).trans (Below.heap_alloc _ _ _ hg2)) (fun g2 e => ?_)
            simp [Value.ownBlock] at e
            subst e
            rcases hat8 with h | h
            · exact HD2.out.kind g' h
            · refine ext_new K _ ?_
              have := HB.out.size
              have := HB7.out.size
              simp at h; omega
          clear hown8 hgrow8 hat8
          go_wp2
          go_roundw
          case rel => exact ⟨j + 1, _, cap', by omega, by go_num, rfl, HI8, hide HB8.out.1, hide HB8.out.2, HOb8⟩
          case measure => simp [intOf]; omega
        · obtain rfl : j = L := by omega
          have HIe : Hid (Im wr (ext K w.heap.size (0, 0)) (.slice a j c) (S.crash ps)) := by
            have := HI.out
            rwa [List.take_of_length_le (by rw [crash_len, HL.out]; exact Nat.le_refl _)] at this
          go_wp2
          go_ret
          exact ⟨_, rfl, HIe.out, HB.out⟩

end Go.Proofs.YtlmfohcdaahojabGreatDoor
namespace Go.Proofs.YtlmfohcdaahojabGreatDoor
open Go.RowKit Go.Maps

/-- Is it counted? -/
def cnt (e : Nat) : Nat := if e = 0 ∨ e = 44 ∨ e = 45 then 1 else 0
/-- The same files, with another plan and other numbers. -/
def St.set (S : St) (r s n : Nat) (a b c : Int) : St := { S with room := r, strokes := s, planned := n, pOff := a, pFrom := b, pTo := c, off := false }
theorem set_self {S : St} (h : S.off = false) : S = S.set S.room S.strokes S.planned S.pOff S.pFrom S.pTo := by
  cases S; simp only at h; subst h; rfl
theorem stroked_set {S : St} (h : S.off = false) (hp : S.power = 0) : S.stroked = S.set S.room (S.strokes + 1) (S.planned + 1) S.pOff S.pFrom S.pTo := by
  have hd : decide (((S.planned + 1 : Nat) : Int) = S.pOff) = false := by
    unfold St.power at hp
    split at hp
    · cases hp
    · rename_i hn; simpa using hn
  unfold St.stroked St.set
  rw [hd, h]; rfl
/-- Two disks of the same files answer a step alike. -/
theorem play_alike (S : St) (r s n : Nat) (a b c : Int) (p : Opx) (h1 : S.off = false) (hp : S.power = 0) (hq : (S.set r s n a b c).power = 0) (hk : 1 ≤ p.kind ∧ p.kind ≤ 6)
    (hf : p.kind = 1 → ¬ (isNm p.name = false ∨ (lookN S.seen p.name = none ∧ 64 ≤ S.seen.length)) → (S.set r s n a b c).stroked.full p.b.length = S.stroked.full p.b.length) :
    (S.set r s n a b c).play p = ((S.play p).1, (S.play p).2.set r (s + cnt (S.play p).1) (n + cnt (S.play p).1) a b c) := by
  have e1 := stroked_set h1 hp
  have e2 : (S.set r s n a b c).stroked = S.set r (s + 1) (n + 1) a b c := (stroked_set rfl hq).trans rfl
  have ho : (S.set r s n a b c).off = false := rfl
  have he : ∀ x, (S.set r s n a b c).err x = S.err x := fun x => by unfold St.err; rw [ho, h1]; rfl
  have hself : ∀ e, cnt e = 0 → (e, S.set r s n a b c) = ((e, S).1, (e, S).2.set r (s + cnt (e, S).1) (n + cnt (e, S).1) a b c) := fun e h => by
    simp only [h]; rfl
  have hec : ∀ x, S.err x ≠ 0 → cnt (S.err x) = 0 := fun x h => by
    unfold St.err at h ⊢
    rw [h1] at h ⊢
    simp only [Bool.false_eq_true, if_false] at h ⊢
    split
    · rename_i h2
      rw [if_pos h2] at h
      split
      · rfl
      · rename_i h3; rw [if_neg h3] at h; exact absurd rfl h
    · rfl
  unfold St.play
  by_cases k1 : p.kind = 1
  · rw [if_pos k1, if_pos k1]
    have hf1 := hf k1
    unfold St.appendR
    rw [hp, hq, ho, h1]
    simp only [Bool.false_eq_true, if_false]
    by_cases c1 : isNm p.name = false ∨ (lookN S.seen p.name = none ∧ 64 ≤ S.seen.length)
    · rw [if_pos c1, if_pos (show isNm p.name = false ∨ (lookN (S.set r s n a b c).seen p.name = none ∧ 64 ≤ (S.set r s n a b c).seen.length) from c1)]
      exact hself 41 rfl
    · rw [if_neg c1, if_neg (show ¬ (isNm p.name = false ∨ (lookN (S.set r s n a b c).seen p.name = none ∧ 64 ≤ (S.set r s n a b c).seen.length)) from c1), hf1 c1]
      by_cases c2 : S.stroked.full p.b.length = true
      · rw [if_pos c2, if_pos c2, e1, e2]; rfl
      · rw [if_neg c2, if_neg c2, e1, e2]
        show (match lookN S.seen p.name with | some i => _ | none => _) = _
        cases lookN S.seen p.name <;> rfl
  rw [if_neg k1, if_neg k1]
  by_cases k2 : p.kind = 2
  · rw [if_pos k2, if_pos k2]
    unfold St.cutR
    rw [hp, hq, he, e1, e2]
    by_cases c1 : S.err p.name ≠ 0
    · rw [if_pos c1, if_pos c1]; exact hself _ (hec _ c1)
    · rw [if_neg c1, if_neg c1]
      simp only
      by_cases c2 : p.n < 0 ∨ ((S.file ((lookN S.seen p.name).getD 0)).all.length : Int) < p.n
      · rw [if_pos c2, if_pos (show p.n < 0 ∨ (((S.set r s n a b c).file ((lookN (S.set r s n a b c).seen p.name).getD 0)).all.length : Int) < p.n from c2)]
        exact hself 43 rfl
      · rw [if_neg c2, if_neg (show ¬ (p.n < 0 ∨ (((S.set r s n a b c).file ((lookN (S.set r s n a b c).seen p.name).getD 0)).all.length : Int) < p.n) from c2)]
        rfl
  rw [if_neg k2, if_neg k2]
  by_cases k3 : p.kind = 3
  · rw [if_pos k3, if_pos k3]
    unfold St.syncR
    rw [hp, hq, he, e1, e2]
    by_cases c1 : S.err p.name ≠ 0
    · rw [if_pos c1, if_pos c1]; exact hself _ (hec _ c1)
    · rw [if_neg c1, if_neg c1]; rfl
  rw [if_neg k3, if_neg k3]
  by_cases k4 : p.kind = 4
  · rw [if_pos k4, if_pos k4]
    unfold St.namesR
    rw [hp, hq, ho, h1, e1, e2]
    simp only [Bool.false_eq_true, if_false]
    rfl
  rw [if_neg k4, if_neg k4]
  by_cases k5 : p.kind = 5
  · rw [if_pos k5, if_pos k5]
    unfold St.renameR
    rw [hp, hq, he, e1, e2]
    by_cases c0 : S.err p.name ≠ 45 ∧ isNm p.to = false
    · rw [if_pos c0, if_pos c0]; exact hself 41 rfl
    rw [if_neg c0, if_neg c0]
    by_cases c1 : S.err p.name ≠ 0
    · rw [if_pos c1, if_pos c1]; exact hself _ (hec _ c1)
    · rw [if_neg c1, if_neg c1]
      simp only
      by_cases c2 : p.name = p.to
      · rw [if_pos c2, if_pos c2]; rfl
      · rw [if_neg c2, if_neg c2]; rfl
  rw [if_neg k5, if_neg k5]
  have k6 : p.kind = 6 := by omega
  rw [if_pos k6, if_pos k6]
  unfold St.removeR
  rw [hp, hq, he, e1, e2]
  by_cases c1 : S.err p.name ≠ 0
  · rw [if_pos c1, if_pos c1]; exact hself _ (hec _ c1)
  · rw [if_neg c1, if_neg c1]; rfl
theorem play_set (S : St) (p : Opx) (h1 : S.off = false) (hp : S.power = 0) (hk : 1 ≤ p.kind ∧ p.kind ≤ 6) :
    (S.play p).2 = (S.play p).2.set S.room (S.strokes + cnt (S.play p).1) (S.planned + cnt (S.play p).1) S.pOff S.pFrom S.pTo := by
  have h := play_alike S S.room S.strokes S.planned S.pOff S.pFrom S.pTo p h1 hp (by rw [← set_self h1]; exact hp) hk (fun _ _ => by rw [← set_self h1])
  rw [← set_self h1] at h
  exact congrArg Prod.snd h
/-- The bytes are never more than were given. -/
theorem play_used {S : St} {k : Nat} (hv : Inv S) (hz : Sz S k) (p : Opx) (hb : ∀ y ∈ p.b, y < 256) (h1 : S.off = false) (hp : S.power = 0) (hk : 1 ≤ p.kind ∧ p.kind ≤ 6) (hu : S.used + p.b.length ≤ S.room) : (S.play p).2.used ≤ S.used + p.b.length := by
  have hq : (S.set (S.used + p.b.length) S.strokes S.planned S.pOff S.pFrom S.pTo).power = 0 := hp
  have h := play_alike S (S.used + p.b.length) S.strokes S.planned S.pOff S.pFrom S.pTo p h1 hp hq hk (fun _ _ => by
    rw [stroked_set h1 hp, stroked_set rfl hq]
    unfold St.full
    congr 1
    show decide (S.used + p.b.length < p.b.length + S.used) = decide (S.room < p.b.length + S.used)
    rw [decide_eq_decide]; omega)
  have hT : Inv (S.set (S.used + p.b.length) S.strokes S.planned S.pOff S.pFrom S.pTo) :=
    ⟨Nat.le_trans hu hv.room, hv.srt, hv.srts, hv.ins, hv.inf, hv.chg, hv.nod, hv.most, hv.mosts, Nat.le_add_right _ _, hv.fold⟩
  have hZ : Sz (S.set (S.used + p.b.length) S.strokes S.planned S.pOff S.pFrom S.pTo) k := ⟨hz.st, hz.pl, hz.ch, hz.fl⟩
  have hg := (good_play hT hZ p hb).inv.used
  rw [h] at hg
  exact hg

/-- A disk with a plan to be full from f to t, and one of the same files with none. -/
structure Tw (A B : St) (f t : Int) (n : Nat) : Prop where
  off : A.off = false
  pOff : A.pOff = 0
  pFrom : A.pFrom = f
  pTo : A.pTo = t
  st : A.strokes = n
  pl : A.planned = n
  eq : ∃ s m, B = A.set A.room s m 0 0 0
theorem Tw.powA {A B : St} {f t : Int} {n : Nat} (h : Tw A B f t n) : A.power = 0 := by unfold St.power; rw [h.pOff, if_neg (by omega)]
theorem set_pow (A : St) (r s m : Nat) (b c : Int) : (A.set r s m 0 b c).power = 0 := by
  unfold St.power; exact if_neg (by show ¬ ((m + 1 : Nat) : Int) = 0; omega)
theorem Tw.crash {A B : St} {f t : Int} {n : Nat} (h : Tw A B f t n) (ps : List Int) : B.crash ps = A.crash ps := by
  obtain ⟨s, m, e⟩ := h.eq; rw [e]; rfl
theorem Tw.image {A B : St} {f t : Int} {n : Nat} (h : Tw A B f t n) : B.image = A.image := by
  obtain ⟨s, m, e⟩ := h.eq; rw [e]; unfold St.image; rw [h.off]; rfl
theorem Tw.used {A B : St} {f t : Int} {n : Nat} (h : Tw A B f t n) : B.used = A.used := by
  obtain ⟨s, m, e⟩ := h.eq; rw [e]; rfl
theorem Tw.turned {A B : St} {f t : Int} {n : Nat} (h : Tw A B f t n) (p : Opx) (hk : 1 ≤ p.kind ∧ p.kind ≤ 6) {B' : St} (he : ∃ s m, B' = (A.play p).2.set (A.play p).2.room s m 0 0 0) : Tw (A.play p).2 B' f t (n + cnt (A.play p).1) := by
  have e := play_set A p h.off h.powA hk
  exact ⟨by rw [e]; rfl, by rw [e]; exact h.pOff, by rw [e]; exact h.pFrom, by rw [e]; exact h.pTo, by rw [e, ← h.st]; rfl, by rw [e, ← h.pl]; rfl, he⟩
/-- Refused: at a stroke of the plan, and nothing has changed. -/
theorem Tw.full {A B : St} {f t : Int} {n : Nat} (h : Tw A B f t n) (p : Opx) (k1 : p.kind = 1) (hu : A.used + p.b.length ≤ A.room) (e44 : (A.play p).1 = 44) :
    f ≤ (n + 1 : Nat) ∧ ((n + 1 : Nat) : Int) ≤ t ∧ Tw (A.play p).2 B f t (n + 1) ∧ (∀ ps, (A.play p).2.crash ps = A.crash ps) ∧ (A.play p).2.used = A.used := by
  have e := stroked_set h.off h.powA
  have hA : A.play p = A.appendR p.name p.b := by unfold St.play; rw [if_pos k1]
  have hk : 1 ≤ p.kind ∧ p.kind ≤ 6 := by omega
  have key : A.stroked.full p.b.length = true ∧ (A.play p).2 = A.stroked := by
    rw [hA] at e44 ⊢
    unfold St.appendR at e44 ⊢
    rw [h.powA, h.off] at *
    simp only [Bool.false_eq_true, if_false] at e44 ⊢
    split at e44
    · cases e44
    · rename_i c1
      rw [if_neg c1]
      split at e44
      · rename_i c2
        rw [if_pos c2]; exact ⟨c2, rfl⟩
      · split at e44 <;> cases e44
  have hfull := key.1
  rw [e] at hfull
  unfold St.full St.fullP at hfull
  have hr : ¬ A.room < p.b.length + A.used := by omega
  have hd : decide ((A.set A.room (A.strokes + 1) (A.planned + 1) A.pOff A.pFrom A.pTo).room < p.b.length + (A.set A.room (A.strokes + 1) (A.planned + 1) A.pOff A.pFrom A.pTo).used) = false := decide_eq_false hr
  rw [hd, Bool.or_false] at hfull
  have hfull2 : (decide (1 ≤ A.pFrom) && decide (A.pFrom ≤ ((A.planned + 1 : Nat) : Int)) && decide (((A.planned + 1 : Nat) : Int) ≤ A.pTo)) = true := hfull
  simp only [Bool.and_eq_true, decide_eq_true_eq] at hfull2
  rw [h.pFrom, h.pTo, h.pl] at hfull2
  have ht := h.turned p hk (B' := B) (by
    rw [key.2, e]
    obtain ⟨s, m, eb⟩ := h.eq
    exact ⟨s, m, eb⟩)
  rw [e44] at ht
  refine ⟨hfull2.1.2, hfull2.2, ht, fun ps => ?_, ?_⟩
  · rw [key.2, e]; rfl
  · rw [key.2, e]; rfl
/-- Else: both answer alike. -/
theorem Tw.step {A B : St} {f t : Int} {n : Nat} (h : Tw A B f t n) (hf1 : 1 ≤ f) (p : Opx) (hk : 1 ≤ p.kind ∧ p.kind ≤ 6) (hn : ¬ (p.kind = 1 ∧ (A.play p).1 = 44)) :
    (p.kind = 1 → (A.play p).1 = 0 → ¬ (f ≤ ((n + 1 : Nat) : Int) ∧ ((n + 1 : Nat) : Int) ≤ t)) ∧ (B.play p).1 = (A.play p).1 ∧ Tw (A.play p).2 (B.play p).2 f t (n + cnt (A.play p).1) := by
  have e := stroked_set h.off h.powA
  obtain ⟨s, m, eb⟩ := h.eq
  have hfl : p.kind = 1 → ¬ (isNm p.name = false ∨ (lookN A.seen p.name = none ∧ 64 ≤ A.seen.length)) → A.stroked.full p.b.length = false := fun k1 c1 => by
    cases c2 : A.stroked.full p.b.length with
    | false => rfl
    | true =>
      refine absurd ⟨k1, ?_⟩ hn
      unfold St.play
      rw [if_pos k1]
      unfold St.appendR
      rw [h.off]
      simp only [Bool.false_eq_true, if_false]
      rw [if_neg c1, if_pos c2, h.powA, if_pos rfl]
  have hal := play_alike A A.room s m 0 0 0 p h.off h.powA (set_pow _ _ _ _ _ _) hk (fun k1 c1 => by
    have h2 := hfl k1 c1
    rw [h2]
    rw [e] at h2
    rw [stroked_set rfl (set_pow _ _ _ _ _ _)]
    unfold St.full at h2 ⊢
    simp only [Bool.or_eq_false_iff, decide_eq_false_iff_not] at h2 ⊢
    refine ⟨?_, h2.2⟩
    unfold St.fullP
    rfl)
  rw [← eb] at hal
  refine ⟨fun k1 e0 hc => ?_, by rw [hal], h.turned p hk ⟨_, _, by rw [hal]; rw [show (A.play p).2.room = A.room by rw [play_set A p h.off h.powA hk]; rfl]⟩⟩
  have c1 : ¬ (isNm p.name = false ∨ (lookN A.seen p.name = none ∧ 64 ≤ A.seen.length)) := fun c1 => by
    unfold St.play at e0
    rw [if_pos k1] at e0
    unfold St.appendR at e0
    rw [h.off] at e0
    simp only [Bool.false_eq_true, if_false] at e0
    rw [if_pos c1] at e0
    cases e0
  have h2 := hfl k1 c1
  rw [e] at h2
  unfold St.full St.fullP at h2
  simp only [Bool.or_eq_false_iff, Bool.and_eq_false_iff, decide_eq_false_iff_not] at h2
  have h3 : (¬ 1 ≤ A.pFrom ∨ ¬ A.pFrom ≤ ((A.planned + 1 : Nat) : Int)) ∨ ¬ ((A.planned + 1 : Nat) : Int) ≤ A.pTo := h2.1
  rw [h.pFrom, h.pTo, h.pl] at h3
  omega
theorem tw_new (r : Nat) (f t : Int) : Tw ((St.new r).planR 0 f t) (St.new r) f t 0 := ⟨rfl, rfl, rfl, rfl, rfl, rfl, 0, 0, rfl⟩

end Go.Proofs.YtlmfohcdaahojabGreatDoor
namespace Go.Proofs.YtlmfohcdaahojabGreatDoor
open Go.RowKit Go.Maps

/-- Behind S0, where all was made safe, there were appends alone. -/
structure Ad (S0 S : St) : Prop where
  free : Free S
  safe : S.safe = S0.seen
  byt : ∀ p ∈ S.seen, ∃ xs, (S.file p.2).units = bus xs
  old : ∀ p ∈ S0.seen, p ∈ S.seen ∧ (S.file p.2).safe = (S0.file p.2).all
  mono : ∀ j, j ≤ S.chg.length → (∀ p ∈ (S.chg.take j).foldl withN S.safe, p ∈ S.seen) ∧ (∀ p ∈ S.safe, p ∈ (S.chg.take j).foldl withN S.safe)
theorem Ad.stroked {S0 S : St} (h : Ad S0 S) : Ad S0 S.stroked := ⟨h.free.stroked, h.safe, h.byt, h.old, h.mono⟩
theorem Ad.append {S0 S : St} (h : Ad S0 S) (hv : Inv S) (x : Nm) (b : List Nat) : Ad S0 (S.appendR x b).2 := by
  unfold St.appendR
  split
  · exact h
  split
  · exact h
  rename_i hn
  split
  · exact h.stroked
  have hnm : isNm x = true := by
    cases h : isNm x
    · exact absurd (Or.inl h) hn
    · rfl
  have hs := h.stroked
  have hvs := hv.stroked
  cases hl : lookN S.seen x with
  | some i =>
    have hi := S.seen_file hv hl
    refine ⟨⟨hs.free.off, hs.free.pOff, hs.free.pFrom⟩, hs.safe, fun p hp => ?_, fun p hp => ⟨(hs.old p hp).1, ?_⟩, hs.mono⟩
    · show ∃ xs, ((S.stroked.turn i ((S.file i).add b)).file p.2).units = bus xs
      rw [St.turn_file (S := S.stroked) hi]
      split
      · obtain ⟨xs, e⟩ := h.byt (x, i) ((look_mem hv.srt).1 hl)
        exact ⟨xs ++ b, by show (S.file i).units ++ bus b = _; rw [show (S.file i).units = bus xs from e]; simp [bus]⟩
      · exact h.byt p hp
    · show ((S.stroked.turn i ((S.file i).add b)).file p.2).safe = _
      rw [St.turn_file (S := S.stroked) hi]
      split
      · rename_i e
        rw [← e]; exact (h.old p hp).2
      · exact (h.old p hp).2
  | none =>
    have hx0 : x ≠ [] := by rintro rfl; have := (nm_len hnm).1; simp at this
    have hne : ∀ p ∈ S.seen, p.1 ≠ [] := fun p hp e => by have := (nm_len (hv.ins p hp).2).1; rw [e] at this; simp at this
    have e : withN S.seen ⟨[], x, S.files.length⟩ = insN (x, S.files.length) S.seen := by
      unfold withN putN
      rw [if_neg hx0, del_none hne, del_none (look_none.1 hl)]
    have hin : ∀ p ∈ S.seen, p ∈ withN S.seen ⟨[], x, S.files.length⟩ := fun p hp => by rw [e]; exact mem_ins.2 (Or.inr hp)
    have hfl : ∀ p : Nm × Nat, (((S.stroked.made ⟨[], []⟩).ren ⟨[], x, S.files.length⟩).turn S.files.length ((⟨[], []⟩ : Fil).add b)).file p.2 = if p.2 = S.files.length then (⟨[], []⟩ : Fil).add b else (S.stroked.made ⟨[], []⟩).file p.2 := fun p =>
      St.turn_file (S := (S.stroked.made ⟨[], []⟩).ren ⟨[], x, S.files.length⟩) (by show S.files.length < (S.files ++ [_]).length; simp) p.2
    refine ⟨⟨hs.free.off, hs.free.pOff, hs.free.pFrom⟩, hs.safe, fun p hp => ?_, fun p hp => ⟨hin p (h.old p hp).1, ?_⟩, fun j hj => ?_⟩
    · rw [hfl]
      split
      · exact ⟨b, by show [] ++ bus b = _; simp⟩
      · rename_i hne2
        have hp2 : p ∈ insN (x, S.files.length) S.seen := by rw [← e]; exact hp
        rcases mem_ins.1 hp2 with e2 | hp3
        · exact absurd (by rw [e2]) hne2
        · rw [made_file (S := S.stroked) (hv.ins p hp3).1]; exact h.byt p hp3
    · rw [hfl]
      have hlt := (hv.ins p (h.old p hp).1).1
      rw [if_neg (by omega), made_file (S := S.stroked) hlt]
      exact (h.old p hp).2
    · have hj2 : j ≤ S.chg.length + 1 := by
        have : (S.chg ++ [(⟨[], x, S.files.length⟩ : Chg)]).length = S.chg.length + 1 := by simp
        exact this ▸ hj
      show (∀ p ∈ ((S.chg ++ [(⟨[], x, S.files.length⟩ : Chg)]).take j).foldl withN S.safe, p ∈ withN S.seen ⟨[], x, S.files.length⟩) ∧ (∀ p ∈ S.safe, p ∈ ((S.chg ++ [(⟨[], x, S.files.length⟩ : Chg)]).take j).foldl withN S.safe)
      by_cases hjl : j ≤ S.chg.length
      · rw [List.take_append_of_le_length hjl]
        exact ⟨fun p hp => hin p ((h.mono j hjl).1 p hp), (h.mono j hjl).2⟩
      · have hj3 : j = S.chg.length + 1 := by omega
        subst hj3
        rw [List.take_of_length_le (by simp), List.foldl_append]
        have hf : S.chg.foldl withN S.safe = S.seen := hv.fold.symm
        rw [hf]
        refine ⟨fun p hp => hp, fun p hp => hin p ?_⟩
        have := (h.mono S.chg.length (Nat.le_refl _)).2 p hp
        rw [List.take_of_length_le (Nat.le_refl _), hf] at this
        exact this

/-- Bytes alone: what is left is a beginning. -/
theorem left_bus {f : Fil} {xs : List Nat} (h : f.units = bus xs) (n : Nat) : f.left n = f.safe ++ xs.take n ∧ f.all = f.safe ++ xs := by
  unfold Fil.left Fil.all
  rw [h]
  refine ⟨?_, carry_bus _ _⟩
  rw [show (bus xs).take n = bus (xs.take n) by simp [bus, List.map_take], carry_bus]
theorem pick_nil (i n : Nat) : pickP [] i n = 0 := rfl
/-- With no picks just what was safe. -/
theorem Ad.none {S0 S : St} (h : Ad S0 S) (h0 : S0.off = false) : S.crash [] = S0.image := by
  unfold St.crash St.leftN St.image
  simp only [pick_nil, List.take_zero, List.foldl_nil]
  rw [h.safe, h0]
  simp only [Bool.false_eq_true, if_false]
  rw [List.mapIdx_eq_zipIdx_map]
  refine List.ext_getElem? fun i => ?_
  simp only [List.getElem?_map, List.getElem?_zipIdx]
  cases hp : S0.seen[i]? with
  | none => rfl
  | some p =>
    simp only [Option.map_some]
    have := (h.old p (List.mem_of_getElem? hp)).2
    unfold Fil.left
    simp only [List.take_zero]
    show some (p.1, carryL (S.file p.2).safe []) = _
    rw [show carryL (S.file p.2).safe [] = (S.file p.2).safe from rfl, this]

theorem srt_before {l : List (Nm × Nat)} (h : Srt l) {i k : Nat} {p q : Nm × Nat} (hi : l[i]? = some p) (hk : l[k]? = some q) (hlt : i < k) : p.1 ≠ q.1 := by
  obtain ⟨h1, e1⟩ := List.getElem?_eq_some_iff.1 hi
  obtain ⟨h2, e2⟩ := List.getElem?_eq_some_iff.1 hk
  have := List.pairwise_iff_getElem.1 h.nodup i k h1 h2 hlt
  rw [e1, e2] at this
  exact this
theorem crash_find {S : St} (hv : Inv S) (ps : List Int) {k : Nat} {p : Nm × Nat} (hp : (S.leftN ps)[k]? = some p) : imgFind (S.crash ps) p.1 = some ((S.file p.2).left (pickP ps (k + 1) (S.file p.2).units.length)) := by
  refine imgFind_some (k := k) (crash_at hp) rfl (fun q hq => ?_)
  obtain ⟨i, hi⟩ := List.getElem?_of_mem hq
  have hik : i < k := by
    have h1 := (List.getElem?_eq_some_iff.1 hi).1
    rw [List.length_take] at h1
    omega
  rw [List.getElem?_take_of_lt hik] at hi
  cases hl : (S.leftN ps)[i]? with
  | none =>
    have h2 := List.getElem?_eq_none_iff.1 hl
    have h3 := (List.getElem?_eq_some_iff.1 hi).1
    rw [crash_len] at h3
    omega
  | some r =>
    rw [crash_at hl] at hi
    have e : q.1 = r.1 := by rw [← Option.some.inj hi]
    rw [e]
    exact srt_before (left_srt hv ps) hl hp hik
/-- What was safe is there, and what is there begins with it. -/
theorem Ad.was {S0 S : St} (h : Ad S0 S) (hv : Inv S) (ps : List Int) {p : Nm × Nat} (hp : p ∈ S0.seen) : ∃ t, imgFind (S.crash ps) p.1 = some ((S0.file p.2).all ++ t) := by
  have hm := (h.mono _ (pick_le ps 0 S.chg.length)).2 p (by rw [h.safe]; exact hp)
  obtain ⟨k, hk⟩ := List.getElem?_of_mem hm
  have hf := crash_find hv ps hk
  obtain ⟨hs, ho⟩ := h.old p hp
  obtain ⟨xs, hx⟩ := h.byt p hs
  rw [(left_bus hx _).1, ho] at hf
  exact ⟨_, hf⟩
/-- What is there is seen, and begins what is seen. -/
theorem Ad.now {S0 S : St} (h : Ad S0 S) (hv : Inv S) (ps : List Int) {k : Nat} {e : Nm × List Nat} (he : (S.crash ps)[k]? = some e) : ∃ t, imgFind S.image e.1 = some (e.2 ++ t) := by
  cases hl : (S.leftN ps)[k]? with
  | none =>
    have h2 := List.getElem?_eq_none_iff.1 hl
    have h3 := (List.getElem?_eq_some_iff.1 he).1
    rw [crash_len] at h3
    omega
  | some p =>
    rw [crash_at hl] at he
    have hs := (h.mono _ (pick_le ps 0 S.chg.length)).1 p (List.mem_of_getElem? hl)
    obtain ⟨xs, hx⟩ := h.byt p hs
    have e1 := Option.some.inj he
    subst e1
    refine ⟨xs.drop (pickP ps (k + 1) (S.file p.2).units.length), ?_⟩
    rw [image_find h.free.off, (look_mem hv.srt).2 hs]
    show some (S.file p.2).all = _
    rw [(left_bus hx 0).2, (left_bus hx _).1, List.append_assoc, List.take_append_drop]
theorem pick_all {n i m : Nat} (h : i < n) : pickP (List.replicate n (-1)) i m = m := by
  unfold pickP
  rw [List.getElem?_replicate, if_pos h]
  simp only
  have : (-1 : Int) % ((m + 1 : Nat) : Int) = (m : Int) := by
    rw [← Int.add_emod_right, Int.emod_eq_of_lt (by omega) (by omega)]; omega
  rw [this]; omega
/-- With all picks as great as can be all that is seen. -/
theorem crash_all {S : St} (hv : Inv S) (ho : S.off = false) {n : Nat} (hn : n = S.seen.length) : S.crash (List.replicate (n + 1) (-1)) = S.image := by
  have hl : S.leftN (List.replicate (n + 1) (-1)) = S.seen := by
    unfold St.leftN
    rw [pick_all (by omega), List.take_of_length_le (Nat.le_refl _)]
    exact hv.fold.symm
  unfold St.crash St.image
  rw [hl, ho]
  simp only [Bool.false_eq_true, if_false]
  refine List.ext_getElem? fun i => ?_
  rw [List.getElem?_mapIdx, List.getElem?_map]
  cases hp : S.seen[i]? with
  | none => rfl
  | some p =>
    have hi := (List.getElem?_eq_some_iff.1 hp).1
    simp only [Option.map_some]
    rw [pick_all (by omega)]
    unfold Fil.left Fil.all
    rw [List.take_of_length_le (Nat.le_refl _)]
/-- All is safe. -/
structure Sf (S : St) : Prop where
  free : Free S
  chg : S.chg = []
  safe : S.safe = S.seen
  units : ∀ p ∈ S.seen, (S.file p.2).units = []
theorem Sf.ad {S : St} (h : Sf S) : Ad S S :=
  ⟨h.free, h.safe, fun p hp => ⟨[], h.units p hp⟩, fun p hp => ⟨hp, by unfold Fil.all; rw [h.units p hp]; rfl⟩, fun j _ => by
    rw [h.chg, h.safe]; simp⟩

end Go.Proofs.YtlmfohcdaahojabGreatDoor
namespace Go.Proofs.YtlmfohcdaahojabGreatDoor
open Go.RowKit Go.Maps

/-! How many bytes lie in all files together, the units too -/
def Fil.siz (f : Fil) : Nat := f.safe.length + f.units.length
def St.tot (S : St) : Nat := (S.files.map Fil.siz).sum
theorem sum_set : ∀ (l : List Nat) (i x : Nat), i < l.length → (l.set i x).sum + l.getD i 0 = l.sum + x
  | [], i, x, h => by simp at h
  | a :: l, 0, x, _ => by simp; omega
  | a :: l, i + 1, x, h => by
    have ih := sum_set l i x (by simpa using h)
    simp only [List.set_cons_succ, List.sum_cons, List.getD_cons_succ]
    omega
theorem sum_some : ∀ (is : List Nat) (l : List Nat), is.Nodup → (∀ i ∈ is, i < l.length) → (is.map fun i => l.getD i 0).sum ≤ l.sum
  | [], l, _, _ => by simp
  | i :: is, l, hn, hi => by
    obtain ⟨n1, n2⟩ := List.nodup_cons.1 hn
    have ih := sum_some is (l.set i 0) n2 (fun j hj => by simpa using hi j (List.mem_cons_of_mem _ hj))
    have e : (is.map fun j => (l.set i 0).getD j 0) = is.map fun j => l.getD j 0 := List.map_congr_left fun j hj => by
      have hne : i ≠ j := fun e => n1 (by rw [e]; exact hj)
      simp [List.getD, List.getElem?_set_ne hne]
    rw [e] at ih
    have h := sum_set l i 0 (hi i (List.mem_cons_self ..))
    rw [List.map_cons, List.sum_cons]
    omega
theorem tot_turn {S : St} {i : Nat} (hi : i < S.files.length) (f : Fil) : (S.turn i f).tot + (S.file i).siz = S.tot + f.siz := by
  have h := sum_set (S.files.map Fil.siz) i f.siz (by simpa using hi)
  have e : (S.files.map Fil.siz).getD i 0 = (S.file i).siz := by simp [List.getD, St.file_some hi]
  rw [e] at h
  unfold St.tot St.turn
  rw [List.map_set]
  exact h
theorem tot_made (S : St) (f : Fil) : (S.made f).tot = S.tot + f.siz := by simp [St.tot, St.made]
theorem siz_add (f : Fil) (b : List Nat) : (f.add b).siz = f.siz + b.length := by unfold Fil.siz Fil.add bus; simp; omega
theorem siz_cut (f : Fil) (n : Nat) : (f.cut n).siz ≤ f.siz + 1 := by unfold Fil.siz Fil.cut; split <;> simp <;> omega
theorem siz_settled (f : Fil) : f.settled.siz ≤ f.siz := by
  have := carry_len f.safe f.units
  unfold Fil.siz Fil.settled Fil.all
  simpa using this

theorem tot_append {S : St} (hv : Inv S) (x : Nm) (b : List Nat) : (S.appendR x b).2.tot ≤ S.tot + b.length + 1 := by
  unfold St.appendR
  split
  · show S.tot ≤ _; omega
  split
  · show S.tot ≤ _; omega
  split
  · show S.tot ≤ _; omega
  split
  · rename_i i hl
    have h := tot_turn (S := S.stroked) (St.seen_file hv hl) ((S.file i).add b)
    rw [siz_add, file_stroked] at h
    have e : S.stroked.tot = S.tot := rfl
    show (S.stroked.turn i ((S.file i).add b)).tot ≤ _
    omega
  · have h := tot_turn (S := (S.stroked.made ⟨[], []⟩).ren ⟨[], x, S.files.length⟩) (i := S.files.length) (by show S.files.length < (S.files ++ [_]).length; simp) ((⟨[], []⟩ : Fil).add b)
    have e2 : ((S.stroked.made ⟨[], []⟩).ren ⟨[], x, S.files.length⟩).tot = S.tot + 0 := tot_made S.stroked ⟨[], []⟩
    have e3 : (⟨[], []⟩ : Fil).siz = 0 := rfl
    rw [siz_add] at h
    show (((S.stroked.made ⟨[], []⟩).ren ⟨[], x, S.files.length⟩).turn S.files.length ((⟨[], []⟩ : Fil).add b)).tot ≤ _
    omega
theorem tot_play {S : St} (hv : Inv S) (p : Opx) : (S.play p).2.tot ≤ S.tot + p.b.length + 1 := by
  unfold St.play
  split
  · exact tot_append hv _ _
  split
  · unfold St.cutR
    split
    · show S.tot ≤ _; omega
    rename_i he
    simp only
    split
    · show S.tot ≤ _; omega
    · have hi := St.seen_file hv (look_get (by simpa using he))
      have h := tot_turn (S := S.stroked) hi ((S.file ((lookN S.seen p.name).getD 0)).cut p.n.toNat)
      have h2 := siz_cut (S.file ((lookN S.seen p.name).getD 0)) p.n.toNat
      rw [file_stroked] at h
      have e : S.stroked.tot = S.tot := rfl
      show (S.stroked.turn _ _).tot ≤ _
      omega
  split
  · unfold St.syncR
    split
    · show S.tot ≤ _; omega
    rename_i he
    simp only
    split
    · have hi := St.seen_file hv (look_get (by simpa using he))
      have h := tot_turn (S := S.stroked) hi (S.file ((lookN S.seen p.name).getD 0)).settled
      have h2 := siz_settled (S.file ((lookN S.seen p.name).getD 0))
      rw [file_stroked] at h
      have e : S.stroked.tot = S.tot := rfl
      show (S.stroked.turn _ _).tot ≤ _
      omega
    · show S.tot ≤ _; omega
  split
  · unfold St.namesR
    split
    · show S.tot ≤ _; omega
    simp only
    split
    · show S.tot ≤ _; omega
    · show S.tot ≤ _; omega
  split
  · unfold St.renameR
    split
    · show S.tot ≤ _; omega
    split
    · show S.tot ≤ _; omega
    simp only
    split
    · show S.tot ≤ _; omega
    · show S.tot ≤ _; omega
  split
  · unfold St.removeR
    split
    · show S.tot ≤ _; omega
    · show S.tot ≤ _; omega
  · show S.tot ≤ _; omega

/-! What names there have been since they were safe -/
structure Past (S : St) : Prop where
  nod : ∀ k, (((S.chg.take k).foldl withN S.safe).map (·.2)).Nodup
  most : ∀ k, ((S.chg.take k).foldl withN S.safe).length ≤ 64
def Nexts (S S' : St) : Prop := (S'.safe = S.safe ∧ (S'.chg = S.chg ∨ ∃ c, S'.chg = S.chg ++ [c])) ∨ S'.chg = []
theorem past_new (r : Nat) : Past (St.new r) := ⟨fun k => by simp [St.new], fun k => by simp [St.new]⟩
theorem Past.next {S S' : St} (h : Past S) (hv : Inv S') (hn : Nexts S S') : Past S' := by
  have key : ∀ k, (S'.chg.take k).foldl withN S'.safe = S'.seen ∨ ∃ k', (S'.chg.take k).foldl withN S'.safe = (S.chg.take k').foldl withN S.safe := by
    intro k
    rcases hn with ⟨e1, e2 | ⟨c, e2⟩⟩ | e
    · exact Or.inr ⟨k, by rw [e1, e2]⟩
    · by_cases hk : k ≤ S.chg.length
      · refine Or.inr ⟨k, ?_⟩
        rw [e1, e2, List.take_append_of_le_length hk]
      · refine Or.inl ?_
        rw [List.take_of_length_le (by rw [e2]; simp; omega)]
        exact hv.fold.symm
    · refine Or.inl ?_
      have := hv.fold
      rw [e] at this ⊢
      simpa using this.symm
  refine ⟨fun k => ?_, fun k => ?_⟩
  · rcases key k with e | ⟨k', e⟩
    · rw [e]; exact hv.nod
    · rw [e]; exact h.nod k'
  · rcases key k with e | ⟨k', e⟩
    · rw [e]; exact hv.most
    · rw [e]; exact h.most k'
theorem nexts_self (S : St) : Nexts S S := Or.inl ⟨rfl, Or.inl rfl⟩
theorem nexts_play (S : St) (p : Opx) : Nexts S (S.play p).2 := by
  unfold St.play
  split
  · unfold St.appendR
    split
    · exact nexts_self S
    split
    · exact nexts_self S
    split
    · exact Or.inl ⟨rfl, Or.inl rfl⟩
    split
    · exact Or.inl ⟨rfl, Or.inl rfl⟩
    · exact Or.inl ⟨rfl, Or.inr ⟨_, rfl⟩⟩
  split
  · unfold St.cutR
    split
    · exact nexts_self S
    simp only
    split
    · exact nexts_self S
    · exact Or.inl ⟨rfl, Or.inl rfl⟩
  split
  · unfold St.syncR
    split
    · exact nexts_self S
    simp only
    split
    · exact Or.inl ⟨rfl, Or.inl rfl⟩
    · exact Or.inl ⟨rfl, Or.inl rfl⟩
  split
  · unfold St.namesR
    split
    · exact nexts_self S
    simp only
    split
    · exact Or.inr rfl
    · exact Or.inl ⟨rfl, Or.inl rfl⟩
  split
  · unfold St.renameR
    split
    · exact nexts_self S
    split
    · exact nexts_self S
    simp only
    split
    · exact Or.inl ⟨rfl, Or.inl rfl⟩
    · exact Or.inl ⟨rfl, Or.inr ⟨_, rfl⟩⟩
  split
  · unfold St.removeR
    split
    · exact nexts_self S
    · exact Or.inl ⟨rfl, Or.inr ⟨_, rfl⟩⟩
  · exact nexts_self S

theorem crash_tot {S : St} (hv : Inv S) (hp : Past S) (ps : List Int) : ((S.crash ps).map fun p => p.2.length).sum ≤ S.tot := by
  have h1 := sum_some ((S.leftN ps).map (·.2)) (S.files.map Fil.siz) (hp.nod _) (fun i hi => by
    obtain ⟨p, hp, rfl⟩ := List.mem_map.1 hi
    simpa using (left_in hv ps p hp).1)
  have h2 : ∀ (l : List (Nm × Nat)) (g : Nat → Nm × Nat → Nm × List Nat) (s : Nm × Nat → Nat), (∀ i p, (g i p).2.length ≤ s p) → ((l.mapIdx g).map fun p => p.2.length).sum ≤ (l.map s).sum := by
    intro l
    induction l with
    | nil => intros; simp
    | cons a l ih =>
      intro g s hg
      have := ih (fun i => g (i + 1)) s (fun i p => hg (i + 1) p)
      have h0 := hg 0 a
      simp only [List.mapIdx_cons, List.map_cons, List.sum_cons]
      omega
  have h3 := h2 (S.leftN ps) (fun i p => (p.1, (S.file p.2).left (pickP ps (i + 1) (S.file p.2).units.length))) (fun p => (S.file p.2).siz) (fun i p => left_length _ _)
  refine Nat.le_trans h3 (Nat.le_trans (Nat.le_of_eq ?_) h1)
  rw [List.map_map]
  refine congrArg List.sum (List.map_congr_left fun p hp => ?_)
  have hl := (left_in hv ps p hp).1
  simp [List.getD, St.file_some hl]

/-! A disk that was loaded -/
def imgN (img : List (Nm × List Nat)) : List (Nm × Nat) := img.mapIdx fun i p => (p.1, i)
def St.laid (r : Nat) (img : List (Nm × List Nat)) : St := ⟨r, 0, 0, 0, 0, 0, false, imgN img, imgN img, [], img.map fun p => ⟨p.2, []⟩⟩
theorem laid_file (r : Nat) (img : List (Nm × List Nat)) {i : Nat} {p : Nm × List Nat} (h : img[i]? = some p) : (St.laid r img).file i = ⟨p.2, []⟩ := by
  unfold St.file St.laid
  simp [h]
theorem laid_image (r : Nat) (img : List (Nm × List Nat)) : (St.laid r img).image = img := by
  unfold St.image
  show (imgN img).map _ = _
  refine List.ext_getElem? fun i => ?_
  simp only [imgN, List.getElem?_map, List.getElem?_mapIdx]
  cases h : img[i]? with
  | none => rfl
  | some p =>
    simp only [Option.map_some]
    rw [laid_file r img h]
    rfl
theorem laid_crash (r : Nat) (img : List (Nm × List Nat)) (ps : List Int) : (St.laid r img).crash ps = img := by
  unfold St.crash St.leftN
  show List.mapIdx _ ((([] : List Chg).take _).foldl withN (imgN img)) = _
  refine List.ext_getElem? fun i => ?_
  simp only [List.take_nil, List.foldl_nil, imgN, List.getElem?_mapIdx]
  cases h : img[i]? with
  | none => rfl
  | some p =>
    simp only [Option.map_some]
    rw [laid_file r img h]
    simp [Fil.left, carryL]

end Go.Proofs.YtlmfohcdaahojabGreatDoor
