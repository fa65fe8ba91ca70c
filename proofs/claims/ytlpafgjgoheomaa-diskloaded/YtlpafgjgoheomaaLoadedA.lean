import Derived.Test.YtlpafgjgoheomaaLoadC
import Derived.Test.YtlpafgjgoheomaaSafeM
namespace Go.Proofs.Ytlpafgjgoheomaa
open Go.RowKit Go.Maps Go.WideAt Go.WideShapes

/-- What came in, and the call's box. -/
structure Lb (W w : World) (bx : Obj) : Prop where
  bel : Below W.heap.size W w
  box : w.heap[W.heap.size]? = some bx
theorem Lb.below {W w w' : World} {bx : Obj} (h : Lb W w bx) (hb : Below w.heap.size w w') : Lb W w' bx := ⟨h.bel.trans (hb.mono h.bel.size), (hb.block _ (lt_of_block h.box)).trans h.box⟩
theorem Lb.drewN {W w : World} {bx : Obj} (h : Lb W w bx) (n : Nat) : Lb W (w.drewN n) bx := h.below (below_drewN (Below.refl _ w) n)
theorem Lb.kept {W w w' : World} {K K' : Knd} {bx : Obj} (h : Lb W w bx) (hk : Kp (Ow 2) K K' w w') (hK : ∀ b, b < W.heap.size + 1 → K b = (0, 0)) : Lb W w' bx :=
  ⟨hk.below h.bel (fun b hb => by rw [hK b (by omega)]; simp), (hk.block _ (lt_of_block h.box) (by rw [hK _ (by omega)]; simp)).trans h.box⟩

theorem sum_bound {img : Image} {C : Nat} (hs : ∀ q ∈ img, q.2.length ≤ C) : ∀ k, sumI (img.take k) ≤ C * k
  | 0 => by simp [sumI]
  | k + 1 => by
    have ih := sum_bound hs k
    cases hk : img[k]? with
    | none =>
      have : img.length ≤ k := List.getElem?_eq_none_iff.1 hk
      rw [List.take_of_length_le this] at ih
      rw [List.take_of_length_le (by omega), Nat.mul_succ]
      omega
    | some q =>
      rw [take_snoc' img k q hk, sumI_snoc, Nat.mul_succ]
      have := hs q (List.mem_of_getElem? hk)
      omega
theorem wrap_plus {a b : Nat} (h : a + b ≤ 9223372036854775807) : IntKind.i64.wrap ((a : Int) + (b : Int)) = ((a + b : Nat) : Int) := by
  rw [IntKind.wrap_i64]
  omega
theorem sum_step {img : Image} {j : Nat} {p : Nm × List Nat} (hp : img[j]? = some p) {s : Int} (hs : ∀ q ∈ img, q.2.length ≤ 140737488351232) (h : j ≤ 64 → s = (sumI (img.take j) : Int)) : j + 1 ≤ 64 → IntKind.i64.wrap (s + (p.2.length : Int)) = (sumI (img.take (j + 1)) : Int) := by
  intro hj
  have h1 := h (by omega)
  have h2 := sum_bound hs (j + 1)
  have e : sumI (img.take (j + 1)) = sumI (img.take j) + p.2.length := by rw [take_snoc' img j p hp, sumI_snoc]
  rw [e] at h2 ⊢
  generalize sumI (img.take j) = a at *
  generalize p.2.length = b at *
  rw [h1]
  exact wrap_plus (by omega)
theorem last_at {img : Image} {i : Nat} {p : Nm × List Nat} (hp : img[i]? = some p) : lastN (img.take (i + 1)) = p.1 := by rw [take_snoc' img i p hp, lastN_snoc]
theorem chn_first {p : Nm × List Nat} : bytesBefore [] p.1 = true ∨ isNm p.1 = false := by
  cases h : isNm p.1 with
  | false => exact Or.inr rfl
  | true =>
    left
    cases hq : p.1 with
    | nil => rw [hq] at h; exact absurd rfl (nm_ne h)
    | cons a l => rfl

set_option maxRecDepth 100000 in
set_option maxHeartbeats 4000000 in
theorem loaded_all (W : World) (sp : Option Addr) (n cap : Nat) (img : Image) (hnl : img.length = n) (hn : n ≤ 3518437208784) (hI : Imi W sp img) (z : Int) (hz : -9223372036854775808 ≤ z ∧ z ≤ 9223372036854775807)
    (pp : Option Addr) (pm pc : Nat) (ps : List Int) (hpm : ps.length = pm) (hpl : pm ≤ 140737488355328) (hP : Ins W pp ps) :
    Calls Try.prog 3 #[.agg #[.slice sp n cap, .int .i64 z, .slice pp pm pc]] W fun e w' => e = .returned (.bool true) ∧ Below W.heap.size W w' := by
  have HI := hide hI
  have HN := hide hnl
  have HPm := hide hpm
  have HP := hide hP
  have HZ := hide hz
  have HSn := hide hI.small
  have HSm : Hid (∀ q ∈ img, q.2.length ≤ 140737488351232) := fun q hq => (hI.small q hq).1
  have HSb : Hid (∀ q ∈ img, ∀ x ∈ q.2, x < 256) := fun q hq => by
    obtain ⟨k, hk⟩ := List.getElem?_of_mem hq
    obtain ⟨_, _, _, _, _, _, _, _, hb⟩ := hI.at hk
    exact hb.small
  clear hI hnl hpm hP hz
  go_enter Try.func3, Try.ntmps3
  go_wp2
  have HL0 : Hid (Lb W (W.alloc (.cells #[.slice sp n cap, .int .i64 z, .slice pp pm pc] 25)) (.cells #[.slice sp n cap, .int .i64 z, .slice pp pm pc] 25 (0, 0))) := ⟨(Below.refl _ _).alloc (Nat.le_refl _) _, heap_alloc_new _ _⟩
  generalize W.alloc (.cells #[.slice sp n cap, .int .i64 z, .slice pp pm pc] 25) = w0 at *
  obtain ⟨x0, x1, x2, xf⟩ := blk3 HL0.out.box
  by_cases hz0 : 0 ≤ z
  · by_cases hz1 : z ≤ 16777216
    · obtain ⟨zn, rfl⟩ : ∃ zn : Nat, z = (zn : Int) := ⟨z.toNat, by omega⟩
      have hzn : zn ≤ 16777216 := by omega
      have hd0 : decide ((0 : Int) ≤ (zn : Int)) = true := by simp
      have hd1 : decide ((zn : Int) ≤ 16777216) = true := by simp; omega
      go_quiet (fail)
      go_wp2
      have HLx := hide (HL0.out.drewN nq)
      clear x0 x1 x2 xf HL0
      generalize w0.drewN nq = w9 at *
      go_loopw [3, 4, 6] (fun sv bv i wr => ∃ (j : Nat) (s : Int) (b : Bool) (q : Nat), j ≤ n ∧ i = .int .i64 j ∧ sv = .int .i64 s ∧ bv = .bool b ∧ Hid (wr = w9.drewN q) ∧ Hid (chn [] (img.take j) = b) ∧ Hid (j ≤ 64 → s = (sumI (img.take j) : Int))) (fun _ _ i _ => n - (intOf i).toNat)
      case atStart => exact ⟨0, 0, true, 0, Nat.zero_le _, rfl, rfl, rfl, rfl, rfl, fun _ => rfl⟩
      case round =>
        obtain ⟨j, s, b, q, hj, rfl, rfl, rfl, HW, HCh, HSs⟩ := hrel
        have HL : Hid (Lb W wr (.cells #[.slice sp n cap, .int .i64 (zn : Int), .slice pp pm pc] 25 (0, 0))) := by show Lb _ _ _; rw [HW.out]; exact HLx.out.drewN q
        obtain ⟨x0, x1, x2, xf⟩ := blk3 HL.out.box
        by_cases hlt : j < n
        · have i1 : (0 : Int) ≤ (j : Int) := by omega
          have i2 : (j : Int) < (n : Int) := by omega
          obtain ⟨p, hp⟩ : ∃ p, img[j]? = some p := ⟨_, List.getElem?_eq_getElem (by rw [HN.out]; exact hlt)⟩
          have HS0 := hide (sum_step hp HSm.out HSs.out)
          have HTk := hide (take_snoc' img j p hp)
          have HCs : Hid (chn [] (img.take (j + 1)) = (b && isNm p.1 && bytesBefore (lastN (img.take j)) p.1)) := by
            show _ = _
            rw [HTk.out, chn_snoc, HCh.out]
            rfl
          have HPv : Hid (∀ i, j = i + 1 → ∃ u, img[i]? = some u ∧ lastN (img.take j) = u.1) := fun i e => by
            obtain ⟨u, hu⟩ : ∃ u, img[i]? = some u := ⟨_, List.getElem?_eq_getElem (by rw [HN.out]; omega)⟩
            exact ⟨u, hu, by rw [e]; exact last_at hu⟩
          have HLw := hide (HI.out.below HL.out.bel)
          obtain ⟨g, o, ap, cp, rfl, hg, c0, c1, hby⟩ := HLw.out.at hp
          have HQ := hide (fun w => isName_any w p.1)
          have HFi := hide (chn_first (p := p))
          obtain ⟨pl, hpl⟩ : ∃ pl, p.2.length = pl := ⟨_, rfl⟩
          rw [hpl] at c1 HS0
          obtain ⟨s', hs'⟩ : ∃ s', IntKind.i64.wrap (s + (pl : Int)) = s' := ⟨_, rfl⟩
          have HS' : Hid (j + 1 ≤ 64 → s' = (sumI (img.take (j + 1)) : Int)) := by rw [← hs']; exact HS0.out
          clear hp hby x1 x2 hpl HS0
          cases b with
          | false =>
            go_wp2
            go_quiet (fail)
            go_wp2
            go_roundw
            case rel => exact ⟨j + 1, s', false, q + nq, by omega, by go_num, rfl, rfl, by show _ = _; rw [HW.out, World.drewN_drewN], hide (by rw [HCs.out]; rfl), HS'⟩
            case measure => simp [intOf]; omega
          | true =>
            cases hnm : isNm p.1 with
            | false =>
              rw [hnm] at HQ
              generalize hsp : (⟨p.1.toArray⟩ : ByteArray) = st at *
              clear hsp
              go_wp2
              go_quiet (first | (go_at_call 9; exact Calls.quiet_of_same (HQ.out _)))
              go_wp2
              go_roundw
              case rel => exact ⟨j + 1, s', false, q + nq, by omega, by go_num, rfl, rfl, by show _ = _; rw [HW.out, World.drewN_drewN], hide (by rw [HCs.out, hnm]; rfl), HS'⟩
              case measure => simp [intOf]; omega
            | true =>
              rw [hnm] at HQ
              by_cases hj0 : j = 0
              · subst hj0
                simp only [Nat.zero_mul, Nat.add_zero] at c0 c1
                generalize hsp : (⟨p.1.toArray⟩ : ByteArray) = st at *
                clear hsp
                go_wp2
                go_quiet (first | (go_at_call 9; exact Calls.quiet_of_same (HQ.out _)))
                go_wp2
                go_roundw
                case rel => exact ⟨0 + 1, s', true, q + nq, by omega, by go_num, rfl, rfl, by show _ = _; rw [HW.out, World.drewN_drewN], hide (by rw [HCs.out, hnm, show lastN (img.take 0) = [] from rfl]; rcases HFi.out with h | h; rw [h]; rfl; rw [hnm] at h; cases h), HS'⟩
                case measure => simp [intOf]; omega
              · obtain ⟨i, hi⟩ : ∃ i, j = i + 1 := ⟨j - 1, by omega⟩
                have e0 : ((j : Int) == 0) = false := by simp; omega
                have e00 : decide ((j : Int) = 0) = false := by simp; omega
                have hji : (j : Int) - 1 = (i : Int) := by omega
                have i3 : (0 : Int) ≤ (i : Int) := by omega
                have i4 : (i : Int) < (n : Int) := by omega
                obtain ⟨u, hu, hul⟩ := HPv.out i hi
                obtain ⟨g', o', ap', cp', ha', hg', d0, d1, hby'⟩ := HLw.out.at hu
                cases ha'
                have hlss : Op.bytesLess (⟨u.1.toArray⟩ : ByteArray).toList (⟨p.1.toArray⟩ : ByteArray).toList = bytesBefore u.1 p.1 := by
                  rw [ByteArray.toList_eq, ByteArray.toList_eq]
                  exact less_eq _ _
                have HCs2 : Hid (chn [] (img.take (j + 1)) = bytesBefore u.1 p.1) := by
                  show _ = _
                  rw [HCs.out, hnm, hul]; rfl
                generalize bytesBefore u.1 p.1 = bb at *
                generalize hsp : (⟨p.1.toArray⟩ : ByteArray) = st at *
                generalize hsu : (⟨u.1.toArray⟩ : ByteArray) = su at *
                clear hsp hsu hu hul hby' d1 hi hj0
                go_wp2
                go_quiet (first | (go_at_call 9; exact Calls.quiet_of_same (HQ.out _)))
                go_wp2
                go_roundw
                case rel => exact ⟨j + 1, s', bb, q + nq, by omega, by go_num, rfl, rfl, by show _ = _; rw [HW.out, World.drewN_drewN], HCs2, HS'⟩
                case measure => simp [intOf]; omega
        · obtain rfl : n = j := by omega
          have e1 : img.take n = img := List.take_of_length_le (by rw [HN.out]; exact Nat.le_refl _)
          rw [e1] at HCh HSs
          clear HW HLx x2 xf e1
          cases b with
          | false =>
            have HOk : Hid (okB img zn = false) := by show _ = _; unfold okB; rw [HCh.out]; simp
            have HGn := hide (given_any _ K0 sp n cap img HN.out (HI.out.below HL.out.bel) hn)
            go_wp2_with fail
            refine HGn.out.mono ?_
            rintro e w1 ⟨g, c, rfl, hg1, hb1⟩
            have HL1 := hide (HL.out.below hb1)
            have HG1 := hide hg1
            obtain ⟨x0, x1, x2, xf⟩ := blk3 HL1.out.box
            clear hg1 hb1 HGn x0 x2 xf
            have HLo := hide (Load_bad w1 (some ⟨g, 0, none⟩) n c img zn HN.out (HG1.out.imi HSb.out HSn.out) hn hzn HOk.out)
            go_wp2_with fail
            refine HLo.out.mono ?_
            rintro e w2 ⟨rfl, hb2⟩
            have hb3 : Below w1.heap.size w1 w2 := by first | exact hb2 | (rw [hb2]; exact Below.refl _ _)
            have HL2 := hide (HL1.out.below hb3)
            have HG2 := hide (HG1.out.kept (kp_below hb3 (fun _ => False) _ (0, 0)) (fun h => h))
            obtain ⟨x0, x1, x2, xf⟩ := blk3 HL2.out.box
            clear hb2 hb3 HLo HG1 HL1 x1 x2 xf
            have HUn := hide (untouched_any w2 _ g n c sp cap img HG2.out (HI.out.below HL2.out.bel) hn)
            go_wp2_with fail
            refine HUn.out.mono ?_
            rintro e w3 ⟨rfl, q1, rfl⟩
            clear x0
            go_wp2_with fail
            refine (num_any _ 46).mono ?_
            rintro e w4 ⟨rfl, rfl⟩
            go_wp2
            go_ret
            exact ⟨rfl, below_drewN HL2.out.bel q1⟩
          | true =>
            by_cases hsz : s ≤ (zn : Int)
            · have hd3 : decide (s ≤ (zn : Int)) = true := by simpa using hsz
              by_cases h64 : n ≤ 64
              · have h64' : (n : Int) ≤ 64 := by omega
                have HSz : Hid (sumI img ≤ zn) := by have := HSs.out h64; show _ ≤ _; omega
                have HOk : Hid (okB img zn = true) := by show _ = _; unfold okB; rw [HCh.out, HN.out, decide_eq_true h64, decide_eq_true HSz.out]; rfl
                have HIx : Hid (∀ p ∈ img, (∀ x ∈ p.2, x < 256) ∧ p.2.length ≤ 1099511627776) := fun p hp => ⟨HSb.out p hp, by
                  have h1 := sum_mem_le (fun p : Nm × List Nat => p.2.length) hp
                  have h2 : sumI img ≤ zn := HSz.out
                  unfold sumI at h2
                  omega⟩
                have HGn := hide (given_any _ K0 sp n cap img HN.out (HI.out.below HL.out.bel) hn)
                go_wp2_with fail
                refine HGn.out.mono ?_
                rintro e w1 ⟨g, c, rfl, hg1, hb1⟩
                have HL1 := hide (HL.out.below hb1)
                have HG1 := hide hg1
                obtain ⟨x0, x1, x2, xf⟩ := blk3 HL1.out.box
                have HLd := hide (Load_any w1 _ 2 (by omega) (.slice (some ⟨g, 0, none⟩) n c) img zn (HG1.out.im HIx.out) (fun q hq => (HSn.out q hq).2) hzn HOk.out)
                clear hg1 hb1 HGn x0 x2 xf
                go_wp2_with fail
                refine HLd.out.mono ?_
                rintro e w2 ⟨d, K2, rfl, hd2, hk2⟩
                have HL2 := hide (HL1.out.kept hk2 (fun b hb => by unfold ext; split <;> rfl))
                have HG2 := hide (HG1.out.kept hk2 (by simp))
                have HD2 := hide hd2
                obtain ⟨x0, x1, x2, xf⟩ := blk3 HL2.out.box
                have HUn := hide (untouched_any w2 _ g n c sp cap img HG2.out (HI.out.below HL2.out.bel) hn)
                clear hd2 hk2 HLd HG1 HL1 x1 x2 xf
                go_wp2_with fail
                refine HUn.out.mono ?_
                rintro e w3 ⟨rfl, q1, rfl⟩
                have HL3 := hide (HL2.out.drewN q1)
                have HD3 := hide (HD2.out.kept ((Kp.refl (fun _ => False) K2 w2).drewN q1) (fun _ h => h))
                clear HUn HL2 HD2 HG2 x0
                generalize w2.drewN q1 = w3 at *
                obtain ⟨x0, x1, x2, xf⟩ := blk3 HL3.out.box
                have HSt : Hid (∀ q', Calls Try.prog 14 #[.pointer (some ⟨d, 0, none⟩)] (w3.drewN q') fun e w' => e = .returned (.int .i64 0) ∧ w' = w3.drewN q') := fun q' => Strokes_any (w3.drewN q') K2 2 d _ (HD3.out.kept ((Kp.refl (fun _ => False) K2 w3).drewN q') (fun _ h => h))
                have HRm : Hid (∀ q', Calls Try.prog 15 #[.pointer (some ⟨d, 0, none⟩)] (w3.drewN q') fun e w' => e = .returned (.int .i64 (zn : Int)) ∧ w' = w3.drewN q') := fun q' => Room_any (w3.drewN q') K2 2 d _ (HD3.out.kept ((Kp.refl (fun _ => False) K2 w3).drewN q') (fun _ h => h))
                have HNu : Hid (∀ w', Calls Try.prog 13 #[.int .i64 0] w' fun e w'' => e = .returned (.int .i64 0) ∧ w'' = w') := fun w' => num_any w' 0
                clear x0 x2
                go_wp2
                go_quiet (first | (go_at_call 13; exact Calls.quiet_of_same (HNu.out _)) | (go_at_call 14; exact Calls.quiet_of_same (HSt.out _)) | (go_at_call 15; exact Calls.quiet_of_same (HRm.out _)))
                have HL4 := hide (HL3.out.drewN nq)
                have HD4 := hide (HD3.out.kept ((Kp.refl (fun _ => False) K2 w3).drewN nq) (fun _ h => h))
                clear HL3 HD3 HSt HRm x1 xf
                generalize w3.drewN nq = w4 at *
                have HV := hide (laid_inv hzn HOk.out)
                have HZs := hide (laid_sz hzn HOk.out HSb.out)
                have HLi := hide (List_any w4 K2 2 d _ HD4.out HV.out)
                have HNs : Hid ((St.laid zn img).names = img.map (·.1)) := by show _ = _; rw [← image_names, laid_image]
                have HNl : Hid ((img.map (·.1)).length = n) := by show _ = _; rw [List.length_map, HN.out]
                rw [HNs.out, HNl.out, show (St.laid zn img).offE = 0 from rfl] at HLi
                go_wp2_with fail
                refine HLi.out.mono ?_
                rintro e w5 ⟨na, nc, rfl, hr5, hb5⟩
                have HL5 := hide (HL4.out.below hb5)
                have HD5 := hide (HD4.out.kept (kp_below hb5 (fun _ => False) K2 (0, 0)) (fun _ h => h))
                have HR5 := hide hr5
                generalize ext K2 w4.heap.size (0, 0) = K5 at *
                obtain ⟨x0, x1, x2, xf⟩ := blk3 HL5.out.box
                clear hr5 hb5 HLi HL4 HD4 x1 x2
                go_wp2_with fail
                refine (HNu.out _).mono ?_
                rintro e w6 ⟨rfl, rfl⟩
                clear x0 xf
                have HX5 := hide (blk3 HL5.out.box).1
                have hx5 := HX5.out
                go_wp2
                clear hx5
                go_loopw [12] (fun i wr => ∃ (j : Nat), j ≤ n ∧ i = .int .i64 j ∧ Hid (Below w6.heap.size w6 wr)) (fun i _ => n - (intOf i).toNat)
                case atStart => exact ⟨0, Nat.zero_le _, rfl, Below.refl _ _⟩
                case round =>
                  obtain ⟨j, hj, rfl, HB⟩ := hrel
                  have HL := hide (HL5.out.below HB.out)
                  have HD := hide (HD5.out.kept (kp_below HB.out (fun _ => False) K5 (0, 0)) (fun _ h => h))
                  generalize ext K5 w6.heap.size (0, 0) = K7 at *
                  by_cases hlt : j < n
                  · have i1 : (0 : Int) ≤ (j : Int) := by omega
                    have i2 : (j : Int) < (n : Int) := by omega
                    obtain ⟨p, hp⟩ : ∃ p, img[j]? = some p := ⟨_, List.getElem?_eq_getElem (by rw [HN.out]; exact hlt)⟩
                    have hpm := List.mem_of_getElem? hp
                    obtain ⟨he, hby0, hnm⟩ := image_read HV.out (p := p) (by rw [laid_image]; exact hpm)
                    obtain ⟨gn, rfl, hgn, hcn⟩ : ∃ gn, na = some ⟨gn, 0, none⟩ ∧ gn < w6.heap.size ∧ w6.cell? ⟨gn, j, none⟩ = some (.string ⟨p.1.toArray⟩) := by
                      have hst : (strs (img.map (·.1)))[j]? = some (.string ⟨p.1.toArray⟩) := by unfold strs; rw [List.getElem?_map, List.getElem?_map, hp]; rfl
                      rcases HR5.out.2 with ⟨_, e2⟩ | ⟨g, cap, cur, e1, _, hg, e3, e4, e5, e6⟩
                      · omega
                      · cases e1
                        refine ⟨g, rfl, lt_of_block hg, ?_⟩
                        rw [← e6, List.getElem?_take, if_pos (by omega)] at hst
                        simp only [World.cell?, hg]
                        simpa using hst
                    have z0 : wr.cell? ⟨gn, j, none⟩ = some (.string ⟨p.1.toArray⟩) := (HB.out.cell (p := ⟨gn, j, none⟩) hgn).trans hcn
                    have hgr : gn < wr.heap.size := Nat.lt_of_lt_of_le hgn HB.out.size
                    have HPn := hide (HSn.out p hpm)
                    have HRd := hide (Read_any wr K7 2 d _ HD.out HV.out 0 HZs.out (by omega) p.1 HPn.out.2)
                    rw [he, hby0] at HRd
                    have HSz2 : Hid (∀ w' K', Dk w' K' 2 d (St.laid zn img) → Calls Try.prog 18 #[.pointer (some ⟨d, 0, none⟩), .string ⟨p.1.toArray⟩] w' fun e w'' => e = .returned (.tuple #[.int .i64 (p.2.length : Int), .int .i64 0]) ∧ w'' = w') := fun w' K' hd' => by
                      have := Size_any w' K' 2 d _ hd' HV.out p.1 HPn.out.2
                      rw [he, hby0] at this
                      exact this
                    have HPa := hide hp
                    clear hp hpm hcn hgn he hby0 hnm
                    go_wp2_with fail
                    refine HRd.out.mono ?_
                    rintro e w7 ⟨ra, rc, rfl, hr7, hb7⟩
                    have HL7 := hide (HL.out.below hb7)
                    have HD7 := hide (HD.out.kept (kp_below hb7 (fun _ => False) K7 (0, 0)) (fun _ h => h))
                    have z1 : w7.cell? ⟨gn, j, none⟩ = some (.string ⟨p.1.toArray⟩) := (hb7.cell (p := ⟨gn, j, none⟩) hgr).trans z0
                    have HR7 := hide hr7
                    have HB7 := hide (HB.out.trans (hb7.mono HB.out.size))
                    have HSi := hide (HSz2.out w7 _ HD7.out)
                    clear hr7 hb7 z0 HRd HSz2
                    go_wp2_with fail
                    refine HSi.out.mono ?_
                    rintro e w8 ⟨rfl, rfl⟩
                    obtain ⟨x0, x1, x2, xf⟩ := blk3 HL7.out.box
                    obtain ⟨g, o, ap, cp, rfl, hg, c0, c1, hby⟩ := (HI.out.below HL7.out.bel).at HPa.out
                    have HQe := hide (fun q' => eq_same (w8.drewN q') ra ap p.2.length rc cp p.2 rfl (by have := HPn.out.1; omega) ⟨hby.small, (owns_bytes HR7.out hby.small).lie⟩ ⟨hby.small, hby.lie⟩)
                    clear HSi x1 x2 xf hby HR7 HD7
                    have HNp := hide HPn.out.1
                    generalize hst : (⟨p.1.toArray⟩ : ByteArray) = st at *
                    clear hst
                    generalize p.2.length = pl at *
                    have hpl2 : pl ≤ 140737488351232 := HNp.out
                    go_wp2
                    go_quiet (first | (go_at_call 13; exact Calls.quiet_of_same (HNu.out _)) | (go_at_call 19; exact Calls.quiet_of (HQe.out _)))
                    go_wp2
                    go_roundw
                    case rel => exact ⟨j + 1, by omega, by go_num, hide (below_drewN HB7.out nq)⟩
                    case measure => simp [intOf]; omega
                  · obtain rfl : n = j := by omega
                    obtain ⟨x0, x1, x2, xf⟩ := blk3 HL.out.box
                    have hbx := lt_of_block HL.out.box
                    have HNn : Hid (∀ q ∈ img, q.1.length ≤ 140737488355328) := fun q hq => (HSn.out q hq).2
                    have HC1 := hide (Crash_any wr.drew K7 2 d _ (HD.out.kept (Kp.refl (fun _ => False) K7 wr).drew (fun _ h => h)) HV.out 0 HZs.out (by omega) pp pm pc ps HPm.out (HP.out.below HL.out.bel.drew) hpl)
                    rw [laid_crash] at HC1
                    have HLd0 : Hid (Lb W wr.drew (.cells #[.slice sp n cap, .int .i64 (zn : Int), .slice pp pm pc] 25 (0, 0))) := ⟨HL.out.bel.drew, HL.out.box⟩
                    have HDd0 := hide (HD.out.kept (Kp.refl (fun _ => False) K7 wr).drew (fun _ h => h))
                    have hn64 : n ≤ 1099511627776 := by omega
                    clear x1 xf
                    go_wp2
                    go_region_held3 (fun w' => w'.cell? ⟨W.heap.size, 0, none⟩ = some (.slice sp n cap) ∧ w'.cell? ⟨W.heap.size, 2, none⟩ = some (.slice pp pm pc)) (go_keep) (first | (go_at_call 20; refine HIm2.out.mono ?_; rintro e w13 ⟨rfl, q3, rfl⟩; have HL13 := hide (HL12.out.drewN q3)) | (go_at_call 21; refine HC2.out.mono ?_; rintro e w12 ⟨v12, rfl, hi12, hb12⟩; have HL12 := hide (HL11.out.below hb12); obtain ⟨a12, c12, hv12, _, _⟩ := hi12.form; rw [HN.out] at hv12; subst hv12; have HIm2 := hide (image_in w12 a12 sp n c12 cap img HN.out (im_in hi12 HNn.out) (HI.out.below HL12.out.bel) hn64); have z5 := (blk3 HL12.out.box).1; have z6 := (blk3 HL12.out.box).2.2.1; clear hi12 hb12) | (go_at_call 20; refine HIm1.out.mono ?_; rintro e w11 ⟨rfl, q2, rfl⟩; have HL11 := hide (HL10.out.drewN q2); have HC2 := hide (Crash_any (w10.drewN q2) _ 2 d _ (HD10.out.kept ((Kp.refl (fun _ => False) _ w10).drewN q2) (fun _ h => h)) HV.out 0 HZs.out (by omega) none 0 0 [] rfl ⟨Or.inl rfl⟩ (by omega)); rw [laid_crash] at HC2; have z3 := (blk3 HL11.out.box).1; have z4 := (blk3 HL11.out.box).2.2.1) | (go_at_call 21; refine HC1.out.mono ?_; rintro e w10 ⟨v10, rfl, hi10, hb10⟩; have HL10 := hide (HLd0.out.below hb10); have HD10 := hide (HDd0.out.kept (kp_below hb10 (fun _ => False) K7 (0, 0)) (fun _ h => h)); obtain ⟨a10, c10, hv10, _, _⟩ := hi10.form; rw [HN.out] at hv10; subst hv10; have HIm1 := hide (image_in w10 a10 sp n c10 cap img HN.out (im_in hi10 HNn.out) (HI.out.below HL10.out.bel) hn64); have z1 := (blk3 HL10.out.box).1; have z2 := (blk3 HL10.out.box).2.2.1; clear hi10 hb10) | fail)
                    all_goals go_wp2
                    all_goals go_ret
                    all_goals exact ⟨rfl, HL13.out.bel⟩
              · have h64' : ¬ (n : Int) ≤ 64 := by omega
                have HOk : Hid (okB img zn = false) := by show _ = _; unfold okB; rw [HN.out, decide_eq_false h64]; rfl
                have HGn := hide (given_any _ K0 sp n cap img HN.out (HI.out.below HL.out.bel) hn)
                go_wp2_with fail
                refine HGn.out.mono ?_
                rintro e w1 ⟨g, c, rfl, hg1, hb1⟩
                have HL1 := hide (HL.out.below hb1)
                have HG1 := hide hg1
                obtain ⟨x0, x1, x2, xf⟩ := blk3 HL1.out.box
                clear hg1 hb1 HGn x0 x2 xf
                have HLo := hide (Load_bad w1 (some ⟨g, 0, none⟩) n c img zn HN.out (HG1.out.imi HSb.out HSn.out) hn hzn HOk.out)
                go_wp2_with fail
                refine HLo.out.mono ?_
                rintro e w2 ⟨rfl, hb2⟩
                have hb3 : Below w1.heap.size w1 w2 := by first | exact hb2 | (rw [hb2]; exact Below.refl _ _)
                have HL2 := hide (HL1.out.below hb3)
                have HG2 := hide (HG1.out.kept (kp_below hb3 (fun _ => False) _ (0, 0)) (fun h => h))
                obtain ⟨x0, x1, x2, xf⟩ := blk3 HL2.out.box
                clear hb2 hb3 HLo HG1 HL1 x1 x2 xf
                have HUn := hide (untouched_any w2 _ g n c sp cap img HG2.out (HI.out.below HL2.out.bel) hn)
                go_wp2_with fail
                refine HUn.out.mono ?_
                rintro e w3 ⟨rfl, q1, rfl⟩
                clear x0
                go_wp2_with fail
                refine (num_any _ 46).mono ?_
                rintro e w4 ⟨rfl, rfl⟩
                go_wp2
                go_ret
                exact ⟨rfl, below_drewN HL2.out.bel q1⟩
            · have hd3 : decide (s ≤ (zn : Int)) = false := by simpa using hsz
              have HOk : Hid (okB img zn = false) := by
                show _ = _
                unfold okB
                by_cases h64 : n ≤ 64
                · have := HSs.out h64
                  rw [decide_eq_false (p := sumI img ≤ zn) (by omega)]; simp
                · rw [HN.out, decide_eq_false h64]; rfl
              have HGn := hide (given_any _ K0 sp n cap img HN.out (HI.out.below HL.out.bel) hn)
              go_wp2_with fail
              refine HGn.out.mono ?_
              rintro e w1 ⟨g, c, rfl, hg1, hb1⟩
              have HL1 := hide (HL.out.below hb1)
              have HG1 := hide hg1
              obtain ⟨x0, x1, x2, xf⟩ := blk3 HL1.out.box
              clear hg1 hb1 HGn x0 x2 xf
              have HLo := hide (Load_bad w1 (some ⟨g, 0, none⟩) n c img zn HN.out (HG1.out.imi HSb.out HSn.out) hn hzn HOk.out)
              go_wp2_with fail
              refine HLo.out.mono ?_
              rintro e w2 ⟨rfl, hb2⟩
              have hb3 : Below w1.heap.size w1 w2 := by first | exact hb2 | (rw [hb2]; exact Below.refl _ _)
              have HL2 := hide (HL1.out.below hb3)
              have HG2 := hide (HG1.out.kept (kp_below hb3 (fun _ => False) _ (0, 0)) (fun h => h))
              obtain ⟨x0, x1, x2, xf⟩ := blk3 HL2.out.box
              clear hb2 hb3 HLo HG1 HL1 x1 x2 xf
              have HUn := hide (untouched_any w2 _ g n c sp cap img HG2.out (HI.out.below HL2.out.bel) hn)
              go_wp2_with fail
              refine HUn.out.mono ?_
              rintro e w3 ⟨rfl, q1, rfl⟩
              clear x0
              go_wp2_with fail
              refine (num_any _ 46).mono ?_
              rintro e w4 ⟨rfl, rfl⟩
              go_wp2
              go_ret
              exact ⟨rfl, below_drewN HL2.out.bel q1⟩
    · have hd0 : decide (0 ≤ z) = true := by simpa using hz0
      have hd1 : decide (z ≤ 16777216) = false := by simpa using hz1
      go_quiet (fail)
      go_wp2
      have HLx := hide (HL0.out.drewN nq)
      clear x0 x1 x2 xf HL0
      generalize w0.drewN nq = w9 at *
      go_loopw [3, 4, 6] (fun sv bv i wr => ∃ (j : Nat) (s : Int) (q : Nat), j ≤ n ∧ i = .int .i64 j ∧ sv = .int .i64 s ∧ bv = .bool false ∧ Hid (wr = w9.drewN q)) (fun _ _ i _ => n - (intOf i).toNat)
      case atStart => exact ⟨0, 0, 0, Nat.zero_le _, rfl, rfl, rfl, rfl⟩
      case round =>
        obtain ⟨j, s, q, hj, rfl, rfl, rfl, HW⟩ := hrel
        have HL : Hid (Lb W wr (.cells #[.slice sp n cap, .int .i64 z, .slice pp pm pc] 25 (0, 0))) := by show Lb _ _ _; rw [HW.out]; exact HLx.out.drewN q
        obtain ⟨x0, x1, x2, xf⟩ := blk3 HL.out.box
        by_cases hlt : j < n
        · have i1 : (0 : Int) ≤ (j : Int) := by omega
          have i2 : (j : Int) < (n : Int) := by omega
          obtain ⟨p, hp⟩ : ∃ p, img[j]? = some p := ⟨_, List.getElem?_eq_getElem (by rw [HN.out]; exact hlt)⟩
          obtain ⟨g, o, ap, cp, rfl, hg, c0, c1, hby⟩ := (HI.out.below HL.out.bel).at hp
          generalize p.2.length = pl at *
          obtain ⟨s', hs'⟩ : ∃ s', IntKind.i64.wrap (s + (pl : Int)) = s' := ⟨_, rfl⟩
          clear hp hby x1 x2
          go_wp2
          go_quiet (fail)
          go_wp2
          go_roundw
          case rel => exact ⟨j + 1, s', q + nq, by omega, by go_num, rfl, rfl, by show _ = _; rw [HW.out, World.drewN_drewN]⟩
          case measure => simp [intOf]; omega
        · obtain rfl : n = j := by omega
          clear HW HLx x1 x2
          have HGn := hide (given_any _ K0 sp n cap img HN.out (HI.out.below HL.out.bel) hn)
          go_wp2_with fail
          refine HGn.out.mono ?_
          rintro e w1 ⟨g, c, rfl, hg1, hb1⟩
          have HL1 := hide (HL.out.below hb1)
          have HG1 := hide hg1
          obtain ⟨x0, x1, x2, xf⟩ := blk3 HL1.out.box
          clear hg1 hb1 HGn x0 x2 xf
          have HLo := hide (Load_room w1 (.slice (some ⟨g, 0, none⟩) n c) z (by omega) HZ.out)
          go_wp2_with fail
          refine HLo.out.mono ?_
          rintro e w2 ⟨rfl, hb2⟩
          have hb3 : Below w1.heap.size w1 w2 := by first | exact hb2 | (rw [hb2]; exact Below.refl _ _)
          have HL2 := hide (HL1.out.below hb3)
          have HG2 := hide (HG1.out.kept (kp_below hb3 (fun _ => False) _ (0, 0)) (fun h => h))
          obtain ⟨x0, x1, x2, xf⟩ := blk3 HL2.out.box
          clear hb2 hb3 HLo HG1 HL1 x1 x2 xf
          have HUn := hide (untouched_any w2 _ g n c sp cap img HG2.out (HI.out.below HL2.out.bel) hn)
          go_wp2_with fail
          refine HUn.out.mono ?_
          rintro e w3 ⟨rfl, q1, rfl⟩
          clear x0
          go_wp2_with fail
          refine (num_any _ 40).mono ?_
          rintro e w4 ⟨rfl, rfl⟩
          go_wp2
          go_ret
          exact ⟨rfl, below_drewN HL2.out.bel q1⟩
  · have hd0 : decide (0 ≤ z) = false := by simpa using hz0
    go_quiet (fail)
    go_wp2
    have HLx := hide (HL0.out.drewN nq)
    clear x0 x1 x2 xf HL0
    generalize w0.drewN nq = w9 at *
    go_loopw [3, 4, 6] (fun sv bv i wr => ∃ (j : Nat) (s : Int) (q : Nat), j ≤ n ∧ i = .int .i64 j ∧ sv = .int .i64 s ∧ bv = .bool false ∧ Hid (wr = w9.drewN q)) (fun _ _ i _ => n - (intOf i).toNat)
    case atStart => exact ⟨0, 0, 0, Nat.zero_le _, rfl, rfl, rfl, rfl⟩
    case round =>
      obtain ⟨j, s, q, hj, rfl, rfl, rfl, HW⟩ := hrel
      have HL : Hid (Lb W wr (.cells #[.slice sp n cap, .int .i64 z, .slice pp pm pc] 25 (0, 0))) := by show Lb _ _ _; rw [HW.out]; exact HLx.out.drewN q
      obtain ⟨x0, x1, x2, xf⟩ := blk3 HL.out.box
      by_cases hlt : j < n
      · have i1 : (0 : Int) ≤ (j : Int) := by omega
        have i2 : (j : Int) < (n : Int) := by omega
        obtain ⟨p, hp⟩ : ∃ p, img[j]? = some p := ⟨_, List.getElem?_eq_getElem (by rw [HN.out]; exact hlt)⟩
        obtain ⟨g, o, ap, cp, rfl, hg, c0, c1, hby⟩ := (HI.out.below HL.out.bel).at hp
        generalize p.2.length = pl at *
        obtain ⟨s', hs'⟩ : ∃ s', IntKind.i64.wrap (s + (pl : Int)) = s' := ⟨_, rfl⟩
        clear hp hby x1 x2
        go_wp2
        go_quiet (fail)
        go_wp2
        go_roundw
        case rel => exact ⟨j + 1, s', q + nq, by omega, by go_num, rfl, rfl, by show _ = _; rw [HW.out, World.drewN_drewN]⟩
        case measure => simp [intOf]; omega
      · obtain rfl : n = j := by omega
        clear HW HLx x1 x2
        have HGn := hide (given_any _ K0 sp n cap img HN.out (HI.out.below HL.out.bel) hn)
        go_wp2_with fail
        refine HGn.out.mono ?_
        rintro e w1 ⟨g, c, rfl, hg1, hb1⟩
        have HL1 := hide (HL.out.below hb1)
        have HG1 := hide hg1
        obtain ⟨x0, x1, x2, xf⟩ := blk3 HL1.out.box
        clear hg1 hb1 HGn x0 x2 xf
        have HLo := hide (Load_room w1 (.slice (some ⟨g, 0, none⟩) n c) z (by omega) HZ.out)
        go_wp2_with fail
        refine HLo.out.mono ?_
        rintro e w2 ⟨rfl, hb2⟩
        have hb3 : Below w1.heap.size w1 w2 := by first | exact hb2 | (rw [hb2]; exact Below.refl _ _)
        have HL2 := hide (HL1.out.below hb3)
        have HG2 := hide (HG1.out.kept (kp_below hb3 (fun _ => False) _ (0, 0)) (fun h => h))
        obtain ⟨x0, x1, x2, xf⟩ := blk3 HL2.out.box
        clear hb2 hb3 HLo HG1 HL1 x1 x2 xf
        have HUn := hide (untouched_any w2 _ g n c sp cap img HG2.out (HI.out.below HL2.out.bel) hn)
        go_wp2_with fail
        refine HUn.out.mono ?_
        rintro e w3 ⟨rfl, q1, rfl⟩
        clear x0
        go_wp2_with fail
        refine (num_any _ 40).mono ?_
        rintro e w4 ⟨rfl, rfl⟩
        go_wp2
        go_ret
        exact ⟨rfl, below_drewN HL2.out.bel q1⟩

end Go.Proofs.Ytlpafgjgoheomaa
