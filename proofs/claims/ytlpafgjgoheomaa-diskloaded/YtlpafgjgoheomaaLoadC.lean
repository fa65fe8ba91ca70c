import Derived.Test.YtlpafgjgoheomaaGivenB
namespace Go.Proofs.Ytlpafgjgoheomaa
open Go.RowKit Go.Maps Go.WideAt Go.WideShapes

set_option maxRecDepth 100000 in
set_option maxHeartbeats 1000000 in
theorem loadable_in (w : World) (a : Option Addr) (n c : Nat) (img : Image) (r : Int) (hnl : img.length = n) (h : Imi w a img) (hnx : n ≤ 3518437208784) (hr : 0 ≤ r ∧ r ≤ 16777216) :
    Calls Try.prog 37 #[.slice a n c, .int .i64 r] w fun e w' => e = .returned (.bool (okB img r.toNat)) ∧ Below w.heap.size w w' := by
  have HI := hide h
  have HL := hide hnl
  clear h hnl
  by_cases h64 : 64 < n
  · have h64' : (64 : Int) < (n : Int) := by omega
    have e0 : okB img r.toNat = false := by unfold okB; rw [decide_eq_false (by rw [HL.out]; omega)]; rfl
    rw [e0]
    go_enter Try.func37, Try.ntmps37
    go_wp2
    go_ret
    exact ⟨rfl, Below.refl _ _⟩
  have h64' : ¬ (64 : Int) < (n : Int) := by omega
  go_enter Try.func37, Try.ntmps37
  go_wp2
  go_loopw [5, 6, 14] (fun tot last i wr => ∃ (j t : Nat), j ≤ n ∧ i = .int .i64 (j : Int) ∧ tot = .int .i64 (t : Int) ∧ t ≤ j * 140737488351232 ∧ last = .string ⟨(lastN (img.take j)).toArray⟩ ∧ Hid (t = sumI (img.take j)) ∧ Hid (chn [] (img.take j) = true) ∧ Hid (Below w.heap.size w wr)) (fun _ _ i _ => n - (intOf i).toNat)
  case atStart => exact ⟨0, 0, Nat.zero_le _, rfl, rfl, Nat.zero_le _, rfl, rfl, rfl, Below.refl _ _⟩
  case round =>
    obtain ⟨j, t, hj, rfl, rfl, ht, rfl, HT, HC, HB⟩ := hrel
    by_cases hlt : j < n
    · have hlt' : (j : Int) < (n : Int) := by omega
      have hj0 : (0 : Int) ≤ (j : Int) := by omega
      obtain ⟨p, hp⟩ : ∃ p, img[j]? = some p := ⟨_, List.getElem?_eq_getElem (by rw [HL.out]; exact hlt)⟩
      have HTk := hide (take_snoc' img j p hp)
      have hpm := List.mem_of_getElem? hp
      have HSm := hide (HI.out.small p hpm).1
      have HNq := hide (HI.out.small p hpm).2
      obtain ⟨g, o, ap, cp, ha, hg, c0, c1, hby⟩ := (HI.out.below HB.out).at hp
      subst ha
      have HFn := hide (fun w => fileName_any w p.1 HNq.out)
      have HLq : Hid (lastN (img.take (j + 1)) = p.1) := by show _ = _; rw [HTk.out, lastN_snoc]
      have HSq : Hid (sumI (img.take (j + 1)) = t + p.2.length) := by show _ = _; rw [HTk.out, sumI_snoc, HT.out]
      have HCq : Hid (chn [] (img.take (j + 1)) = (isNm p.1 && bytesBefore (lastN (img.take j)) p.1)) := by
        show _ = _
        rw [HTk.out, chn_snoc, HC.out, Bool.true_and]
        rfl
      have hleq : (Op.bytesLess (⟨p.1.toArray⟩ : ByteArray).toList (⟨(lastN (img.take j)).toArray⟩ : ByteArray).toList || (⟨p.1.toArray⟩ : ByteArray).toList == (⟨(lastN (img.take j)).toArray⟩ : ByteArray).toList) = !bytesBefore (lastN (img.take j)) p.1 := by
        rw [ByteArray.toList_eq, ByteArray.toList_eq]
        exact leq_eq _ _
      have HFalse : Hid (chn [] (img.take (j + 1)) = false → okB img r.toNat = false) := fun e => by
        have : chn [] img = false := by
          cases e2 : chn [] img with
          | false => rfl
          | true => rw [chn_take e2 (j + 1)] at e; cases e
        unfold okB
        rw [this]
        simp
      obtain ⟨pl, hpl⟩ : ∃ pl, p.2.length = pl := ⟨_, rfl⟩
      rw [hpl] at c1 HSq HSm
      have hpl2 : pl ≤ 140737488351232 := HSm.out
      generalize lastN (img.take j) = lst at *
      generalize hsl : (⟨lst.toArray⟩ : ByteArray) = sl at *
      generalize hsp : (⟨p.1.toArray⟩ : ByteArray) = sp at *
      generalize isNm p.1 = nm at *
      generalize bytesBefore lst p.1 = bb at *
      clear hp hpm hby hsl hpl
      have HSp := hide hsp
      clear hsp
      cases nm with
      | false =>
        have e0 : okB img r.toNat = false := HFalse.out (by rw [HCq.out]; rfl)
        go_wp2_with fail
        refine (HFn.out _).mono ?_
        rintro e w2 ⟨rfl, rfl⟩
        go_wp2
        go_ret
        exact ⟨by rw [e0]; rfl, HB.out.alloc HB.out.size _⟩
      | true =>
        cases bb with
        | false =>
          have e0 : okB img r.toNat = false := HFalse.out (by rw [HCq.out]; rfl)
          go_wp2_with fail
          refine (HFn.out _).mono ?_
          rintro e w2 ⟨rfl, rfl⟩
          go_wp2
          go_ret
          exact ⟨by rw [e0]; rfl, HB.out.alloc HB.out.size _⟩
        | true =>
          go_wp2_with fail
          refine (HFn.out _).mono ?_
          rintro e w2 ⟨rfl, rfl⟩
          go_wp2
          go_roundw
          case rel => exact ⟨j + 1, t + pl, by omega, by go_num, by go_num, by omega, by rw [HLq.out, HSp.out], HSq.out.symm, HCq.out, HB.out.alloc HB.out.size _⟩
          case measure => simp [intOf]; omega
    · obtain rfl : j = n := by omega
      have e1 : img.take j = img := List.take_of_length_le (by rw [HL.out]; exact Nat.le_refl _)
      have hS : t = sumI img := by rw [HT.out, e1]
      have hO : okB img r.toNat = decide ((t : Int) ≤ r) := by
        have hc : chn [] img = true := by rw [← e1]; exact HC.out
        unfold okB
        rw [hc, ← hS, HL.out, decide_eq_true (by omega), Bool.true_and, Bool.true_and]
        exact decide_eq_decide.2 (by omega)
      have HO := hide hO
      clear hO hS e1
      go_wp2
      go_ret
      exact ⟨by rw [HO.out]; rfl, HB.out⟩


set_option maxRecDepth 100000 in
set_option maxHeartbeats 1000000 in
theorem Load_room (w : World) (v : Value) (r : Int) (hr : r < 0 ∨ 16777216 < r) (hi : -9223372036854775808 ≤ r ∧ r ≤ 9223372036854775807) :
    Calls Try.prog 11 #[v, .int .i64 r] w fun e w' => e = .returned (.tuple #[.pointer none, .int .i64 40]) ∧ w' = w := by
  have HN := hide (New_bad w r hr hi)
  clear hr
  go_enter Try.func11, Try.ntmps11
  go_wp2_with fail
  refine HN.out.mono ?_
  rintro e w1 ⟨rfl, rfl⟩
  go_wp2
  go_ret2
  exact ⟨rfl, rfl⟩

set_option maxRecDepth 100000 in
set_option maxHeartbeats 1000000 in
theorem Load_bad (w : World) (a : Option Addr) (n c : Nat) (img : Image) (r : Nat) (hnl : img.length = n) (h : Imi w a img) (hnx : n ≤ 3518437208784) (hr : r ≤ 16777216) (hok : okB img r = false) :
    Calls Try.prog 11 #[.slice a n c, .int .i64 (r : Int)] w fun e w' => e = .returned (.tuple #[.pointer none, .int .i64 46]) ∧ Below w.heap.size w w' := by
  have HNw := hide (New_ok w r hr)
  have HI := hide h
  have HL := hide hnl
  have HOk := hide hok
  clear h hnl hok
  go_enter Try.func11, Try.ntmps11
  go_wp2_with fail
  refine HNw.out.mono ?_
  rintro e w1 ⟨rfl, hw1⟩
  have HB1 : Hid (Below w.heap.size w w1) := by show Below _ _ _; rw [hw1]; exact (Below.refl _ _).alloc (Nat.le_refl _) _
  have HLd := hide (loadable_in w1 a n c img (r : Int) HL.out (HI.out.below HB1.out) hnx ⟨by omega, by omega⟩)
  rw [show ((r : Int)).toNat = r by omega, HOk.out] at HLd
  clear hw1
  go_wp2_with fail
  refine HLd.out.mono ?_
  rintro e w2 ⟨rfl, hb2⟩
  have HB2 := hide (HB1.out.trans (hb2.mono HB1.out.size))
  clear hb2
  go_wp2
  go_ret2
  exact ⟨rfl, HB2.out⟩

end Go.Proofs.Ytlpafgjgoheomaa
