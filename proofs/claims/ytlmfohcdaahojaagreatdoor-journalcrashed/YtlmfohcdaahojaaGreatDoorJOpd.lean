import Derived.Test.YtlmfohcdaahojaaGreatDoorJPlc
namespace Go.Proofs.YtlmfohcdaahojaaGreatDoor
open Go.RowKit Go.Maps

set_option maxRecDepth 100000 in
set_option maxHeartbeats 1000000 in
theorem enough_any (w : World) (K : Knd) (v : Value) (img : Image) (r : Nat) (h : Im w K v img) (h64 : img.length ≤ 64) :
    Calls Tryz.prog 64 #[v, .int .i64 (r : Int)] w fun e w' => e = .returned (.int .i64 ((max (sumI img) r : Nat) : Int)) ∧ w' = w := by
  obtain ⟨a, c, rfl, hle, hmx⟩ := h.form
  have HI := hide h
  obtain ⟨n, hnl⟩ : ∃ n, img.length = n := ⟨_, rfl⟩
  have HL := hide hnl
  rw [hnl] at hle h64 HI ⊢
  unfold maxLen at hmx
  clear h hnl
  go_enter Tryz.func64, Tryz.ntmps64
  go_wp2
  go_loopw [5, 6] (fun tot i wr => ∃ (j t : Nat), j ≤ n ∧ i = .int .i64 (j : Int) ∧ tot = .int .i64 (t : Int) ∧ t ≤ j * 1099511627776 ∧ Hid (t = sumI (img.take j)) ∧ wr = w) (fun _ i _ => n - (intOf i).toNat)
  case atStart => exact ⟨0, 0, Nat.zero_le _, rfl, rfl, Nat.zero_le _, rfl, rfl⟩
  case round =>
    obtain ⟨j, t, hj, rfl, rfl, ht, HT, rfl⟩ := hrel
    by_cases hlt : j < n
    · have hlt' : (j : Int) < (n : Int) := by omega
      have hj0 : (0 : Int) ≤ (j : Int) := by omega
      obtain ⟨p, hp⟩ : ∃ p, img[j]? = some p := ⟨_, List.getElem?_eq_getElem (by rw [HL.out]; exact hlt)⟩
      have HTk := hide (take_snoc' img j p hp)
      have hpm := List.mem_of_getElem? hp
      have HSm := hide (HI.out.small p hpm).2
      obtain ⟨g, ap, cp, ha, hg, c0, c1, hby, hrp⟩ := HI.out.at hp
      subst ha
      have HSq : Hid (sumI (img.take (j + 1)) = t + p.2.length) := by show _ = _; rw [HTk.out, sumI_snoc, HT.out]
      obtain ⟨pl, hpl⟩ : ∃ pl, p.2.length = pl := ⟨_, rfl⟩
      rw [hpl] at c1 HSq HSm
      have hpl2 : pl ≤ 1099511627776 := HSm.out
      clear hp hpm hby hrp hpl
      go_wp2
      go_roundw
      case rel => exact ⟨j + 1, t + pl, by omega, by go_num, by go_num, by omega, HSq.out.symm, trivial⟩
      case measure => simp [intOf]; omega
    · obtain rfl : j = n := by omega
      have e1 : img.take j = img := List.take_of_length_le (by rw [HL.out]; exact Nat.le_refl _)
      have hS : sumI img = t := by rw [HT.out, e1]
      have HS := hide hS
      by_cases hgt : r < t
      · have hgt' : (r : Int) < (t : Int) := by omega
        have hm : max t r = t := Nat.max_eq_left (by omega)
        have HM := hide hm
        clear hlt e1 hS hm
        go_wp2
        go_ret
        exact ⟨by rw [HS.out, HM.out]; rfl, rfl⟩
      · have hgt' : ¬ (r : Int) < (t : Int) := by omega
        have hm : max t r = r := Nat.max_eq_right (by omega)
        have HM := hide hm
        clear hlt e1 hS hm
        go_wp2
        go_ret
        exact ⟨by rw [HS.out, HM.out]; rfl, rfl⟩

def jx : Nm := [106]
theorem jx_ok : isNm jx = true ∧ isNm (jx ++ newE) = true := ⟨by kernel_rfl, by kernel_rfl⟩

set_option maxRecDepth 100000 in
set_option maxHeartbeats 1000000 in
/-- A JOURNAL OVER A DISK WITH AN IMAGE, where its file is not damaged. -/
theorem opened_any (w : World) (K : Knd) (od o : Nat) (hod : od ≠ 0) (ho : o ≠ 0) (hoo : o ≠ od) (v : Value) (img : Image) (r m : Nat) (hm : max (sumI img) r = m) (h : Im w K v img) (hn : ∀ p ∈ img, p.1.length ≤ 140737488355328) (hmr : m ≤ 16777216) (hok : okB img m = true)
    (hv : Inv (St.laid m img)) (k : Nat) (hz : Sz (St.laid m img) k) (hk : k ≤ 549755813888) (hf : ((St.laid m img).found jx).2.2.2 = 0) (hT : C.Tab w) (hK0 : K 0 = (0, 0)) :
    Calls Tryz.prog 25 #[v, .int .i64 (r : Int)] w fun e w' => ∃ d jb K', e = .returned (.tuple #[.pointer (some ⟨d, 0, none⟩), .pointer (some ⟨jb, 0, none⟩)]) ∧ Dk w' K' od d (St.laid m img) ∧ Jk w' K' o d jb (jnew jx ((St.laid m img).found jx)) ∧ Kp (fun k => k.1 = od ∨ k.1 = o) K K' w w' := by
  have h64 : img.length ≤ 64 := by
    simp only [okB, Bool.and_eq_true, decide_eq_true_eq] at hok
    exact hok.1.1
  have hE := enough_any w K v img r h h64
  rw [hm] at hE
  have HE := hide hE
  have HL := hide (Load_any w K od hod v img m h hn hmr hok)
  obtain ⟨a, c, rfl, hle, hmx⟩ := h.form
  have HV := hide hv
  have HZ := hide hz
  have HF := hide hf
  have HT := hide hT
  have HK0 := hide hK0
  clear h hn hok h64 hE hv hz hf hT hK0 hm
  go_enter Tryz.func25, Tryz.ntmps25
  go_wp2_with fail
  refine HE.out.mono ?_
  rintro e w1 ⟨rfl, rfl⟩
  go_wp2_with fail
  refine HL.out.mono ?_
  rintro e w2 ⟨d, K2, rfl, hd2, hk2⟩
  have HO := hide (Open_any w2 K2 od o d ho hoo (St.laid m img) hd2 HV.out k HZ.out hk rfl jx jx_ok.1 jx_ok.2 (tab_kp HT.out hk2 HK0.out (fun e => hod e.symm)) ((hk2.same 0 HT.out.pos).trans HK0.out))
  go_wp2_with fail
  refine HO.out.mono ?_
  rintro e w3 ⟨K3, hk3, hc⟩
  rcases hc with ⟨_, jb, rfl, hj⟩ | ⟨hne, _⟩
  · go_wp2
    go_ret2
    exact ⟨d, jb, K3, rfl, hd2.kept hk3 (fun q e => hoo e.symm), hj, (hk2.mono fun _ e => Or.inl e).trans (hk3.mono fun _ e => Or.inr e)⟩
  · exact absurd HF.out hne
end Go.Proofs.YtlmfohcdaahojaaGreatDoor
