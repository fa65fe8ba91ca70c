import Derived.Test.YtlpafgjgoheomaaSafeP
import Derived.Test.YtlpafgjgoheomaaFull
namespace Go.Proofs.Ytlpafgjgoheomaa
open Go.RowKit Go.Maps

/-- The first j files are made safe. -/
structure Sq (S0 S : St) (j k : Nat) : Prop where
  inv : Inv S
  sz : Sz S (k + j)
  free : Free S
  seen : S.seen = S0.seen
  units : ∀ p ∈ S0.seen.take j, (S.file p.2).units = []
theorem err_seen {S : St} (hv : Inv S) (ho : S.off = false) {p : Nm × Nat} (hp : p ∈ S.seen) : S.err p.1 = 0 := by
  unfold St.err
  rw [ho]
  simp only [Bool.false_eq_true, if_false]
  rw [if_pos (hv.ins p hp).2, (look_mem hv.srt).2 hp]
  rfl
theorem Sq.step {S0 S : St} {j k : Nat} (h : Sq S0 S j k) {p : Nm × Nat} (hp : S0.seen[j]? = some p) : (S.syncR p.1).1 = 0 ∧ Sq S0 (S.syncR p.1).2 (j + 1) k := by
  have hm : p ∈ S.seen := by rw [h.seen]; exact List.mem_of_getElem? hp
  have hl := (look_mem h.inv.srt).2 (show (p.1, p.2) ∈ S.seen from hm)
  have hi := S.seen_file h.inv hl
  have hg := good_sync h.inv h.sz p.1
  have e : S.syncR p.1 = (0, S.stroked.turn p.2 (S.file p.2).settled) := by
    unfold St.syncR
    rw [err_seen h.inv h.free.off hm, h.free.power, hl]
    rfl
  rw [e] at hg ⊢
  have hs := h.free.stroked
  refine ⟨rfl, hg.inv, hg.sz.mono (by omega), ⟨hs.off, hs.pOff, hs.pFrom⟩, h.seen, fun q hq => ?_⟩
  show ((S.stroked.turn p.2 (S.file p.2).settled).file q.2).units = []
  rw [St.turn_file (S := S.stroked) hi]
  split
  · rfl
  · rename_i hne
    rw [take_snoc' _ _ _ hp] at hq
    rcases List.mem_append.1 hq with e2 | e2
    · exact h.units q e2
    · simp only [List.mem_cons, List.not_mem_nil, or_false] at e2
      exact absurd (by rw [e2]) hne
theorem Sq.names {S0 S : St} {k : Nat} (h : Sq S0 S S0.seen.length k) : S.namesR.1 = 0 ∧ Sf S.namesR.2 ∧ Inv S.namesR.2 ∧ Sz S.namesR.2 (k + S0.seen.length + 1) ∧ S.namesR.2.room = S.room := by
  have hg := good_names h.inv h.sz
  have e : S.namesR = (0, S.stroked.settledN) := by
    unfold St.namesR
    rw [h.free.off, h.free.power]
    rfl
  rw [e] at hg ⊢
  have hs := h.free.stroked
  refine ⟨rfl, ⟨⟨hs.off, hs.pOff, hs.pFrom⟩, rfl, h.inv.fold.symm, fun p hp => ?_⟩, hg.inv, hg.sz, rfl⟩
  have hp2 : p ∈ S0.seen.take S0.seen.length := by rw [List.take_of_length_le (Nat.le_refl _), ← h.seen]; exact hp
  exact h.units p hp2

set_option maxRecDepth 100000 in
set_option maxHeartbeats 2000000 in
theorem allSafe_any (w : World) (K : Knd) (o d : Nat) (ho : o ≠ 0) (S : St) (h : Dk w K o d S) (hv : Inv S) (k : Nat) (hz : Sz S k) (hk : k ≤ 274877906944) (hf : Free S) :
    Calls Try.prog 25 #[.pointer (some ⟨d, 0, none⟩)] w fun e w' => ∃ K' S', e = .returned (.bool true) ∧ Dk w' K' o d S' ∧ Sf S' ∧ Inv S' ∧ Sz S' (k + 65) ∧ S'.seen = S.seen ∧ Kp (Ow o) K K' w w' := by
  have HL := hide (List_any w K o d S h hv)
  have HD := hide h
  have HV := hide hv
  obtain ⟨n, hn⟩ : ∃ n, S.names.length = n := ⟨_, rfl⟩
  have hnl : S.names = S.seen.map (·.1) := by unfold St.names; rw [hf.off]; rfl
  have HNl := hide hnl
  have HN := hide hn
  have HSn : Hid (S.seen.length = n) := hide (by rw [← hn, hnl, List.length_map])
  have hn64 : n ≤ 64 := by rw [← HSn.out]; exact hv.most
  rw [hn, show S.offE = 0 by unfold St.offE; rw [hf.off]; rfl] at HL
  have HSq : Hid (Sq S S 0 k) := ⟨hv, hz, hf, rfl, fun p hp => by simp at hp⟩
  clear h hv hz hf hn hnl
  go_enter Try.func25, Try.ntmps25
  go_wp2_with fail
  refine HL.out.mono ?_
  rintro e w1 ⟨na, nc, rfl, hr1, hb1⟩
  have kb := kp_below hb1 (fun _ => False) K (0, 0)
  have HR1 : Hid (Rk w1 (ext K w.heap.size (0, 0)) (0, 0) 9 1 (.slice na n nc) n (strs S.names)) := by
    refine ⟨⟨hr1.1, hr1.2.imp id ?_⟩, fun g e => ext_new _ _ ?_⟩
    · rintro ⟨g, cap, cur, h1, _, r⟩
      exact ⟨g, cap, cur, h1, Nat.zero_le _, r⟩
    · rcases hr1.2 with ⟨e1, _⟩ | ⟨g2, _, _, e1, e2, _⟩
      · rw [e1] at e; simp [Value.ownBlock] at e
      · rw [e1] at e; simp [Value.ownBlock] at e; omega
  have HD1 := hide (HD.out.kept kb (fun _ h => h))
  have HK1 := hide (kb.mono (q := Ow o) (fun k hk => hk.elim))
  clear hr1 hb1 kb HD
  generalize ext K w.heap.size (0, 0) = K1 at *
  go_wp2_with fail
  refine (num_any _ 0).mono ?_
  rintro e w2 ⟨rfl, rfl⟩
  go_wp2
  go_loopw [5, 6] (fun ok i wr => ∃ (j : Nat) (K' : Knd) (S' : St), j ≤ n ∧ ok = .bool true ∧ i = .int .i64 (j : Int) ∧ Hid (Dk wr K' o d S') ∧ Hid (Sq S S' j k) ∧ Hid (Rk wr K' (0, 0) 9 1 (.slice na n nc) n (strs S.names)) ∧ Hid (Kp (Ow o) K K' w wr)) (fun _ i _ => n - (intOf i).toNat)
  case atStart => exact ⟨0, K1, S, Nat.zero_le _, by first | rfl | trivial, rfl, HD1, HSq, HR1, HK1⟩
  case round =>
    obtain ⟨j, K', S', hj, rfl, rfl, HDj, HS, HR, HKj⟩ := hrel
    clear HD1 HSq HR1 HK1
    by_cases hlt : j < n
    · have hlt' : (j : Int) < (n : Int) := by omega
      have hj0 : (0 : Int) ≤ (j : Int) := by omega
      obtain ⟨p, hp⟩ : ∃ p, S.seen[j]? = some p := ⟨_, List.getElem?_eq_getElem (by rw [HSn.out]; exact hlt)⟩
      have HNm := hide (nm_len (HV.out.ins p (List.mem_of_getElem? hp)).2)
      have HSt := hide (HS.out.step hp)
      have HSy := hide (Sync_any wr K' o d S' HDj.out HS.out.inv _ HS.out.sz (by omega) p.1 (by have := HNm.out; omega))
      rw [HSt.out.1] at HSy
      obtain ⟨g, rfl, hg, hc⟩ : ∃ g, na = some ⟨g, 0, none⟩ ∧ g < wr.heap.size ∧ wr.cell? ⟨g, j, none⟩ = some (.string ⟨p.1.toArray⟩) := by
        have hnm2 : S.names[j]? = some p.1 := by rw [HNl.out, List.getElem?_map, hp]; rfl
        have hst : (strs S.names)[j]? = some (.string ⟨p.1.toArray⟩) := by unfold strs; rw [List.getElem?_map, hnm2]; rfl
        rcases HR.out.own.2 with ⟨_, e2⟩ | ⟨g, cap, cur, e1, _, hg, e3, e4, e5, e6⟩
        · omega
        · cases e1
          refine ⟨g, rfl, lt_of_block hg, ?_⟩
          rw [← e6, List.getElem?_take, if_pos (by omega)] at hst
          simp [World.cell?, hg, ← hst]
      clear hp
      go_wp2_with fail
      refine HSy.out.mono ?_
      rintro e w3 ⟨K3, rfl, hd3, hk3⟩
      have HD3 := hide hd3
      have HR3 := hide (HR.out.kept hk3 (by simpa using ho.symm))
      have HK3 := hide (HKj.out.trans hk3)
      have HS3 := hide HSt.out.2
      clear hd3 hk3
      go_wp2_with fail
      refine (num_any _ 0).mono ?_
      rintro e w4 ⟨rfl, rfl⟩
      go_wp2
      go_roundw
      case rel => exact ⟨j + 1, K3, _, by omega, by first | rfl | trivial, by go_num, HD3, HS3, HR3, HK3⟩
      case measure => simp [intOf]; omega
    · obtain rfl : j = n := by omega
      have HSe : Hid (Sq S S' S.seen.length k) := by rw [HSn.out]; exact HS.out
      have HNa := hide HSe.out.names
      have HSy := hide (SyncNames_any wr K' o d S' HDj.out HS.out.inv _ HS.out.sz (by omega))
      rw [HNa.out.1] at HSy
      go_wp2_with fail
      refine HSy.out.mono ?_
      rintro e w3 ⟨K3, rfl, hd3, hk3⟩
      have HD3 := hide hd3
      have HK3 := hide (HKj.out.trans hk3)
      clear hd3 hk3
      go_wp2_with fail
      refine (num_any _ 0).mono ?_
      rintro e w4 ⟨rfl, rfl⟩
      go_wp2
      go_ret
      refine ⟨K3, _, rfl, HD3.out, HNa.out.2.1, HNa.out.2.2.1, HNa.out.2.2.2.1.mono (by rw [HSn.out]; omega), ?_, HK3.out⟩
      have e1 : S'.namesR.2.seen = S'.seen := by
        unfold St.namesR
        split
        · rfl
        · simp only
          split <;> rfl
      rw [e1]; exact HS.out.seen

end Go.Proofs.Ytlpafgjgoheomaa
