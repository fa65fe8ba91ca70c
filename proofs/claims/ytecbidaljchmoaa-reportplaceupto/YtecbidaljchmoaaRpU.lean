import Derived.Test.YtecbidaljchmoaaRpT
import Derived.Test.YtecbidaljchmoaaSrtI
import Derived.Lib.SlKeysI
namespace Go.Proofs.Ytecbidaljchmoaa
open Go.RowKit Go.Shelf Go.Maps Go.Sort
attribute [local go_sem] Oper.semAt_some

theorem sortsI (m : Nat) : AnyZI.SortsIn Try.prog Try.sortedI_ren Fence.wide m :=
  ⟨fun blk off cap ss W hH hblk hsz => callsIn_wide.2 (AnyM.slices_Sort_int Try.sortI blk off cap ss W hH hblk hsz),
   fun p cap W => callsIn_wide.2 (AnyM.slices_Sort_int_none Try.sortI p cap W)⟩
def keysT (xs : List L64) : List Int := (movT (valsL xs)).map (·.c)
theorem keysT_sorted (xs : List L64) : (keysT xs).Pairwise (· < ·) := List.pairwise_map.2 ((relL_all (H := Unit) xs).sorted.imp fun h => h)
theorem keysT_perm {W : World} {b n : Nat} {xs : List L64} (h : MP W b n (tallyL xs)) : (keysT xs).Perm (intKeys (tallyL xs : DataW Unit)) := by
  refine CollectedI.perm (left := fun _ => false) ⟨(keysT_sorted xs).imp (fun {a b} h e => by subst e; omega), fun x => ?_⟩ h int_law Try.underlying3 (fun _ => rfl)
  have hr := (relL_all (H := Unit) xs).has x
  unfold keysT
  rw [List.mem_map]
  constructor
  · rintro ⟨y, hy, e⟩
    exact ⟨hr.2 ⟨y, hy, e⟩, rfl⟩
  · rintro ⟨h1, _⟩
    exact hr.1 h1
theorem keysT_sort {W : World} {b n : Nat} {xs : List L64} (h : MP W b n (tallyL xs)) {ss : List Int} (hp : ss.Perm (intKeys (tallyL xs : DataW Unit))) : ss.mergeSort (fun x y => decide (x ≤ y)) = keysT xs := by
  rw [mergeSort_of_perm_i (hp.trans (keysT_perm h).symm)]
  refine List.mergeSort_of_pairwise ((keysT_sorted xs).imp fun {a b} h => ?_)
  simp
  omega
theorem encZ_eq (x : Int) : encZ x = .int .i64 x := rfl

set_option maxRecDepth 100000 in
set_option maxHeartbeats 4000000 in
theorem moved_any (w : World) (s : Sli Eda) (till : Int) (hs : Ents w s) (htot : (linesP s.xs).length ≤ 4194304) :
    Calls Try.prog 22 #[.slice s.p s.n s.c, .int .i64 till] w fun e w' => ∃ v, e = .returned v ∧ w'.ownsRow w.heap.size 84 2 v (movT (linesT till s.xs)).length (flat linc (movT (linesT till s.xs))) ∧ Below w.heap.size w w' := by
  have hmost := hs.row.most
  have HS := hide hs
  obtain ⟨M, hM⟩ : ∃ M, movT (linesT till s.xs) = M := ⟨_, rfl⟩
  have hMl : M.length ≤ 4194304 := by rw [← hM]; exact Nat.le_trans (movT_len _) (Nat.le_trans (linesP_le _ _) htot)
  rw [hM]
  have HMe := hide hM
  have HTot := hide htot
  clear hs hM htot
  have hmx : Try.prog.follows .mixedOrders = true := by kernel_rfl
  refine (callsIn_wide (n := 12)).1 ?_
  have HG := hide (fun (w1 : World) (hw1 : w1 = (w.alloc (.cells #[.slice s.p s.n s.c] 26)).alloc (.cells #[.int .i64 till] 3)) => by
    have hb1 : Below w.heap.size w w1 := by rw [hw1]; exact ((Below.refl _ w).alloc (Nat.le_refl _) _).alloc (by simp) _
    have hbs : w1.heap[w.heap.size]? = some (.cells #[.slice s.p s.n s.c] 26 (0, 0)) := by rw [hw1]; exact heap_alloc2_old _ _ _
    have hbt : w1.heap[w.heap.size + 1]? = some (.cells #[.int .i64 till] 3 (0, 0)) := by rw [hw1]; exact heap_alloc2_new _ _ _
    exact gathered_in 11 (by omega) 44 #[.pointer (some ⟨w.heap.size, 0, none⟩), .pointer (some ⟨w.heap.size + 1, 0, none⟩)] (enters_of Try.func44 (by kernel_rfl) rfl) w w1 _ _ s.n hmost hb1
      (SeqStopsK.mono (ofTill_stops 10 (by omega) w.heap.size (w.heap.size + 1) s till w w1 HS.out hb1 hbs hbt) (fun A B h => ⟨h.mono hb1.size, h.block _ (ac_lt hbt)⟩)))
  have cK : ∀ mb W, CallsIn Fence.wide 11 Try.prog 37 #[.map mb] W fun e w' => e = .returned (.func (.func 48) #[] #[.pointer (some ⟨W.heap.size, 0, none⟩)]) ∧ w' = W.alloc (.cells #[.map mb] 98) := fun mb W => AnyZI.keys_in Try.keysI Fence.wide 11 trivial rfl mb W
  refine callsIn_of_wp Try.func22 rfl trivial ?_ rfl
  simp only [Try.ntmps22, List.size_toArray, List.length_cons, List.length_nil, Nat.reduceAdd, Nat.reduceSub, Array.replicate_succ, Array.replicate_zero, List.push_toArray, List.append_toArray, List.nil_append, List.cons_append]
  gi_wp2_with (
    first
    | (refine ⟨trivial, ?_⟩; gi_at_call 33; refine (ofTill_in 11 s.p s.n s.c till _).mono ?_; rintro e w' ⟨rfl, rfl⟩)
    | (refine ⟨trivial, ?_⟩; gi_at_call 34; refine (HG.out _ rfl).mono ?_; rintro e w2 ⟨ys, b, rfl, hys, hmp, hbb, hyl, hb2⟩; have HY := hide hys; have HM := hide hmp; have HB2 : Hid (Below w.heap.size w w2) := (((Below.refl _ w).alloc (Nat.le_refl _) _).alloc (by simp) _).trans (hb2.mono (by simp; omega)); clear hys hmp hb2 hyl hbb)
    | (refine ⟨trivial, ?_⟩; gi_at_call 37; refine (cK _ _).mono ?_; rintro e w' ⟨rfl, rfl⟩)
    | fail)
  have HM3 : Hid (MP (w2.alloc (.cells #[.map (some b)] 98)) b (linesOf ys).length (tallyL (linesOf ys))) := World.ownsMap.alloc HM.out _
  have HB3 : Hid (RowKit.Below w.heap.size w (w2.alloc (.cells #[.map (some b)] 98))) := HB2.out.alloc HB2.out.size _
  have hll : (linesOf ys).length ≤ 4194304 := by
    have h1 : (linesOf ys).length = (valsL (linesOf ys)).length := by simp [valsL]
    rw [h1, linesOf_val, HY.out, edsOf_filter s.xs HS.out.each (ownB till)]
    exact Nat.le_trans (linesP_le _ _) HTot.out
  have HV : Hid (movT (valsL (linesOf ys)) = M) := by
    show _ = _
    rw [linesOf_val, HY.out, edsOf_filter s.xs HS.out.each (ownB till)]
    exact HMe.out
  have hsz := World.ownsMap.size_le HM3.out
  have cS := AnyZI.sorted_in Try.sortedI Fence.wide 11 trivial trivial trivial trivial rfl (by omega) (sortsI _) (enters_of Try.func47 (by kernel_rfl) rfl) 48 #[.pointer (some ⟨w2.heap.size, 0, none⟩)] trivial (enters_of Try.func48 (by kernel_rfl) rfl) _ (Maps.size (tallyL (linesOf ys) : DataW Unit)) (by unfold maxLen; omega) (by omega) (w2.alloc (.cells #[.map (some b)] 98))
    (AnyZI.keys_gives (ρ := Try.keysI_ren) { Try.keysI with } Fence.wide 8 trivial rfl (by omega) w2.heap.size b (linesOf ys).length (tallyL (linesOf ys)) _ (by simp) (by simp) HM3.out)
  change CallsIn _ _ Try.prog 36 _ _ _ at cS
  have HcS := hide cS
  clear cS cK HG hsz
  refine ⟨trivial, HcS.out.mono ?_⟩
  rintro e w3 ⟨v, ss, rfl, hS, hrow, _, hb3⟩
  have hks := keysT_sort HM3.out hS
  rw [hks] at hrow
  have hkl : (keysT (linesOf ys)).length = ss.length := by rw [← hks]; exact List.length_mergeSort ss
  have HKM : Hid (keysT (linesOf ys) = M.map (·.c)) := by show _ = _; unfold keysT; rw [HV.out]
  rw [HKM.out, List.length_map] at hkl
  rw [HKM.out, ← hkl] at hrow
  obtain ⟨ka, kc, rfl, _⟩ := slice_form hrow
  have HKr : Hid (w3.ownsRow w.heap.size 3 1 (.slice ka M.length kc) M.length ((M.map (·.c)).map encZ)) := owns_le hrow HB3.out.size
  have HM4 : Hid (MP w3 b (linesOf ys).length (tallyL (linesOf ys))) := mp_far HM3.out (hb3.block _ (World.ownsMap.lt HM3.out))
  have HB4 : Hid (RowKit.Below w.heap.size w w3) := HB3.out.trans (hb3.mono HB3.out.size)
  obtain ⟨N, hN⟩ : ∃ N, M.length = N := ⟨_, rfl⟩
  rw [hN] at HKr hMl ⊢
  clear hS hrow hb3 hks hkl HcS
  gi_wp2
  gi_loopw [6, 17] (fun l i wr => ∃ k : Nat, k ≤ N ∧ i = .int .i64 k ∧ Hid (wr.ownsRow w.heap.size 84 2 l k (flat linc (M.take k)) ∧ wr.ownsRow w.heap.size 3 1 (.slice ka N kc) N ((M.map (·.c)).map encZ) ∧ MP wr b (linesOf ys).length (tallyL (linesOf ys)) ∧ RowKit.Below w.heap.size w wr)) (fun _ i _ => N - (intOf i).toNat)
  case atStart => exact ⟨0, Nat.zero_le _, rfl, World.ownsRow_nil _ _ _ _, HKr.out, HM4.out, HB4.out⟩
  case round =>
    obtain ⟨k, hk, rfl, HR⟩ := hrel
    obtain ⟨la, lc, rfl, _⟩ := slice_form HR.out.1
    by_cases hlt : k < N
    · have hlt' : (k : Int) < (N : Int) := by omega
      obtain ⟨y, hy⟩ : ∃ y, M[k]? = some y := ⟨_, List.getElem?_eq_getElem (by omega)⟩
      obtain ⟨g, rfl, hgl, k0⟩ := row_cell HR.out.2.1 (i := k) (u := .int .i64 y.c) (by simp [hy, encZ])
      have hr := relL_all (H := Unit) (linesOf ys)
      have hyM : y ∈ M := List.mem_of_getElem? hy
      have hyc : (Lit.int .i64 y.c).wf = true := intKeys_wf HR.out.2.2.1 Try.underlying3 _ ((keysT_perm HR.out.2.2.1).mem_iff.1 (by rw [HKM.out]; exact List.mem_map.2 ⟨y, hyM, rfl⟩))
      have hlook := mp_look HR.out.2.2.1 hyc
      have hsn : sumL (valsL (linesOf ys)) y.c = y.n := by
        rw [hr.sum, HV.out]
        have hs := hr.sorted
        rw [HV.out] at hs
        exact lookL_mem hs hyM
      rw [hsn] at hlook
      have HTk : Hid (M.take (k + 1) = M.take k ++ [y]) := take_snoc hy
      obtain ⟨yc, yn⟩ := y
      simp only at k0 hlook
      obtain ⟨w5, hw5⟩ : ∃ w5, wr.alloc (.cells #[.int .i64 yc, .int .i64 yn] 84) = w5 := ⟨_, rfl⟩
      have hb5 : RowKit.Below wr.heap.size wr w5 := by rw [← hw5]; exact (Below.refl _ wr).alloc (Nat.le_refl _) _
      have hcel : Cel w5 (some ⟨wr.heap.size, 0, none⟩) 2 ([(⟨yc, yn⟩ : Lin)].map linc) := by rw [← hw5]; exact two_cel wr _ _ _
      have ho5 := owns_keep HR.out.1 hb5
      have hs5 : w.heap.size ≤ w5.heap.size := Nat.le_trans HR.out.2.2.2.size hb5.size
      obtain ⟨v', w6, hap, ho6, hg6, _⟩ := elt_line.run_append w5 37 w.heap.size k (.slice la k lc) _ ho5 (some ⟨wr.heap.size, 0, none⟩) 1 1 [⟨yc, yn⟩] rfl hcel (by omega) hs5
      rw [← hw5] at hap
      have HR2 : Hid (w6.ownsRow w.heap.size 84 2 v' (k + 1) (flat linc (M.take (k + 1))) ∧ w6.ownsRow w.heap.size 3 1 (.slice (some ⟨g, 0, none⟩) N kc) N ((M.map (·.c)).map encZ) ∧ MP w6 b (linesOf ys).length (tallyL (linesOf ys)) ∧ RowKit.Below w.heap.size w w6) := by
        have hbw : RowKit.Below w.heap.size w w5 := HR.out.2.2.2.trans (hb5.mono HR.out.2.2.2.size)
        have hk5 := owns_keep HR.out.2.1 hb5
        refine ⟨by rw [HTk.out, flat_app]; exact ho6, owns_grown hk5 hg6 (fun j e e' => ?_), mp_far HR.out.2.2.1 ?_, hbw.grown hg6 hbw.size (fun j e => owns_base ho5 j e)⟩
        · rcases owns_two ho5 hk5 (by decide) with h1 | h1
          · rw [h1] at e'; cases e'
          · exact h1 (by rw [← e', e])
        · have hlt := World.ownsMap.lt HR.out.2.2.1
          obtain ⟨o, ho, hc⟩ := mp_map HR.out.2.2.1
          refine (hg6.block _ (Nat.lt_of_lt_of_le hlt hb5.size) (fun e => ?_)).trans (hb5.block _ hlt)
          rcases HR.out.1.2 with ⟨h1, _⟩ | ⟨g', cap, cur, h1, _, hgb, _⟩
          · rw [h1] at e; simp [Value.ownBlock] at e
          · rw [h1] at e
            have e2 : b = g' := by simpa [Value.ownBlock] using e
            rw [← e2, ho] at hgb
            cases hgb
            cases hc
      have HAp := hide hap
      clear hw5 hb5 hcel ho5 hs5 hap ho6 hg6 hr hyM hsn hy
      gi_wp2_with (gi_at_builtin; refine li_append (.slice la k lc) (.slice (some ⟨wr.heap.size, 0, none⟩) 1 1) rfl rfl ⟨v', w6, HAp.out, ?_⟩)
      go_roundw
      case rel => exact ⟨k + 1, by omega, by go_num, HR2⟩
      case measure => simp [intOf]; omega
    · obtain rfl : k = N := by omega
      have h := HR.out
      rw [List.take_of_length_le (by omega)] at h
      have HE := hide h
      clear h
      gi_wp2
      go_ret
      refine ⟨_, rfl, ?_, HE.out.2.2.2⟩
      rw [hN]
      exact HE.out.1
end Go.Proofs.Ytecbidaljchmoaa
