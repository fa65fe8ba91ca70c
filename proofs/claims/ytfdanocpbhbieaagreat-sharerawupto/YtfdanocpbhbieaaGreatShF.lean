import Derived.Test.YtfdanocpbhbieaaGreatShC
import Derived.Test.YtfdanocpbhbieaaGreatShD
import Derived.Test.YtfdanocpbhbieaaGreatShE
import Derived.Test.YtfdanocpbhbieaaGreatZEq
namespace Go.Proofs.YtfdanocpbhbieaaGreat
open Go.RowKit Go.Shelf
open Z (Sli SlOk Acd AcdOk Acts)
attribute [local go_sem] Oper.semAt_some

/-- What an act's numbers may be. -/
structure AwS (a : Acd) : Prop where
  lines : ∀ x ∈ a.lines.xs, LinWf x
  rights : ∀ x ∈ a.rights.xs, TriWf x
  right : TriWf ⟨a.ra, a.rb, a.rd⟩
def rightsOf (a : Acd) : List Tri := if a.kind = 1 then (if a.sure = true then needT a.lines.xs else []) else if a.kind = 3 ∨ a.kind = 4 then [⟨a.ra, a.rb, a.rd⟩] else if a.kind = 5 then a.rights.xs else []
def needOne (t : Int) (l : List Tri) (a : Acd) : List Tri := if a.till = t then addsT l (rightsOf a) else l
def neededT (t : Int) (zs : List Acd) : List Tri := zs.foldl (needOne t) []
theorem neededT_snoc (t : Int) (zs : List Acd) (a : Acd) : neededT t (zs ++ [a]) = needOne t (neededT t zs) a := by simp [neededT]
theorem bulk_step {nn j k : Nat} (h : nn ≤ j * 4194305) (hk : k ≤ 4194305) : nn + k ≤ (j + 1) * 4194305 := by rw [Nat.succ_mul]; omega
theorem bulk_max {nn j : Nat} (h : nn ≤ j * 4194305) (hj : j ≤ 65536) : nn ≤ 274882101248 * 1 := by
  have := Nat.mul_le_mul_right 4194305 hj
  have e : 65536 * 4194305 = 274877972480 := rfl
  rw [e] at this
  omega
structure Ned (w wr : World) (b j : Nat) (l : List Tri) : Prop where
  tal : ∃ nn, nn ≤ j * 4194305 ∧ Tal wr b nn l
  below : Below w.heap.size w wr

set_option maxRecDepth 100000 in
set_option maxHeartbeats 4000000 in
theorem needed_any (w : World) (s : Sli Acd) (hs : Acts w s) (hw : ∀ a ∈ s.xs, AwS a) (hn : s.n ≤ 65536) (t : Int) :
    Calls Tryz.prog 47 #[.slice s.p s.n s.c, .int .i64 t] w fun e w' => ∃ b nn, e = .returned (.map (some b)) ∧ w.heap.size ≤ b ∧ nn ≤ s.n * 4194305 ∧ Tal w' b nn (neededT t s.xs) ∧ Below w.heap.size w w' := by
  obtain ⟨sp, m, cap, xs⟩ := s
  have hm : xs.length = m := hs.row.len
  have HX := hide hs.row.cel
  have HV := hide hs.each
  have HW := hide hw
  simp only at HX HV HW hn ⊢
  have HM := hide hm
  clear hs hm hw
  obtain ⟨b, hb⟩ : ∃ b, w.heap.size = b := ⟨_, rfl⟩
  obtain ⟨w1, hw1⟩ : ∃ w1, w.alloc (.map #[] 0) = w1 := ⟨_, rfl⟩
  have H0 : Hid (Ned w w1 b 0 (neededT t (xs.take 0))) := by
    refine ⟨⟨0, Nat.le_refl _, ?_⟩, ?_⟩
    · rw [← hw1, ← hb]; exact tal_new w
    · rw [← hw1]; exact (Below.refl _ _).alloc (Nat.le_refl _) _
  have HBb : Hid (w.heap.size ≤ b) := Nat.le_of_eq hb
  have hmm : (Instr.makeMap 90 none).run Tryz.prog w = .ok (.map (some b)) w1 := by rw [run_makeMap, ← hb, ← hw1]
  clear hw1 hb
  go_enter Tryz.func47, Tryz.ntmps47
  go_wp2
  clear hmm
  go_loopw [11] (fun i wr => ∃ j : Nat, j ≤ m ∧ i = .int .i64 j ∧ Hid (Ned w wr b j (neededT t (xs.take j)))) (fun i _ => m - (intOf i).toNat)
  case atStart => exact ⟨0, Nat.zero_le _, rfl, H0⟩
  case round =>
    clear H0
    obtain ⟨j, hj, rfl, HI⟩ := hrel
    by_cases hlt : j < m
    · have hlt' : (j : Int) < (m : Int) := by omega
      have j0 : (0 : Int) ≤ (j : Int) := by omega
      obtain ⟨x, hx⟩ : ∃ x, xs[j]? = some x := ⟨_, List.getElem?_eq_getElem (by rw [HM.out]; exact hlt)⟩
      obtain ⟨gb, o, rfl, hbl, hcl⟩ := HX.out.get (i := j) (r := x.list) (by simp [hx])
      have HLd : Hid ((Instr.loadAt 84 (.pointer (some ⟨gb, o + j * 15, none⟩))).run Tryz.prog wr = .ok (.agg x.arr) wr) := run_loadAt_mid (P := Tryz.prog) wr gb (o + j * 15) 84 x.list _ (fun i v hv => (HI.out.below.cell (p := ⟨gb, o + j * 15 + i, none⟩) hbl).trans (hcl i v hv)) Tryz.underlying84 rfl (by kernel_rfl)
      have HXo := hide ((HV.out x (List.mem_of_getElem? hx)).below HI.out.below)
      have HXw := hide (HW.out x (List.mem_of_getElem? hx))
      have HXj := hide hx
      obtain ⟨nn, hnn, hT⟩ := HI.out.tal
      have hnm := bulk_max hnn (by omega)
      have HNn := hide hnn
      clear hcl hx hnn
      go_upto_region 5 with (first | ((with_reducible show wpList _ _ _ (⟨_, .load 84 (.tmp 13), _, _, _, _⟩ :: _) _ _); refine Z.lp_load gb (o + j * 15) x.arr rfl HLd.out ?_) | ((with_reducible show wpList _ _ _ (⟨_, .store 84 (.tmp 7) _, _, _, _, _⟩ :: _) _ _); refine Z.lp_store (t := 84) (x := .tmp 7) (some ⟨wr.heap.size, 0, none⟩) (.agg x.arr) rfl rfl (run_storeAt_new (P := Tryz.prog) wr 84 #[.int .i64 0, .int .u64 0, .int .i64 0, .bool false, .slice none 0 0, .slice none 0 0, .slice none 0 0, .int .i64 0, .slice none 0 0, .int .i64 0, .int .i64 0, .int .i64 0, .int .i64 0, .int .u64 0, .slice none 0 0] x.arr (by kernel_rfl) rfl x.ones) ?_))
      dsimp only [Act.put]
      obtain ⟨w6, hw6⟩ : ∃ w6, wr.alloc (.cells x.arr 84) = w6 := ⟨_, rfl⟩
      rw [hw6]
      have HB6 : Hid (Below wr.heap.size wr w6) := by show Below _ _ _; rw [← hw6]; exact (Below.refl _ _).alloc (Nat.le_refl _) _
      have hg6 : w6.heap[wr.heap.size]? = some (.cells x.arr 84 (0, 0)) := by rw [← hw6]; exact heap_alloc_new _ _
      have HT6 : Hid (Tal w6 b nn (neededT t (xs.take j))) := hT.below HB6.out
      have HNx : Hid (∀ v k rs, rs = rightsOf x → x.till = t → k ≤ 4194305 → Tal v b (nn + k) (addsT (neededT t (xs.take j)) rs) → w6.grownBy v (some b) → Hid (Ned w v b (j + 1) (neededT t (xs.take (j + 1))))) := fun v k rs hr ht hk hv hg => by
        have hB6 : Below w.heap.size w w6 := HI.out.below.trans (HB6.out.mono HI.out.below.size)
        refine ⟨⟨_, bulk_step HNn.out hk, ?_⟩, hB6.grown hg hB6.size (fun k e => by cases e; exact HBb.out)⟩
        rw [take_snoc HXj.out, neededT_snoc, needOne, if_pos ht, ← hr]
        exact hv
      have HNo : Hid (∀ l', l' = needOne t (neededT t (xs.take j)) x → Tal w6 b nn l' → Hid (Ned w w6 b (j + 1) (neededT t (xs.take (j + 1))))) := fun l' hl hv => by
        refine ⟨⟨_, Nat.le_trans HNn.out (by rw [Nat.succ_mul]; omega), ?_⟩, HI.out.below.trans (HB6.out.mono HI.out.below.size)⟩
        rw [take_snoc HXj.out, neededT_snoc, ← hl]
        exact hv
      have HO6 := hide (HXo.out.below HB6.out)
      clear hw6 hT HXo HLd
      obtain ⟨a0, a1, a2, a3, a4, a5, a6, a7, a8, a9, a10, a11, a12, a13, a14⟩ := ac15 hg6
      clear hg6
      obtain ⟨kd, hkd⟩ : ∃ kd, x.kind = kd := ⟨_, rfl⟩
      obtain ⟨tl, htl⟩ : ∃ tl, x.till = tl := ⟨_, rfl⟩
      obtain ⟨su, hsu⟩ : ∃ su, x.sure = su := ⟨_, rfl⟩
      rw [hkd] at a2
      rw [htl] at a0
      rw [hsu] at a3
      have HKd := hide hkd
      have HTl := hide htl
      have HSu := hide hsu
      clear hkd htl hsu
      by_cases ht : tl = t
      · subst ht
        by_cases hk1 : kd = 1
        · subst hk1
          cases su
          · have HE := HNo.out _ rfl (by unfold needOne rightsOf; rw [HTl.out, HKd.out, HSu.out]; simp [addsT]; exact HT6.out)
            go_wp2
            go_roundw
            case rel => exact ⟨j + 1, by omega, by go_num, HE⟩
            case measure => simp [intOf]; omega
          · have HC := hide (addUp_lines w6 b nn _ HT6.out x.lines.p x.lines.n x.lines.c x.lines.xs HO6.out.lines.len (by have := HO6.out.lines.most; omega) HXw.out.lines (cel_lins HO6.out.lines.cel) (by have := HO6.out.lines.most; omega))
            go_wp2_with (go_at_call 88; refine HC.out.mono ?_; rintro e v ⟨rfl, hv, hg⟩; have HE := HNx.out v _ _ (by unfold rightsOf; rw [HKd.out, HSu.out]; rfl) HTl.out (by have h1 := needT_length x.lines.xs; have h2 := HO6.out.lines.most; have h3 := HO6.out.lines.len; omega) hv hg; clear hv hg)
            go_roundw
            case rel => exact ⟨j + 1, by omega, by go_num, HE⟩
            case measure => simp [intOf]; omega
        · have hk1' : (kd == 1) = false := by simp [hk1]
          by_cases hk3 : kd = 3 ∨ kd = 4
          · have HC := hide (addUp_single w6 b nn _ HT6.out x.ra x.rb x.rd HXw.out.right (by omega))
            have HEx : Hid (∀ v, Tal v b (nn + 1) (addsT (neededT tl (xs.take j)) [⟨x.ra, x.rb, x.rd⟩]) → w6.grownBy v (some b) → Hid (Ned w v b (j + 1) (neededT tl (xs.take (j + 1))))) := fun v hv hg => HNx.out v 1 _ (by unfold rightsOf; rw [HKd.out, if_neg hk1, if_pos hk3]) HTl.out (by omega) hv hg
            rcases hk3 with rfl | rfl
            · clear hk1 hk1'
              go_wp2_with (go_at_call 89; refine HC.out.mono ?_; rintro e v ⟨rfl, hv, hg⟩; have HE := HEx.out v hv hg; clear hv hg)
              go_roundw
              case rel => exact ⟨j + 1, by omega, by go_num, HE⟩
              case measure => simp [intOf]; omega
            · clear hk1 hk1'
              go_wp2_with (go_at_call 89; refine HC.out.mono ?_; rintro e v ⟨rfl, hv, hg⟩; have HE := HEx.out v hv hg; clear hv hg)
              go_roundw
              case rel => exact ⟨j + 1, by omega, by go_num, HE⟩
              case measure => simp [intOf]; omega
          · have hk3a : ¬ kd = 3 := fun e => hk3 (Or.inl e)
            have hk3b : ¬ kd = 4 := fun e => hk3 (Or.inr e)
            have hk3a' : (kd == 3) = false := by simp [hk3a]
            have hk3b' : (kd == 4) = false := by simp [hk3b]
            by_cases hk5 : kd = 5
            · subst hk5
              have HC := hide (addUp_list w6 b nn _ HT6.out x.rights.p x.rights.n x.rights.c x.rights.xs ⟨HO6.out.rights.len, HXw.out.rights, HO6.out.rights.cel⟩ (by have := HO6.out.rights.most; omega))
              clear hk1 hk1' hk3 hk3a hk3b hk3a' hk3b'
              go_wp2_with (go_at_call 45; refine HC.out.mono ?_; rintro e v ⟨rfl, hv, hg⟩; have HE := HNx.out v _ _ (by unfold rightsOf; rw [HKd.out]; rfl) HTl.out (by have h2 := HO6.out.rights.most; omega) hv hg; clear hv hg)
              go_roundw
              case rel => exact ⟨j + 1, by omega, by go_num, HE⟩
              case measure => simp [intOf]; omega
            · have hk5' : (kd == 5) = false := by simp [hk5]
              have HE := HNo.out _ rfl (by unfold needOne rightsOf; rw [HTl.out, HKd.out, if_pos rfl, if_neg hk1, if_neg hk3, if_neg hk5]; exact HT6.out)
              clear hk3
              go_wp2
              go_roundw
              case rel => exact ⟨j + 1, by omega, by go_num, HE⟩
              case measure => simp [intOf]; omega
      · have ht' : (tl == t) = false := by simp [ht]
        have HE := HNo.out _ rfl (by unfold needOne; rw [HTl.out, if_neg ht]; exact HT6.out)
        go_wp2
        go_roundw
        case rel => exact ⟨j + 1, by omega, by go_num, HE⟩
        case measure => simp [intOf]; omega
    · obtain rfl : j = m := by omega
      have e1 : ¬ (j : Int) < (j : Int) := by omega
      obtain ⟨nn, hnn, hT⟩ := HI.out.tal
      rw [List.take_of_length_le (by rw [HM.out]; exact Nat.le_refl _)] at hT
      have HE : Hid (nn ≤ j * 4194305 ∧ Tal wr b nn (neededT t xs) ∧ Below w.heap.size w wr) := ⟨hnn, hT, HI.out.below⟩
      clear hT hnn
      go_wp2
      go_ret
      exact ⟨b, rfl, HBb.out, nn, HE.out⟩
end Go.Proofs.YtfdanocpbhbieaaGreat
