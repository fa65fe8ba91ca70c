import Derived.RangeFuncBox
import Derived.RangeFuncLeaves
import Derived.Shelf.Abstract
import Derived.WalkKit
import Derived.OwnWalkIn
import Derived.TacticsInMore
import Derived.LoopNIn
import Derived.LoopIn
import Derived.RangeFuncCalls
import Derived.RangeFuncBound
import Derived.Maps.AppendAt
import Derived.Test.YtbacgkfmnccheaaDoorWordsP
namespace Go.Proofs.YtbacgkfmnccheaaDoor
open Go.RowKit Go.Shelf

attribute [local go_sem] Oper.semAt_some

/-- The objects that the iterator of a line's words has for itself. -/
def Mine (o : Obj) : Prop := (∃ c fz, o = .cells c 66 fz) ∨ (∃ c fz, o = .cells c 5 fz) ∨ (∃ s p, o = .stringIter s p)

/-- The iterator's steps. -/
structure Fr (n1 : Nat) (A B : World) : Prop where
  below : Below n1 A B
  keep : ∀ (k : Nat) (o : Obj), A.heap[k]? = some o → ¬ Mine o → B.heap[k]? = some o
/-- What a round leaves to the iterator. -/
def Kp (A B : World) : Prop := A.heap.size ≤ B.heap.size ∧ ∀ (k : Nat) (o : Obj), A.heap[k]? = some o → Mine o → B.heap[k]? = some o

theorem Fr.alloc {n1 : Nat} (A : World) (o : Obj) (h : n1 ≤ A.heap.size) : Fr n1 A (A.alloc o) :=
  ⟨(Below.refl _ A).alloc h o, fun k _ hk _ => (Below.heap_alloc A o k (Array.getElem?_eq_some_iff.1 hk).1).trans hk⟩
theorem Fr.trans {n1 : Nat} {A B C : World} (h : Fr n1 A B) (k : Fr n1 B C) : Fr n1 A C := ⟨h.below.trans k.below, fun i o hi ho => k.keep i o (h.keep i o hi ho) ho⟩
theorem Fr.of {n1 b : Nat} {A B : World} (hb : Below n1 A B) (ho : Lib.OthersKept 5 (some b) A B) (hT : ∃ c fz, A.heap[b]? = some (.cells c 66 fz)) : Fr n1 A B :=
  ⟨hb, fun k o hk hm => ho k o hk (fun e => by
    obtain ⟨c, fz, h⟩ := hT
    cases e
    rw [h] at hk
    cases hk
    exact hm (Or.inl ⟨_, _, rfl⟩)) (fun c fz e => hm (Or.inr (Or.inl ⟨c, fz, e⟩)))⟩
theorem Fr.iterAt {n1 k : Nat} {A : World} {s : ByteArray} {p : Nat} (h : A.heap[k]? = some (.stringIter s p)) (hk : n1 ≤ k) (q : Nat) : Fr n1 A (A.iterAt k s q) :=
  ⟨Lib.below_iterAt (Below.refl _ A) hk s q, fun i o hi hm => by
    rw [Lib.iterAt_other A k i s q]
    · exact hi
    · rintro rfl
      rw [h] at hi
      cases hi
      exact hm (Or.inr (Or.inr ⟨_, _, rfl⟩))⟩
theorem Fr.setCell {n1 b j : Nat} {A : World} {c : Array Value} {fz : Nat × Nat} (h : A.heap[b]? = some (.cells c 66 fz)) (hb : n1 ≤ b) (v : Value) : Fr n1 A (A.setCell ⟨b, j, none⟩ v) :=
  ⟨(Below.refl _ A).setCell (p := ⟨b, j, none⟩) hb v, fun i o hi hm => by
    rw [Below.heap_setCell _ _ _ i]
    · exact hi
    · rintro rfl
      rw [h] at hi
      cases hi
      exact hm (Or.inl ⟨_, _, rfl⟩)⟩

theorem Kp.at_ {A B : World} (h : Kp A B) {T e : TypeId} (hT : T = 66) (he : e = 5) {n b : Nat} {p : Value} {bs : List Value} (hA : Lib.BuilderAtF T e n b p bs A) : Lib.BuilderAtF T e n b p bs B := by
  subst hT he
  obtain ⟨h1, v, h2, ⟨h3, h4⟩, h5⟩ := hA
  refine ⟨h1, v, h.2 _ _ h2 (Or.inl ⟨_, _, rfl⟩), ⟨h3, ?_⟩, h5⟩
  rcases h4 with h4 | ⟨g, cap, cur, fz, q1, q2, q3, q4⟩
  · exact Or.inl h4
  · exact Or.inr ⟨g, cap, cur, fz, q1, q2, h.2 _ _ q3 (Or.inr (Or.inl ⟨_, _, rfl⟩)), q4⟩
theorem Kp.builder {A B : World} (h : Kp A B) {n b : Nat} {bs : List Value} (hA : Lib.IsBuilderF 66 5 n b bs A) : Lib.IsBuilderF 66 5 n b bs B :=
  hA.elim (fun x => .inl (h.at_ rfl rfl x)) (fun x => .inr (h.at_ rfl rfl x))
theorem builder_block {n b : Nat} {bs : List Value} {A : World} (h : Lib.IsBuilderF 66 5 n b bs A) : ∃ c0 c1, A.heap[b]? = some (.cells #[c0, c1] 66 (0, 0)) := by
  rcases h with ⟨_, v, h2, _⟩ | ⟨_, v, h2, _⟩
  · exact ⟨_, _, h2⟩
  · exact ⟨_, _, h2⟩

/-- A line's words. -/
def tot (line : ByteArray) : List (List Nat) × Nat := wrd (nums line ++ [32]) 0 []

theorem reset_any (w : World) (b : Nat) (c0 c1 : Value) (h : w.heap[b]? = some (.cells #[c0, c1] 66 (0, 0))) :
    Calls Tryd.prog 34 #[.pointer (some ⟨b, 0, none⟩)] w fun e w' => e = .returned (.tuple #[]) ∧ w' = (w.setCell ⟨b, 0, none⟩ (.pointer none)).setCell ⟨b, 1, none⟩ (.slice none 0 0) := by
  have k0 : w.cell? ⟨b, 0, none⟩ = some c0 := by simp [World.cell?, h]
  have k1 : w.cell? ⟨b, 1, none⟩ = some c1 := by simp [World.cell?, h]
  have f0 : w.frozen? ⟨b, 0, none⟩ = false := by simp [World.frozen?, h]
  have f1 : w.frozen? ⟨b, 1, none⟩ = false := by simp [World.frozen?, h]
  clear h
  go_enter Tryd.func34, Tryd.ntmps34
  go_wp2
  go_end0
  exact ⟨rfl, rfl⟩

theorem wrd_on (ch rest : List Nat) (a c : Nat) (word : List Nat) (h : (c < 128 ∧ ch = [c]) ∨ (128 ≤ c ∧ (∀ x ∈ ch, 128 ≤ x) ∧ ch ≠ [])) (hn : ¬ (fol a c = 0 ∧ a ≠ 0)) : wrd (ch ++ rest) a word = wrd rest (fol a c) (word ++ (if std a (fol a c) = true then ch else [])) := by
  rcases h with ⟨_, rfl⟩ | ⟨h1, h2, h3⟩
  · rw [List.singleton_append, wrd, if_neg hn, if_neg hn]
  · exact wrd_chunk ch rest a c word h1 h2 h3

theorem wrd_out (ch rest : List Nat) (a c : Nat) (word : List Nat) (h : (c < 128 ∧ ch = [c]) ∨ (128 ≤ c ∧ (∀ x ∈ ch, 128 ≤ x) ∧ ch ≠ [])) (hn : fol a c = 0 ∧ a ≠ 0) : wrd (ch ++ rest) a word = (word :: (wrd rest 0 []).1, (wrd rest 0 []).2) := by
  rcases h with ⟨_, rfl⟩ | ⟨h1, _, _⟩
  · rw [List.singleton_append, wrd, if_pos hn, if_pos hn, hn.1]
    rfl
  · rw [fol_hi a c h1] at hn
    exact absurd hn.1 (hi_ne a)

theorem block_two (w : World) (b : Nat) (c0 c1 d0 d1 : Value) (T : TypeId) (h : w.heap[b]? = some (.cells #[c0, c1] T (0, 0))) : ((w.setCell ⟨b, 0, none⟩ d0).setCell ⟨b, 1, none⟩ d1).heap[b]? = some (.cells #[d0, d1] T (0, 0)) := by
  have h1 : (w.setCell ⟨b, 0, none⟩ d0).heap[b]? = some (.cells #[d0, c1] T (0, 0)) := by
    obtain ⟨hlt, hk⟩ := Array.getElem?_eq_some_iff.1 h
    show (w.heap.modify b _)[b]? = _
    rw [Array.getElem?_eq_getElem (by rw [Array.size_modify]; exact hlt), Array.getElem_modify_self, hk]
    rfl
  obtain ⟨hlt, hk⟩ := Array.getElem?_eq_some_iff.1 h1
  show ((w.setCell ⟨b, 0, none⟩ d0).heap.modify b _)[b]? = _
  rw [Array.getElem?_eq_getElem (by rw [Array.size_modify]; exact hlt), Array.getElem_modify_self, hk]
  rfl

set_option maxRecDepth 100000 in
set_option maxHeartbeats 4000000 in
theorem words1_in (n l Bn : Nat) (hn : 1 ≤ n) (line : ByteArray) (hs : line.size ≤ 1024) (hg : good line = true) (J : List ByteArray → World → Prop) (Jx : World → Prop)
    (W : World) (hBn : W.cell? ⟨Bn, 0, none⟩ = some (.string line)) (hBl : Bn < W.heap.size)
    (hJ : ∀ ls A B, J ls A → Fr W.heap.size A B → J ls B)
    (hY : ∀ ls word A, J ls A → YieldAt Fence.wide (n - 1) Tryd.prog l #[.string word, .int .i64 0] A fun e B => (e = .returned (.bool true) ∧ ls.length < 32 ∧ J (ls ++ [word]) B ∧ Kp A B) ∨ (e = .returned (.bool false) ∧ ls.length = 32 ∧ Jx B))
    (hYf : ∀ ls A, J ls A → YieldAt Fence.wide (n - 1) Tryd.prog l #[.string ⟨#[]⟩, .int .i64 23] A fun e B => e = .returned (.bool false) ∧ Jx B)
    (h0 : J [] W) :
    CallsIn Fence.wide n Tryd.prog 31 #[.func (.yield l) #[] #[], .pointer (some ⟨Bn, 0, none⟩)] W fun e B => (∃ v, e = .returned v) ∧ ((∃ ls, ls.map nums = (tot line).1 ∧ (tot line).2 = 0 ∧ ls.length ≤ 32 ∧ J ls B) ∨ ((32 < (tot line).1.length ∨ (tot line).2 ≠ 0) ∧ Jx B)) := by
  obtain ⟨t, ht⟩ : ∃ t, line ++ (⟨#[32]⟩ : ByteArray) = t := ⟨_, rfl⟩
  have hts : t.size = line.size + 1 := by rw [← ht, ByteArray.size_append']; rfl
  have htn : nums t = nums line ++ [32] := by rw [← ht]; simp [nums]
  have hvt : Lib.validD (t.data.toList.drop 0) = true := by
    rw [List.drop_zero, ← ht]
    have := valid_snoc _ _ (Nat.le_refl _) hg
    simpa using this
  have HTN := hide htn
  have HV0 := hide hvt
  have HJ := hide hJ
  have HY := hide hY
  have HYf := hide hYf
  have H0 := hide h0
  clear hJ hY hYf h0 hg htn hvt
  have hsum : ¬ line.size + 1 > 9223372036854775807 := by omega
  have hBn1 : ∀ o, (W.alloc o).cell? ⟨Bn, 0, none⟩ = some (.string line) := fun o => by rw [((Below.refl _ W).alloc (Nat.le_refl _) o).cell (p := ⟨Bn, 0, none⟩) hBl]; exact hBn
  refine callsIn_of_wp Tryd.func31 rfl trivial ?_ rfl
  simp only [Tryd.ntmps31, List.size_toArray, List.length_cons, List.length_nil, Nat.reduceAdd, Nat.reduceSub, Array.replicate_succ, Array.replicate_zero, List.push_toArray, List.append_toArray, List.nil_append, List.cons_append]
  gi_wp2
  clear hBn1 hBn hBl hsum
  gi_loopw [3] (fun ta wr => ∃ (a pos : Nat) (acc : List UInt8) (ls : List ByteArray), ta = .int .i64 (a : Int) ∧ Hid (Lib.IsBuilderF 66 5 W.heap.size W.heap.size (Lib.byteCells acc) wr) ∧ Hid (wr.heap[W.heap.size + 1]? = some (.stringIter t pos)) ∧ Hid (J ls wr) ∧
      Hid (Lib.validD (t.data.toList.drop pos) = true) ∧ acc.length ≤ 4 * pos ∧ pos ≤ t.size ∧ ls.length ≤ 32 ∧ Hid (ls.map nums ++ (wrd ((nums t).drop pos) a (acc.map fun b => b.toNat)).1 = (tot line).1 ∧ (wrd ((nums t).drop pos) a (acc.map fun b => b.toNat)).2 = (tot line).2)) (fun _ wr => t.size - wr.iterPos (W.heap.size + 1))
  case atStart =>
    refine ⟨0, 0, [], [], rfl, (Lib.IsBuilderF.of (Lib.fresh_isBuilder 66 5 W)).alloc _, ?_, ?_, HV0.out, by simp, Nat.zero_le _, by simp, ?_⟩
    · have := World.iter_heap (W.alloc (.cells #[.pointer none, .slice none 0 0] 66)) t 0
      show _ = _
      simpa [World.iter] using this
    · exact HJ.out _ _ _ H0.out ((Fr.alloc W _ (Nat.le_refl _)).trans (Fr.alloc _ _ (by simp)))
    · show _ ∧ _
      rw [List.drop_zero, HTN.out]
      exact ⟨by simp [tot], by simp [tot]⟩
  case round =>
    clear H0 HV0
    obtain ⟨a, pos, acc, ls, rfl, HI, HIt, HJl, HV, hal, hpos, hls, HW⟩ := hrel
    have hlt : W.heap.size + 1 < wr.heap.size := (Array.getElem?_eq_some_iff.1 HIt.out).1
    by_cases hp : pos < t.size
    · obtain ⟨c, wd, hdec, hwd, hcle, hpw, hv2, hch, hcase⟩ := good_at t pos hp HV.out
      have hnx : ∀ ty, (Instr.next (.pointer (some ⟨W.heap.size + 1, 0, none⟩)) true ty).run Tryd.prog wr = _ := fun ty => Lib.run_next_any_at wr (W.heap.size + 1) t pos ty HIt.out hp
      rw [hdec] at hnx
      simp only at hnx
      have HPt : Hid (wr.iterPos (W.heap.size + 1) = pos) := by show _ = _; simp only [World.iterPos, HIt.out]
      have HI1 := hide (HI.out.iterAt HIt.out (pos + wd))
      have HIt1 := hide (Lib.iterAt_heap wr (W.heap.size + 1) t pos (pos + wd) HIt.out)
      have HJ1 := hide (HJ.out _ _ _ HJl.out (Fr.iterAt HIt.out (by omega) (pos + wd)))
      have hlt1 : Hid (W.heap.size + 1 < (wr.iterAt (W.heap.size + 1) t (pos + wd)).heap.size) := by show _ < _; rw [Lib.iterAt_size]; exact hlt
      have HV2 := hide hv2
      have HCh := hide hch
      have HCase := hide hcase
      clear HI HIt HJl HV hv2 hch hcase hlt hdec
      generalize wr.iterAt (W.heap.size + 1) t (pos + wd) = W1 at *
      have HFo := hide (fol_any W1 a c)
      obtain ⟨m, hm⟩ : ∃ m, fol a c = m := ⟨_, rfl⟩
      have HM := hide hm
      rw [hm] at HFo
      clear hm
      by_cases hE : m = 0 ∧ a ≠ 0
      · have z1 : ((m : Int) == 0) = true := by simp; omega
        have z2 : ((a : Int) != 0) = true := by simp; omega
        have HE := hide hE
        clear hE
        gi_wp2_with fail
        refine ⟨trivial, (callsIn_wide.2 HFo.out).mono ?_⟩
        rintro e w1 ⟨rfl, h⟩
        obtain rfl := h.symm
        clear h HFo
        gi_wp2_with fail
        refine ⟨trivial, (callsIn_wide.2 (Tryd.Builder_String_any_k W.heap.size W.heap.size acc _ HI1.out (by have := hlt1.out; omega))).mono ?_⟩
        rintro e W2 ⟨rfl, i2, b2, k2⟩
        have HI2 := hide i2
        have HIt2 := hide (k2.iter HIt1.out (by omega))
        obtain ⟨x0, x1, hblk⟩ := builder_block HI1.out
        have HJ2 := hide (HJ.out _ _ _ HJ1.out (Fr.of b2 k2 ⟨_, _, hblk⟩))
        clear i2 b2 k2 hblk HI1 HIt1 HJ1
        obtain ⟨fn, tmps, assign, body, hy, hR⟩ := HY.out ls ⟨acc.toArray⟩ W2 HJ2.out
        have HR := hide hR
        clear hR
        gi_wp2
        refine HR.out.mono ?_
        rintro e W3 (⟨rfl, l32, j3, kp⟩ | ⟨rfl, l32, jx⟩)
        · have HI3 := hide (kp.builder HI2.out)
          have HIt3 : Hid (W3.heap[W.heap.size + 1]? = some (.stringIter t (pos + wd))) := kp.2 _ _ HIt2.out (Or.inr (Or.inr ⟨_, _, rfl⟩))
          obtain ⟨y0, y1, hb3⟩ := builder_block HI3.out
          have HRe := hide (reset_any W3 W.heap.size y0 y1 hb3)
          have HB4 := hide (block_two W3 W.heap.size y0 y1 (.pointer none) (.slice none 0 0) _ hb3)
          have HF1 := hide (Fr.setCell (n1 := W.heap.size) (j := 0) hb3 (Nat.le_refl _) (.pointer none))
          have HIt4 : Hid (((W3.setCell ⟨W.heap.size, 0, none⟩ (.pointer none)).setCell ⟨W.heap.size, 1, none⟩ (.slice none 0 0)).heap[W.heap.size + 1]? = some (.stringIter t (pos + wd))) := by
            show _ = _
            rw [Below.heap_setCell _ _ _ _ (by simp), Below.heap_setCell _ _ _ _ (by simp)]; exact HIt3.out
          have HJ4 : Hid (J (ls ++ [⟨acc.toArray⟩]) ((W3.setCell ⟨W.heap.size, 0, none⟩ (.pointer none)).setCell ⟨W.heap.size, 1, none⟩ (.slice none 0 0))) := by
            refine HJ.out _ _ _ j3 (HF1.out.trans ?_)
            have hb4 : (W3.setCell ⟨W.heap.size, 0, none⟩ (.pointer none)).heap[W.heap.size]? = some (.cells #[.pointer none, y1] 66 (0, 0)) := by
              obtain ⟨hlt, hk⟩ := Array.getElem?_eq_some_iff.1 hb3
              show (W3.heap.modify W.heap.size _)[W.heap.size]? = _
              rw [Array.getElem?_eq_getElem (by rw [Array.size_modify]; exact hlt), Array.getElem_modify_self, hk]
              rfl
            exact Fr.setCell (n1 := W.heap.size) (j := 1) hb4 (Nat.le_refl _) _
          have HI4 : Hid (Lib.IsBuilderF 66 5 W.heap.size W.heap.size (Lib.byteCells []) ((W3.setCell ⟨W.heap.size, 0, none⟩ (.pointer none)).setCell ⟨W.heap.size, 1, none⟩ (.slice none 0 0))) :=
            Lib.IsBuilderF.of (Or.inl ⟨Nat.le_refl _, .slice none 0 0, HB4.out, World.ownsRow_nil _ _ _ _, by simp [Value.ownBlock]⟩)
          have hst : std a m = false := by rw [HE.out.1]; simp [std]
          clear hb3 HF1 HB4 HI3 HIt3 j3 kp HR HI2 HIt2 HJ2 hy
          generalize (W3.setCell ⟨W.heap.size, 0, none⟩ (.pointer none)).setCell ⟨W.heap.size, 1, none⟩ (.slice none 0 0) = W4 at *
          gi_wp2_with fail
          refine ⟨trivial, (callsIn_wide.2 HRe.out).mono ?_⟩
          rintro e w5 ⟨rfl, h5⟩
          obtain rfl := h5.symm
          clear h5 HRe
          have HSt := hide (std_any W4 a m)
          rw [hst] at HSt
          clear hst
          gi_wp2_with fail
          refine ⟨trivial, (callsIn_wide.2 HSt.out).mono ?_⟩
          rintro e w6 ⟨rfl, h6⟩
          obtain rfl := h6.symm
          clear h6 HSt
          gi_wp2
          go_roundw
          case rel =>
            refine ⟨m, pos + wd, [], ls ++ [⟨acc.toArray⟩], rfl, HI4, HIt4, HJ4, HV2, by simp, hpw, by simp; omega, ?_⟩
            have hw := HW.out
            rw [HCh.out, wrd_out _ _ a c _ HCase.out (by rw [HM.out]; exact HE.out)] at hw
            rw [HE.out.1]
            refine ⟨?_, hw.2⟩
            rw [← hw.1]
            simp [nums]
          case measure =>
            have h1 := HPt.out
            simp only [World.iterPos, HIt4.out] at h1 ⊢
            omega
        · have HX := hide jx
          have HL : Hid (32 < (tot line).1.length) := by
            show _ < _
            have hw := HW.out
            rw [HCh.out, wrd_out _ _ a c _ HCase.out (by rw [HM.out]; exact HE.out)] at hw
            rw [← hw.1]
            simp
            omega
          clear jx HR HI2 HIt2 HJ2 hy
          gi_wp2
          refine bodyPost_ret (results_none rfl _ _ _) rfl ?_
          exact ⟨⟨_, rfl⟩, Or.inr ⟨Or.inl HL.out, HX.out⟩⟩
      · have HWn : Hid (wrd ((nums t).drop pos) a (acc.map fun b => b.toNat) = wrd ((nums t).drop (pos + wd)) m ((acc.map fun b => b.toNat) ++ (if std a m = true then (Lib.encodeRune (c : Int)).map fun b => b.toNat else []))) := by
          show _ = _
          rw [HCh.out, wrd_on _ _ a c _ HCase.out (by rw [HM.out]; exact hE), HM.out]
        rw [HWn.out] at HW
        have HE := hide hE
        clear HWn HCh HCase
        have HSt := hide (std_any W1 a m)
        by_cases hst : std a m = true
        · rw [hst] at HSt
          rw [if_pos hst] at HW
          have HWr := hide (Tryd.Builder_WriteRune_k W.heap.size W.heap.size _ (c : Int) (by omega) (by omega) W1 HI1.out (by rw [Lib.byteCells_length]; omega) (by have := hlt1.out; omega))
          clear hst
          by_cases hm0 : m = 0
          · have z1 : ((m : Int) == 0) = true := by simp; omega
            have z2 : ((a : Int) != 0) = false := by have := HE.out; simp; omega
            clear hm0
            gi_wp2_with fail
            refine ⟨trivial, (callsIn_wide.2 HFo.out).mono ?_⟩
            rintro e w1 ⟨rfl, h⟩
            obtain rfl := h.symm
            clear h HFo
            gi_wp2_with fail
            refine ⟨trivial, (callsIn_wide.2 HSt.out).mono ?_⟩
            rintro e w1 ⟨rfl, h⟩
            obtain rfl := h.symm
            clear h HSt
            gi_wp2_with fail
            refine ⟨trivial, (callsIn_wide.2 HWr.out).mono ?_⟩
            rintro e W2 ⟨rfl, i2, b2, k2⟩
            have HI2 : Hid (Lib.IsBuilderF 66 5 W.heap.size W.heap.size (Lib.byteCells (acc ++ Lib.encodeRune (c : Int))) W2) := by show Lib.IsBuilderF _ _ _ _ _ _; rw [Lib.byteCells_append, Lib.byteCells_encodeRune]; exact Or.inr i2
            have HIt2 := hide (k2.iter HIt1.out (by omega))
            obtain ⟨x0, x1, hblk⟩ := builder_block HI1.out
            have HJ2 := hide (HJ.out _ _ _ HJ1.out (Fr.of b2 k2 ⟨_, _, hblk⟩))
            have hl4 : (Lib.encodeRune (c : Int)).length ≤ 4 := by have := Lib.runeCells_le (c : Int); rw [Lib.runeCells_length] at this; exact this.2
            clear i2 b2 k2 hblk HI1 HIt1 HJ1 HWr
            gi_wp2
            go_roundw
            case rel => exact ⟨m, pos + wd, acc ++ Lib.encodeRune (c : Int), ls, rfl, HI2, HIt2, HJ2, HV2, by simp; omega, hpw, hls, by rw [List.map_append]; exact HW⟩
            case measure =>
              have h1 := HPt.out
              simp only [World.iterPos, HIt2.out] at h1 ⊢
              omega
          · have z1 : ((m : Int) == 0) = false := by simp; omega
            clear hm0
            gi_wp2_with fail
            refine ⟨trivial, (callsIn_wide.2 HFo.out).mono ?_⟩
            rintro e w1 ⟨rfl, h⟩
            obtain rfl := h.symm
            clear h HFo
            gi_wp2_with fail
            refine ⟨trivial, (callsIn_wide.2 HSt.out).mono ?_⟩
            rintro e w1 ⟨rfl, h⟩
            obtain rfl := h.symm
            clear h HSt
            gi_wp2_with fail
            refine ⟨trivial, (callsIn_wide.2 HWr.out).mono ?_⟩
            rintro e W2 ⟨rfl, i2, b2, k2⟩
            have HI2 : Hid (Lib.IsBuilderF 66 5 W.heap.size W.heap.size (Lib.byteCells (acc ++ Lib.encodeRune (c : Int))) W2) := by show Lib.IsBuilderF _ _ _ _ _ _; rw [Lib.byteCells_append, Lib.byteCells_encodeRune]; exact Or.inr i2
            have HIt2 := hide (k2.iter HIt1.out (by omega))
            obtain ⟨x0, x1, hblk⟩ := builder_block HI1.out
            have HJ2 := hide (HJ.out _ _ _ HJ1.out (Fr.of b2 k2 ⟨_, _, hblk⟩))
            have hl4 : (Lib.encodeRune (c : Int)).length ≤ 4 := by have := Lib.runeCells_le (c : Int); rw [Lib.runeCells_length] at this; exact this.2
            clear i2 b2 k2 hblk HI1 HIt1 HJ1 HWr
            gi_wp2
            go_roundw
            case rel => exact ⟨m, pos + wd, acc ++ Lib.encodeRune (c : Int), ls, rfl, HI2, HIt2, HJ2, HV2, by simp; omega, hpw, hls, by rw [List.map_append]; exact HW⟩
            case measure =>
              have h1 := HPt.out
              simp only [World.iterPos, HIt2.out] at h1 ⊢
              omega
        · have hst' : std a m = false := by simpa using hst
          rw [hst'] at HSt
          rw [if_neg hst, List.append_nil] at HW
          clear hst hst'
          by_cases hm0 : m = 0
          · have z1 : ((m : Int) == 0) = true := by simp; omega
            have z2 : ((a : Int) != 0) = false := by have := HE.out; simp; omega
            clear hm0
            gi_wp2_with fail
            refine ⟨trivial, (callsIn_wide.2 HFo.out).mono ?_⟩
            rintro e w1 ⟨rfl, h⟩
            obtain rfl := h.symm
            clear h HFo
            gi_wp2_with fail
            refine ⟨trivial, (callsIn_wide.2 HSt.out).mono ?_⟩
            rintro e w1 ⟨rfl, h⟩
            obtain rfl := h.symm
            clear h HSt
            gi_wp2
            go_roundw
            case rel => exact ⟨m, pos + wd, acc, ls, rfl, HI1, HIt1, HJ1, HV2, by omega, hpw, hls, HW⟩
            case measure =>
              have h1 := HPt.out
              simp only [World.iterPos, HIt1.out] at h1 ⊢
              omega
          · have z1 : ((m : Int) == 0) = false := by simp; omega
            clear hm0
            gi_wp2_with fail
            refine ⟨trivial, (callsIn_wide.2 HFo.out).mono ?_⟩
            rintro e w1 ⟨rfl, h⟩
            obtain rfl := h.symm
            clear h HFo
            gi_wp2_with fail
            refine ⟨trivial, (callsIn_wide.2 HSt.out).mono ?_⟩
            rintro e w1 ⟨rfl, h⟩
            obtain rfl := h.symm
            clear h HSt
            gi_wp2
            go_roundw
            case rel => exact ⟨m, pos + wd, acc, ls, rfl, HI1, HIt1, HJ1, HV2, by omega, hpw, hls, HW⟩
            case measure =>
              have h1 := HPt.out
              simp only [World.iterPos, HIt1.out] at h1 ⊢
              omega
    · have hnx : ∀ ty, (Instr.next (.pointer (some ⟨W.heap.size + 1, 0, none⟩)) true ty).run Tryd.prog wr = _ := fun ty => Lib.run_next_end_at wr (W.heap.size + 1) t pos ty HIt.out hp
      have hw := HW.out
      rw [nums_end t pos hp, wrd] at hw
      simp only [List.append_nil] at hw
      have HW2 := hide hw
      clear hw HW HV
      by_cases ha : a = 0
      · have z1 : ((a : Int) != 0) = false := by simp; omega
        have HA := hide ha
        clear ha
        gi_wp2
        go_end0
        exact ⟨⟨_, rfl⟩, Or.inl ⟨ls, HW2.out.1, by rw [← HW2.out.2]; exact HA.out, hls, HJl.out⟩⟩
      · have z1 : ((a : Int) != 0) = true := by simp; omega
        have HA := hide ha
        clear ha
        obtain ⟨fn, tmps, assign, body, hy, hR⟩ := HYf.out ls wr HJl.out
        have HR := hide hR
        clear hR
        gi_wp2
        refine HR.out.mono ?_
        rintro e W3 ⟨rfl, jx⟩
        have HX := hide jx
        clear jx HR hy
        gi_wp2
        go_end0
        exact ⟨⟨_, rfl⟩, Or.inr ⟨Or.inr (by rw [← HW2.out.2]; exact HA.out), HX.out⟩⟩

end Go.Proofs.YtbacgkfmnccheaaDoor
