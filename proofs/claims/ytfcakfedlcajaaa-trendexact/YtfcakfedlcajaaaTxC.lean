import Derived.Test.YtfcakfedlcajaaaTxA
import Derived.Test.YtfcakfedlcajaaaTrD
namespace Go.Proofs.Ytfcakfedlcajaaa
open Go.RowKit Go.Sort
open Fl

theorem Try.infoTw : (Try.prog.info? 32).map (fun i => (i.zero, i.size, i.bytes)) = some (some (.agg #[.pointer none, .pointer none]), 2, 16) := by kernel_rfl

/-- Weights that came in. -/
structure Wq where
  A : Int
  B : Int
  raw : Bool
  z : Nat
def wqC (q : Wq) : List Value := [.int .i64 q.A, .int .i64 q.B, .bool q.raw, .int .u64 (q.z : Int)]
def Wts (w : World) (sp : Option Addr) (ws : List Wq) : Prop :=
  ∀ (j : Nat) (q : Wq), ws[j]? = some q → ∃ g o, sp = some ⟨g, o, none⟩ ∧ g < w.heap.size ∧ (∀ (k : Nat) (u : Value), (wqC q)[k]? = some u → w.cell? ⟨g, o + j * 4 + k, none⟩ = some u) ∧ Wf q.z

theorem fits_iff {b : Nat} (hw : Wf b) : Fits b ↔ (0 < b ∧ b ≤ 4607182418800017408) := by
  have hr := rg_split hw
  unfold Fits key Nn
  constructor
  · rintro ⟨h1, h2, h3⟩
    rcases hr with ⟨n, e⟩ | ⟨n, e⟩ <;> rw [n] at h2 h3 <;> simp at h2 h3 <;> omega
  · rintro ⟨h1, h2⟩
    rcases hr with ⟨n, e⟩ | ⟨n, e⟩
    · omega
    · rw [n]; simp; omega
theorem fits_half : Fits 4602678819172646912 := by
  refine ⟨?_, ?_, ?_⟩
  · unfold Nn rg; omega
  · decide
  · decide

set_option maxRecDepth 100000 in
set_option maxHeartbeats 2000000 in
theorem begin_any (w : World) (sp : Option Addr) (l c : Nat) (ws : List Wq) (hl : ws.length = l) (hx : Wts w sp ws) :
    Calls Try.prog 6 #[.slice sp l c] w fun e w' => ∃ a n k tl, e = .returned (.tuple #[.slice a n k, .bool true]) ∧ Ex w w' (.slice a n k) tl ∧ tl.length = n ∧ 1 ≤ n ∧ n ≤ 41 ∧ ∀ (j : Nat) (p : Tw), tl[j]? = some p → p.T.n = 0 := by
  obtain ⟨i0, hi, hz⟩ : ∃ i, Try.prog.info? 32 = some i ∧ (i.zero, i.size, i.bytes) = (some (.agg #[.pointer none, .pointer none]), 2, 16) := by
    cases h : Try.prog.info? 32 with
    | none => have := Try.infoTw; rw [h] at this; cases this
    | some i => have := Try.infoTw; rw [h] at this; exact ⟨i, rfl, by simpa using this⟩
  obtain ⟨hz0, hz1, hz2⟩ : i0.zero = some (.agg #[.pointer none, .pointer none]) ∧ i0.size = 2 ∧ i0.bytes = 16 := by simpa using hz
  clear hz
  have HX := hide hx
  have HL := hide hl
  have HM := hide num_any
  have r1 := to_bits
  clear hx hl
  go_enter Try.func6, Try.ntmps6
  go_wp2
  go_loopw [4, 5] (fun ov iv wr => ∃ (i : Nat) (a : Option Addr) (k : Nat) (tl : List Tw), i ≤ l ∧ i ≤ 40 ∧ ov = .slice a tl.length k ∧ iv = .int .i64 (i : Int) ∧ tl.length ≤ i ∧ Hid (Ex w wr (.slice a tl.length k) tl) ∧ Hid (∀ (j : Nat) (p : Tw), tl[j]? = some p → p.T.n = 0)) (fun _ i _ => 40 - (intOf i).toNat)
  case atStart => exact ⟨0, none, 0, [], by omega, by omega, rfl, rfl, Nat.le_refl _, hide (Ex.nil (Below.refl _ _)), hide (fun j p h => by simp at h)⟩
  case round =>
    obtain ⟨i, a, k, tl, hi1, hi2, rfl, rfl, htl, HE, HN⟩ := hrel
    by_cases hlt : i < l ∧ i < 40
    · obtain ⟨hlt, hlt4⟩ := hlt
      obtain ⟨q, hq⟩ : ∃ q, ws[i]? = some q := ⟨_, List.getElem?_eq_getElem (by have := HL.out; omega)⟩
      obtain ⟨g, o, rfl, hg, hc, hzf⟩ := HX.out i q hq
      have HV := hide (fun w => value_any w q.A q.B q.raw q.z hzf)
      have i1 : (0 : Int) ≤ (i : Int) := by omega
      have i2 : (i : Int) < (l : Int) := by omega
      have i3 : (i : Int) < 40 := by omega
      have HCc : Hid (∀ wx, Below w.heap.size w wx → wx.cell? ⟨g, o + i * 4, none⟩ = some (.int .i64 q.A) ∧ wx.cell? ⟨g, o + i * 4 + 1, none⟩ = some (.int .i64 q.B) ∧ wx.cell? ⟨g, o + i * 4 + 2, none⟩ = some (.bool q.raw) ∧ wx.cell? ⟨g, o + i * 4 + 3, none⟩ = some (.int .u64 (q.z : Int))) := hide (fun wx hb =>
        ⟨(hb.cell (p := ⟨g, o + i * 4, none⟩) hg).trans (hc 0 _ rfl), (hb.cell (p := ⟨g, o + i * 4 + 1, none⟩) hg).trans (hc 1 _ rfl), (hb.cell (p := ⟨g, o + i * 4 + 2, none⟩) hg).trans (hc 2 _ rfl), (hb.cell (p := ⟨g, o + i * 4 + 3, none⟩) hg).trans (hc 3 _ rfl)⟩)
      obtain ⟨x0, x1, x2, x3⟩ := HCc.out _ HE.out.bel
      clear hc hq hzf
      go_wp2_with (first
        | (go_at_call 13; refine (HV.out _).mono ?_; rintro e w2 ⟨⟨b1, rfl, hv1⟩, hbl, hsz⟩; have HV1 := hide hv1; have HE2 := hide (HE.out.grow hbl); have HS2 := hide hsz; clear hv1 hbl hsz))
      refine (New_any w2 b1).mono ?_
      rintro e w3 (⟨hf, rfl, hk3, hbl, hsz⟩ | ⟨hf, rfl, rfl⟩)
      · have HF := hide hf
        have HK3 := hide hk3
        have HE3 := hide (HE2.out.grow hbl)
        have HS3 := hide hsz
        obtain ⟨x0, x1, x2, x3⟩ := HCc.out _ HE3.out.bel
        clear hf hk3 hbl hsz
        go_wp2_with (first
          | (go_at_call 13; refine (HV.out _).mono ?_; rintro e w4 ⟨⟨b2, rfl, hv2⟩, hbl, hsz⟩; have HV2 := hide hv2; have HE4 := hide (HE3.out.grow hbl); have HK4 := hide (HK3.out.kept (hbl.block _ HK3.out.lt)); have HS4 := hide hsz; clear hv2 hbl hsz))
        obtain rfl := HV1.out.fits HV2.out HF.out
        refine (RNew_any w4 b2).mono ?_
        rintro e w5 (⟨_, rfl, hk5, hbl, hsz⟩ | ⟨hno, _, _⟩)
        rotate_left
        · exact absurd ((fits_iff HV2.out.1).1 HF.out) hno
        have HE5 := hide (HE4.out.grow hbl)
        have HK5 := hide (HK4.out.kept (hbl.block _ HK4.out.lt))
        have HR5 := hide hk5
        have HS5 := hide hsz
        clear hk5 hbl hsz x0 x1 x2 x3
        have HE6 := hide (HE5.out.grow ((Below.refl _ _).alloc (Nat.le_refl _) (.cells #[.pointer (some ⟨w2.heap.size, 0, none⟩), .pointer (some ⟨w4.heap.size, 0, none⟩)] 32)))
        have HK6 : Hid (Tk (w5.alloc (.cells #[.pointer (some ⟨w2.heap.size, 0, none⟩), .pointer (some ⟨w4.heap.size, 0, none⟩)] 32)) w2.heap.size ⟨b2, 0, 0⟩) := hide (HK5.out.kept (((Below.refl _ _).alloc (Nat.le_refl _) (.cells #[.pointer (some ⟨w2.heap.size, 0, none⟩), .pointer (some ⟨w4.heap.size, 0, none⟩)] 32)).block _ HK5.out.lt))
        have HR6 : Hid (Rk (w5.alloc (.cells #[.pointer (some ⟨w2.heap.size, 0, none⟩), .pointer (some ⟨w4.heap.size, 0, none⟩)] 32)) w4.heap.size ⟨b2, 0, 0⟩) := hide (HR5.out.below ((Below.refl _ _).alloc (Nat.le_refl _) (.cells #[.pointer (some ⟨w2.heap.size, 0, none⟩), .pointer (some ⟨w4.heap.size, 0, none⟩)] 32)))
        have HOk := hide (HF.out.ok2 HV1.out.1)
        have e5 : (w5.alloc (.cells #[.pointer (some ⟨w2.heap.size, 0, none⟩), .pointer (some ⟨w4.heap.size, 0, none⟩)] 32)).heap.size = w5.heap.size + 1 := by unfold World.alloc; exact Array.size_push _
        have hA : w.heap.size ≤ w2.heap.size := HE2.out.bel.size
        have hB : w2.heap.size < w4.heap.size := by have := HS3.out; have := HS4.out; omega
        have hD : w.heap.size ≤ (w5.alloc (.cells #[.pointer (some ⟨w2.heap.size, 0, none⟩), .pointer (some ⟨w4.heap.size, 0, none⟩)] 32)).heap.size := by have := HS5.out; omega
        have hH : w5.heap.size ≤ (w5.alloc (.cells #[.pointer (some ⟨w2.heap.size, 0, none⟩), .pointer (some ⟨w4.heap.size, 0, none⟩)] 32)).heap.size := by omega
        clear e5
        have HLow : Hid ((∀ (j : Nat) (q : Tw), tl[j]? = some q → q.bt < w2.heap.size ∧ q.br < w2.heap.size) ∧ ∀ g, (Value.slice a tl.length k).ownBlock = some g → g < w2.heap.size) := hide ⟨fun j q hj => ⟨(HE2.out.tk j q hj).lt, (HE2.out.rk j q hj).lt⟩, fun g hg => (owns_at HE2.out.row hg).1⟩
        clear HE2 HE3 HE4 HE5 HK3 HK4 HK5 HR5 HS2 HS3 HS4 HS5 HV1 HV2 HV HCc HF
        generalize w2.heap.size = bt at *
        generalize w4.heap.size = br at *
        go_wp2_with (first
          | (go_at_call 14; refine (HM.out _ _).mono ?_; rintro e w6 ⟨rfl, h⟩; obtain rfl := h.symm; clear h)
          | (at_builtin; refine wpList_append_lies _ rfl (.tmp 54) (.tmp 58) 26 rfl w.heap.size 32 i0 (.agg #[.pointer none, .pointer none]) 2 16 Try.underlying26 hi hz0 hz1 hz2 rfl (by omega) (.slice a tl.length k) tl.length _ rfl HE6.out.row ⟨w5.heap.size, 0, none⟩ 1 1 [.pointer (some ⟨bt, 0, none⟩), .pointer (some ⟨br, 0, none⟩)] rfl rfl (World.news_of_block (heap_alloc_new w5 (.cells #[.pointer (some ⟨bt, 0, none⟩), .pointer (some ⟨br, 0, none⟩)] 32))) (by simp [Value.oneCell']) (by omega) (by unfold maxLen; omega) (by omega) hD _ rfl ?_; intro ga cap w7 hown hgrow hat hlt7; have HE7 := hide (Ex.more (p := ⟨bt, br, ⟨b2, 0, 0⟩⟩) HE6.out hown hgrow (by rfl) (hat.imp id (fun e => by rw [e]; exact Nat.le_refl _)) HK6.out HR6.out HOk.out hA HLow.out.1 hB HLow.out.2); clear hown hgrow hat hlt7))
        go_roundw
        case rel =>
          refine ⟨i + 1, some ⟨ga, 0, none⟩, cap, tl ++ [⟨bt, br, ⟨b2, 0, 0⟩⟩], by omega, by omega, by rw [List.length_append]; rfl, by go_num, by rw [List.length_append]; show tl.length + 1 ≤ i + 1; omega, ?_, hide (fun j p hj => ?_)⟩
          · rw [List.length_append]; exact HE7
          · rcases idx_app hj with hj | ⟨_, rfl⟩
            · exact HN.out j p hj
            · rfl
        case measure => simp [intOf]; omega
      · have HF := hide hf
        obtain ⟨x0, x1, x2, x3⟩ := HCc.out _ HE2.out.bel
        clear hf
        go_wp2_with (first
          | (go_at_call 13; refine (HV.out _).mono ?_; rintro e w4 ⟨⟨b2, rfl, hv2⟩, hbl, hsz⟩; have HV2 := hide hv2; have HE4 := hide (HE2.out.grow hbl); clear hv2 hbl hsz))
        refine (RNew_any w4 b2).mono ?_
        rintro e w5 (⟨hyes, _, _⟩ | ⟨hno, rfl, rfl⟩)
        · exact absurd (by have hf2 := (fits_iff HV2.out.1).2 hyes; rw [HV2.out.fits HV1.out hf2]; exact hf2) HF.out
        clear hno HF HV1 HV2 HV HE2 HCc x0 x1 x2 x3
        go_wp2_with (first
          | (go_at_call 14; refine (HM.out _ _).mono ?_; rintro e w6 ⟨rfl, h⟩; obtain rfl := h.symm; clear h))
        go_roundw
        case rel => exact ⟨i + 1, a, k, tl, by omega, by omega, rfl, by go_num, by omega, HE4, HN⟩
        case measure => simp [intOf]; omega
    · have ht : (decide ((i : Int) < (l : Int)) = false) ∨ (decide ((i : Int) < (l : Int)) = true ∧ decide ((i : Int) < 40) = false) := by
        by_cases h : i < l
        · exact Or.inr ⟨by simp; omega, by simp; omega⟩
        · exact Or.inl (by simp; omega)
      rcases ht with ht | ⟨ht, ht2⟩
      all_goals go_wp2_with (first | fail)
      all_goals refine (New_any wr _).mono ?_
      all_goals rintro e w3 (⟨hf, rfl, hk3, hbl, hsz⟩ | ⟨hf, _, _⟩)
      all_goals first | exact absurd fits_half hf | skip
      all_goals have hA : w.heap.size ≤ wr.heap.size := HE.out.bel.size
      all_goals have hB : wr.heap.size < w3.heap.size := (by omega)
      all_goals have HLow : Hid ((∀ (j : Nat) (q : Tw), tl[j]? = some q → q.bt < wr.heap.size ∧ q.br < wr.heap.size) ∧ ∀ g, (Value.slice a tl.length k).ownBlock = some g → g < wr.heap.size) := hide ⟨fun j q hj => ⟨(HE.out.tk j q hj).lt, (HE.out.rk j q hj).lt⟩, fun g hg => (owns_at HE.out.row hg).1⟩
      all_goals have HE3 := hide (HE.out.grow hbl)
      all_goals have HK3 := hide hk3
      all_goals clear hf hk3 hbl hsz HE
      all_goals generalize wr.heap.size = bt at *
      all_goals have HE6 := hide (HE3.out.grow (below_two w3 (.cells #[.int .u64 4602678819172646912, .int .u64 0, .int .i64 0] 62) (.cells #[.pointer (some ⟨bt, 0, none⟩), .pointer (some ⟨w3.heap.size, 0, none⟩)] 32)))
      all_goals have HK6 : Hid (Tk ((w3.alloc (.cells #[.int .u64 4602678819172646912, .int .u64 0, .int .i64 0] 62)).alloc (.cells #[.pointer (some ⟨bt, 0, none⟩), .pointer (some ⟨w3.heap.size, 0, none⟩)] 32)) bt ⟨4602678819172646912, 0, 0⟩) := hide (HK3.out.kept ((below_two w3 (.cells #[.int .u64 4602678819172646912, .int .u64 0, .int .i64 0] 62) (.cells #[.pointer (some ⟨bt, 0, none⟩), .pointer (some ⟨w3.heap.size, 0, none⟩)] 32)).block _ HK3.out.lt))
      all_goals have HR5 : Hid (Rk (w3.alloc (.cells #[.int .u64 4602678819172646912, .int .u64 0, .int .i64 0] 62)) w3.heap.size ⟨4602678819172646912, 0, 0⟩) := hide (heap_alloc_new _ _)
      all_goals have HR6 : Hid (Rk ((w3.alloc (.cells #[.int .u64 4602678819172646912, .int .u64 0, .int .i64 0] 62)).alloc (.cells #[.pointer (some ⟨bt, 0, none⟩), .pointer (some ⟨w3.heap.size, 0, none⟩)] 32)) w3.heap.size ⟨4602678819172646912, 0, 0⟩) := hide (HR5.out.below ((Below.refl _ _).alloc (Nat.le_refl _) (.cells #[.pointer (some ⟨bt, 0, none⟩), .pointer (some ⟨w3.heap.size, 0, none⟩)] 32)))
      all_goals have hD : w.heap.size ≤ ((w3.alloc (.cells #[.int .u64 4602678819172646912, .int .u64 0, .int .i64 0] 62)).alloc (.cells #[.pointer (some ⟨bt, 0, none⟩), .pointer (some ⟨w3.heap.size, 0, none⟩)] 32)).heap.size := HE6.out.bel.size
      all_goals have HOk : Hid ((Td.mk 4602678819172646912 0 0).Ok2) := hide (fits_half.ok2 (by unfold Wf; omega))
      all_goals go_wp2_with (first
        | (go_at_call 14; refine (HM.out _ _).mono ?_; rintro e w6 ⟨rfl, h⟩; obtain rfl := h.symm; clear h)
        | (at_builtin; refine wpList_append_lies _ rfl (.tmp 71) (.tmp 77) 26 rfl w.heap.size 32 i0 (.agg #[.pointer none, .pointer none]) 2 16 Try.underlying26 hi hz0 hz1 hz2 rfl (by omega) (.slice a tl.length k) tl.length _ rfl HE6.out.row ⟨w3.heap.size + 1, 0, none⟩ 1 1 [.pointer (some ⟨bt, 0, none⟩), .pointer (some ⟨w3.heap.size, 0, none⟩)] rfl rfl (World.news_of_block (heap_two w3 (.cells #[.int .u64 4602678819172646912, .int .u64 0, .int .i64 0] 62) (.cells #[.pointer (some ⟨bt, 0, none⟩), .pointer (some ⟨w3.heap.size, 0, none⟩)] 32))) (by simp [Value.oneCell']) (by omega) (by unfold maxLen; omega) (by omega) hD _ rfl ?_; intro ga cap w7 hown hgrow hat hlt7; have HE7 := hide (Ex.more (p := ⟨bt, w3.heap.size, ⟨4602678819172646912, 0, 0⟩⟩) HE6.out hown hgrow (by rfl) (hat.imp id (fun e => by rw [e]; exact Nat.le_refl _)) HK6.out HR6.out HOk.out hA HLow.out.1 hB HLow.out.2); clear hown hgrow hat hlt7))
      all_goals go_ret2
      all_goals refine ⟨some ⟨ga, 0, none⟩, tl.length + 1, cap, tl ++ [⟨bt, w3.heap.size, ⟨4602678819172646912, 0, 0⟩⟩], rfl, HE7.out, by rw [List.length_append]; rfl, by omega, by omega, fun j p hj => ?_⟩
      all_goals (rcases idx_app hj with hj | ⟨_, rfl⟩; exact HN.out j p hj; rfl)
end Go.Proofs.Ytfcakfedlcajaaa
namespace Go.Proofs.Ytfcakfedlcajaaa
open Go.RowKit Go.Sort
open Fl

/-- Steps that came in. -/
structure Oq where
  which : Int
  kind : Int
  x : Int
def oqC (q : Oq) : List Value := [.int .i64 q.which, .int .i64 q.kind, .int .i64 q.x]
def Oqs (w : World) (sp : Option Addr) (os : List Oq) : Prop :=
  ∀ (j : Nat) (q : Oq), os[j]? = some q → ∃ g o, sp = some ⟨g, o, none⟩ ∧ g < w.heap.size ∧ (∀ (k : Nat) (u : Value), (oqC q)[k]? = some u → w.cell? ⟨g, o + j * 3 + k, none⟩ = some u) ∧ -9223372036854775808 ≤ q.x ∧ q.x ≤ 9223372036854775807

theorem Ex.form {W w : World} {v : Value} {l : List Tw} (h : Ex W w v l) (h0 : 1 ≤ l.length) : ∃ g k, v = .slice (some ⟨g, 0, none⟩) l.length k ∧ W.heap.size ≤ g ∧ ∀ (j : Nat) (p : Tw), l[j]? = some p → w.cell? ⟨g, j * 2, none⟩ = some (pt p.bt) ∧ w.cell? ⟨g, j * 2 + 1, none⟩ = some (pt p.br) := by
  rcases h.row.2 with ⟨_, h2⟩ | ⟨g, cap, cur, h1, hb, hg, _, _, _, ht⟩
  · omega
  · refine ⟨g, cap, h1, hb, fun j p hj => ?_⟩
    have hlt : j < l.length := (List.getElem?_eq_some_iff.1 hj).1
    obtain ⟨a, b⟩ := twC_at l j p hj
    have hcell : ∀ i u, (twC l)[i]? = some u → w.cell? ⟨g, i, none⟩ = some u := fun i u hu => by
      rw [← ht, List.getElem?_take] at hu
      split at hu
      · simp [World.cell?, hg]; simpa using hu
      · cases hu
    exact ⟨hcell _ _ a, hcell _ _ b⟩

theorem Onl.undrew {b : Nat} {w u : World} (h : Onl b w.drew u) : Onl b w u := ⟨h.os, h.tape, h.output, h.size, h.block⟩
theorem Chg.undrew {b : Nat} {w u : World} (h : Chg b w.drew u) : Chg b w u := ⟨h.os, h.tape, h.output, h.size, h.block⟩

theorem and_mask2 (y : Int) : ∃ q : Nat, bits .and .i64 y 65535 = (q : Int) ∧ q ≤ 65535 := by
  have hq : (BitVec.ofInt 64 y &&& BitVec.ofInt 64 (65535 : Int)).toNat ≤ 65535 := by
    rw [BitVec.toNat_and]
    exact Nat.le_trans Nat.and_le_right (by decide)
  have h1 : bits .and .i64 y 65535 = IntKind.i64.wrap ((BitVec.ofInt 64 y &&& BitVec.ofInt 64 (65535 : Int)).toNat : Int) := rfl
  generalize (BitVec.ofInt 64 y &&& BitVec.ofInt 64 (65535 : Int)).toNat = q at *
  refine ⟨q, ?_, hq⟩
  rw [h1, IntKind.wrap_i64]
  omega

set_option maxRecDepth 100000 in
set_option maxHeartbeats 4000000 in
theorem exact_all (w : World) (sp1 : Option Addr) (l1 c1 : Nat) (sp2 : Option Addr) (l2 c2 : Nat) (ws : List Wq) (os : List Oq) (hl1 : ws.length = l1) (hl2 : os.length = l2) (hx1 : Wts w sp1 ws) (hx2 : Oqs w sp2 os) (hb2 : l2 ≤ 140737488355328) :
    Calls Try.prog 3 #[.agg #[.slice sp1 l1 c1, .slice sp2 l2 c2]] w fun e w' => e = .returned (.bool true) ∧ Below w.heap.size w w' := by
  have hb0 : Below w.heap.size w (w.alloc (.cells #[.slice sp1 l1 c1, .slice sp2 l2 c2] 25)) := (Below.refl _ _).alloc (Nat.le_refl _) _
  have e0 : (w.alloc (.cells #[.slice sp1 l1 c1, .slice sp2 l2 c2] 25)).heap.size = w.heap.size + 1 := by unfold World.alloc; exact Array.size_push _
  have hx1' : Wts (w.alloc (.cells #[.slice sp1 l1 c1, .slice sp2 l2 c2] 25)) sp1 ws := fun j q hj => by
    obtain ⟨g, o, e, hg, hc, hz⟩ := hx1 j q hj
    exact ⟨g, o, e, by rw [e0]; omega, fun k u hu => (hb0.cell (p := ⟨g, o + j * 4 + k, none⟩) hg).trans (hc k u hu), hz⟩
  have HBg := hide (begin_any (w.alloc (.cells #[.slice sp1 l1 c1, .slice sp2 l2 c2] 25)) sp1 l1 c1 ws hl1 hx1')
  have HX2 := hide hx2
  have HL2 := hide hl2
  have HE0 := hide e0
  have HB0 := hide hb0
  have HBx : Hid (∀ wx, Below (w.alloc (.cells #[.slice sp1 l1 c1, .slice sp2 l2 c2] 25)).heap.size (w.alloc (.cells #[.slice sp1 l1 c1, .slice sp2 l2 c2] 25)) wx → wx.heap[w.heap.size]? = some (.cells #[.slice sp1 l1 c1, .slice sp2 l2 c2] 25 (0, 0))) := hide (fun wx hb => (hb.block _ (by rw [e0]; omega)).trans (heap_alloc_new _ _))
  clear hx1 hx2 hl1 hl2 hx1' hb0 e0
  go_enter Try.func3, Try.ntmps3
  go_upto_region 4 with (first
    | (go_at_call 6; refine HBg.out.mono ?_; rintro e w2 ⟨a, n, k, tl, rfl, hex, hln, hn1, hn2, hz⟩; have HEX := hide hex; have HLN := hide hln; have HZ := hide hz; clear hex hln hz))
  clear HBg
  generalize (w.alloc (.cells #[.slice sp1 l1 c1, .slice sp2 l2 c2] 25)) = W at *
  obtain ⟨gr, k', hv, hgr, hcl⟩ := HEX.out.form (by have := HLN.out; omega)
  obtain ⟨rfl, hnn, rfl⟩ : a = some ⟨gr, 0, none⟩ ∧ n = tl.length ∧ k = k' := by simpa using hv
  clear hnn
  obtain ⟨m, rfl⟩ : ∃ m, n = m + 1 := ⟨n - 1, by omega⟩
  have HGr := hide hgr
  obtain ⟨p, hp⟩ : ∃ p, tl[m]? = some p := ⟨_, List.getElem?_eq_getElem (by have := HLN.out; omega)⟩
  obtain ⟨x0, x1⟩ := hcl m p hp
  have HP := hide hp
  have HT1 := HEX.out.tk m p hp
  have HR1 := hide (HEX.out.rk m p hp)
  have HK2 := HEX.out.ok m p hp
  have HN0 := HZ.out m p hp
  have f0 := HEX.out.far m m p p hp hp
  have up := HEX.out.up m p hp
  have hof := HEX.out.off gr rfl m p hp
  have HNt := hide (Note_any w2 p.bt p.T 7 HT1 HK2.ok (by omega) (by omega) (by omega))
  have HRn : Hid (∀ u, Rk u p.br p.T → Calls Try.prog 8 #[.pointer (some ⟨p.br, 0, none⟩), .int .i64 7] u fun e w' => e = .returned (.tuple #[]) ∧ Rk w' p.br (p.T.note 7) ∧ Chg p.br u w') := hide (fun u hu => RNote_any u p.br p.T 7 hu HK2 (by omega) (by omega) (by omega))
  have HOk := hide (HK2.note (x := 7) (by omega) (by omega))
  have HN7 : Hid ((p.T.note 7).n = 1) := hide (by show p.T.n + 1 = 1; omega)
  have HF := hide f0
  have HUp := hide up
  have HOf := hide hof
  unfold pt at x0 x1
  clear hv hcl hgr hp HT1 HK2 HN0 f0 up hof
  obtain ⟨bt, br, T⟩ := p
  simp only [] at x0 x1 HNt HRn HOk HN7 HF HUp HOf HR1
  generalize T.note 7 = T' at *
  go_upto_region 6 with (first
    | (go_at_call 7; refine HNt.out.mono ?_; rintro e w3 ⟨rfl, hk, ho⟩; have HO3 := hide ho; have HK3 := hide hk; have HR3 := hide (HR1.out.kept (ho.block br (fun e => HF.out.2.2 e.symm))); have HRc := hide (HRn.out w3 HR3.out); have x1b : w3.cell? ⟨gr, m * 2 + 1, none⟩ = _ := (World.cell?_of_block (a := ⟨gr, m * 2 + 1, none⟩) (ho.block gr (fun e => HOf.out.1 e.symm))).trans x1; clear hk ho)
    | (go_at_call 8; refine HRc.out.mono ?_; rintro e w4 ⟨rfl, hk, hc⟩; have HE4 := hide (HEX.out.noted HP.out HO3.out HK3.out hc hk HOk.out); clear hk hc))
  have HE5 : Hid (∃ tl : List Tw, Ex W w4 (.slice (some ⟨gr, 0, none⟩) (m + 1) k) tl ∧ tl.length = m + 1 ∧ ∀ (j : Nat) (p : Tw), tl[j]? = some p → p.T.n ≤ 1) := hide ⟨_, HE4.out, by rw [List.length_set]; exact HLN.out, fun j p hj => by
    rcases idx_set hj with ⟨_, rfl⟩ | ⟨_, hj⟩
    · exact Nat.le_of_eq HN7.out
    · rw [HZ.out j p hj]; omega⟩
  clear HE4 HEX HZ HLN HP HR1 HNt HRn HOk HN7 HF HUp HOf HO3 HK3 HR3 HRc x0 x1 x1b
  go_wp2_with (first | fail)
  go_loopw [5] (fun iv wr => ∃ (i : Nat) (tl : List Tw), i ≤ l2 ∧ iv = .int .i64 (i : Int) ∧ Hid (Ex W wr (.slice (some ⟨gr, 0, none⟩) (m + 1) k) tl) ∧ Hid (tl.length = m + 1) ∧ Hid (∀ (j : Nat) (p : Tw), tl[j]? = some p → p.T.n ≤ i + 1)) (fun i _ => l2 - (intOf i).toNat)
  case atStart =>
    obtain ⟨tl0, h1, h2, h3⟩ := HE5.out
    exact ⟨0, tl0, by omega, rfl, hide h1, hide h2, hide h3⟩
  case round =>
    obtain ⟨i, tl2, hi, rfl, HE, HLn, HNn⟩ := hrel
    clear HE5
    by_cases hlt : i < l2
    · obtain ⟨q, hq⟩ : ∃ q, os[i]? = some q := ⟨_, List.getElem?_eq_getElem (by have := HL2.out; omega)⟩
      obtain ⟨g2, o2, rfl, hg2, hc2, hr1, hr2⟩ := HX2.out i q hq
      have hbw : ∀ wx, Below W.heap.size W wx → Below w.heap.size w wx := fun wx hb => HB0.out.trans (hb.mono (by have := HE0.out; omega))
      have HCc : Hid (∀ wx, Below W.heap.size W wx → wx.cell? ⟨g2, o2 + i * 3, none⟩ = some (.int .i64 q.which) ∧ wx.cell? ⟨g2, o2 + i * 3 + 1, none⟩ = some (.int .i64 q.kind) ∧ wx.cell? ⟨g2, o2 + i * 3 + 2, none⟩ = some (.int .i64 q.x) ∧ wx.cell? ⟨w.heap.size, 1, none⟩ = some (.slice (some ⟨g2, o2, none⟩) l2 c2)) := hide (fun wx hb =>
        ⟨((hbw wx hb).cell (p := ⟨g2, o2 + i * 3, none⟩) hg2).trans (hc2 0 _ rfl), ((hbw wx hb).cell (p := ⟨g2, o2 + i * 3 + 1, none⟩) hg2).trans (hc2 1 _ rfl), ((hbw wx hb).cell (p := ⟨g2, o2 + i * 3 + 2, none⟩) hg2).trans (hc2 2 _ rfl), (cells2 (HBx.out wx hb)).2⟩)
      obtain ⟨qq, hq1, hq2⟩ := and_mask2 q.which
      obtain ⟨j, hj⟩ : ∃ j : Nat, (qq : Int).tmod ((m : Int) + 1) = (j : Int) := ⟨qq % (m + 1), by rw [Int.tmod_eq_emod_of_nonneg (by omega), Int.natCast_emod]; rfl⟩
      have hjm : j < m + 1 := by
        rw [Int.tmod_eq_emod_of_nonneg (by omega)] at hj
        have := Int.emod_lt_of_pos (qq : Int) (show (0 : Int) < (m : Int) + 1 by omega)
        omega
      obtain ⟨⟨bt, br, T⟩, hp⟩ : ∃ p, tl2[j]? = some p := ⟨_, List.getElem?_eq_getElem (by have := HLn.out; omega)⟩
      obtain ⟨gr', k', hv, _, hcl⟩ := HE.out.form (by have := HLn.out; omega)
      obtain ⟨rfl, hnn, rfl⟩ : gr = gr' ∧ m + 1 = tl2.length ∧ k = k' := by simpa using hv
      obtain ⟨p0, p1⟩ := hcl j _ hp
      simp only [pt] at p0 p1
      clear hcl hnn hv hq hc2
      obtain ⟨z0, z1, z2, y1⟩ := HCc.out _ HE.out.bel
      have i1 : (0 : Int) ≤ (i : Int) := by omega
      have i2 : (i : Int) < (l2 : Int) := by omega
      have j1 : (0 : Int) ≤ (j : Int) := by omega
      have j2 : (j : Int) < (m : Int) + 1 := by omega
      have m1 : ((m : Int) + 1 == 0) = false := beq_eq_false_iff_ne.2 (by omega)
      have HEa := hide (HE.out.grow ((Below.refl _ _).alloc (Nat.le_refl _) (.cells #[.pointer (some ⟨bt, 0, none⟩), .pointer (some ⟨br, 0, none⟩)] 32)))
      have HTa := hide (HEa.out.tk j _ hp)
      have HRa := hide (HEa.out.rk j _ hp)
      have HOk := hide (HE.out.ok j _ hp)
      have HUp := hide (HE.out.up j _ hp)
      have HF := hide ((HE.out.far j j _ _ hp hp).2.2)
      have HTl := hide (And.intro (HE.out.tk j _ hp).lt (HE.out.rk j _ hp).lt)
      have hTn := HNn.out j _ hp
      have HP := hide hp
      simp only [] at HTa HRa HOk HUp HF HTl hTn
      obtain ⟨a0, a1, a2, ay⟩ := HCc.out _ HEa.out.bel
      have HVa : Hid ((wr.alloc (.cells #[.pointer (some ⟨bt, 0, none⟩), .pointer (some ⟨br, 0, none⟩)] 32)).heap[wr.heap.size]? = some (.cells #[.pointer (some ⟨bt, 0, none⟩), .pointer (some ⟨br, 0, none⟩)] 32 (0, 0))) := hide (heap_alloc_new _ _)
      obtain ⟨v0, v1⟩ := cells2 HVa.out
      clear hp
      by_cases k1 : q.kind = 1
      · rw [k1] at z1 a1
        have HNt : Hid (∀ u, Tk u bt T → Calls Try.prog 7 #[.pointer (some ⟨bt, 0, none⟩), .int .i64 q.x] u fun e w' => e = .returned (.tuple #[]) ∧ Tk w' bt (T.note q.x) ∧ Onl bt u w') := hide (fun u hu => Note_any u bt T q.x hu HOk.out.ok hr1 hr2 (by omega))
        have HRn : Hid (∀ u, Rk u br T → Calls Try.prog 8 #[.pointer (some ⟨br, 0, none⟩), .int .i64 q.x] u fun e w' => e = .returned (.tuple #[]) ∧ Rk w' br (T.note q.x) ∧ Chg br u w') := hide (fun u hu => RNote_any u br T q.x hu HOk.out hr1 hr2 (by omega))
        have HO2 := hide (HOk.out.note (x := q.x) hr1 hr2)
        have HT2n : Hid ((T.note q.x).n = T.n + 1) := hide rfl
        go_upto_region 12 with (first | fail)
        clear z0 z1 z2 y1 p0 p1
        generalize T.note q.x = T2 at *
        have hS12 : Hid (∀ u, Onl bt (wr.alloc (.cells #[.pointer (some ⟨bt, 0, none⟩), .pointer (some ⟨br, 0, none⟩)] 32)).drew u → u.cell? ⟨wr.heap.size, 0, none⟩ = some (.pointer (some ⟨bt, 0, none⟩)) ∧ u.cell? ⟨wr.heap.size, 1, none⟩ = some (.pointer (some ⟨br, 0, none⟩)) ∧ u.cell? ⟨w.heap.size, 1, none⟩ = some (.slice (some ⟨g2, o2, none⟩) l2 c2) ∧ u.cell? ⟨g2, o2 + i * 3 + 2, none⟩ = some (.int .i64 q.x)) := hide (fun u ho => by
          have n1 : wr.heap.size ≠ bt := by have := HTl.out.1; omega
          have n2 : w.heap.size ≠ bt := by have := HUp.out.1; have := HE0.out; omega
          have n3 : g2 ≠ bt := by have := HUp.out.1; have := HE0.out; omega
          exact ⟨(World.cell?_of_block (a := ⟨wr.heap.size, 0, none⟩) (ho.block _ n1)).trans v0, (World.cell?_of_block (a := ⟨wr.heap.size, 1, none⟩) (ho.block _ n1)).trans v1, (World.cell?_of_block (a := ⟨w.heap.size, 1, none⟩) (ho.block _ n2)).trans ay, (World.cell?_of_block (a := ⟨g2, o2 + i * 3 + 2, none⟩) (ho.block _ n3)).trans a2⟩)
        go_region_held3 (fun w' => w'.cell? ⟨wr.heap.size, 0, none⟩ = some (.pointer (some ⟨bt, 0, none⟩)) ∧ w'.cell? ⟨w.heap.size, 1, none⟩ = some (.slice (some ⟨g2, o2, none⟩) l2 c2) ∧ w'.cell? ⟨g2, o2 + i * 3 + 2, none⟩ = some (.int .i64 q.x)) (go_keep) (first | (go_at_call 7; refine (HNt.out (wr.alloc (.cells #[.pointer (some ⟨bt, 0, none⟩), .pointer (some ⟨br, 0, none⟩)] 32)).drew HTa.out).mono ?_; rintro e w5 ⟨rfl, hk, ho⟩; have HK3 := hide hk; have HO3 := hide ho.undrew; obtain ⟨b0, b1, b2, b3⟩ := hS12.out w5 ho; clear hk ho) | fail)
        have HR3 := hide (HRa.out.kept (HO3.out.block br (fun e => HF.out e.symm)))
        clear a0 a1 a2 ay v0 v1
        go_upto_region 13 with (first | fail)
        have hS13 : Hid (∀ u, Chg br w5.drew u → u.cell? ⟨wr.heap.size, 0, none⟩ = some (.pointer (some ⟨bt, 0, none⟩)) ∧ u.cell? ⟨wr.heap.size, 1, none⟩ = some (.pointer (some ⟨br, 0, none⟩)) ∧ u.cell? ⟨w.heap.size, 1, none⟩ = some (.slice (some ⟨g2, o2, none⟩) l2 c2) ∧ u.cell? ⟨g2, o2 + i * 3 + 2, none⟩ = some (.int .i64 q.x)) := hide (fun u ho => by
          have n1 : wr.heap.size ≠ br := by have := HTl.out.2; omega
          have n2 : w.heap.size ≠ br := by have := HUp.out.2; have := HE0.out; omega
          have n3 : g2 ≠ br := by have := HUp.out.2; have := HE0.out; omega
          have hs : (wr.alloc (.cells #[.pointer (some ⟨bt, 0, none⟩), .pointer (some ⟨br, 0, none⟩)] 32)).heap.size = wr.heap.size + 1 := by unfold World.alloc; exact Array.size_push _
          have hs2 := HO3.out.size
          have hw := HE.out.bel.size
          have hw2 := HE0.out
          exact ⟨(World.cell?_of_block (a := ⟨wr.heap.size, 0, none⟩) (ho.block _ (show wr.heap.size < w5.heap.size by omega) n1)).trans b0, (World.cell?_of_block (a := ⟨wr.heap.size, 1, none⟩) (ho.block _ (show wr.heap.size < w5.heap.size by omega) n1)).trans b1, (World.cell?_of_block (a := ⟨w.heap.size, 1, none⟩) (ho.block _ (show w.heap.size < w5.heap.size by omega) n2)).trans b2, (World.cell?_of_block (a := ⟨g2, o2 + i * 3 + 2, none⟩) (ho.block _ (show g2 < w5.heap.size by omega) n3)).trans b3⟩)
        go_region_held3 (fun w' => w'.cell? ⟨wr.heap.size, 1, none⟩ = some (.pointer (some ⟨br, 0, none⟩)) ∧ w'.cell? ⟨w.heap.size, 1, none⟩ = some (.slice (some ⟨g2, o2, none⟩) l2 c2) ∧ w'.cell? ⟨g2, o2 + i * 3 + 2, none⟩ = some (.int .i64 q.x)) (go_keep) (first | (go_at_call 8; refine (HRn.out w5.drew HR3.out).mono ?_; rintro e w6 ⟨rfl, hk, hc⟩; have HK6 := hide hk; have HC6 := hide hc.undrew; obtain ⟨d0, d1, d2, d3⟩ := hS13.out w6 hc; clear hk hc) | fail)
        have HE6 := hide (HEa.out.noted (T' := T2) HP.out HO3.out HK3.out HC6.out HK6.out HO2.out)
        have HT6 : Hid (Tk w6 bt T2) := hide (HK3.out.kept (HC6.out.block _ HK3.out.lt HF.out))
        have HSm := hide (same_any w6 bt br T2 HT6.out HK6.out HO2.out.ok.a1)
        clear b0 b1 b2 b3
        go_wp2_with (first
          | (go_at_call 11; refine HSm.out.mono ?_; rintro e w7 ⟨rfl, hb⟩; have HE7 := hide (HE6.out.grow hb); clear hb))
        go_roundw
        case rel => exact ⟨i + 1, _, by omega, by go_num, HE7, hide (by rw [List.length_set]; exact HLn.out), hide (fun j' p' hj' => by
          rcases idx_set hj' with ⟨_, rfl⟩ | ⟨_, hj'⟩
          · show T2.n ≤ _; have := HT2n.out; omega
          · have := HNn.out j' p' hj'; omega)⟩
        case measure => simp [intOf]; omega
      · have k1' : (q.kind == 1) = false := beq_eq_false_iff_ne.2 k1
        by_cases k2 : q.kind = 2
        · rw [k2] at z1 a1
          obtain ⟨AD, had, hrad⟩ : ∃ AD : Int, (∀ u, Tk u bt T → Calls Try.prog 9 #[.pointer (some ⟨bt, 0, none⟩), .int .i64 q.x] u fun e w' => e = .returned (.int .i64 AD) ∧ w' = u) ∧ (∀ u, Rk u br T → Calls Try.prog 10 #[.pointer (some ⟨br, 0, none⟩), .int .i64 q.x] u fun e w' => e = .returned (.int .i64 AD) ∧ w' = u) := by
            by_cases hn0 : T.n = 0
            · exact ⟨0, fun u hu => Advice_none u bt T q.x hu hn0, fun u hu => RAdvice_none u br T q.x hu hn0⟩
            · have hcl := cl_le HOk.out.a
              have hb : -9223372036854775808 ≤ cl T.av ∧ cl T.av ≤ 9223372036854775808 := by
                unfold cl; cases ng T.av <;> simp only [sg, if_true, if_false, Bool.false_eq_true] <;> omega
              exact ⟨adv (cl T.av) q.x, fun u hu => Advice_any u bt T q.x hu hn0 HOk.out.ok.a1 hb.1 hb.2 hr1 hr2, fun u hu => RAdvice_any u br T q.x hu hn0 HOk.out hr1 hr2⟩
          have HAd := hide had
          have HRd := hide hrad
          have hAA : (AD != AD) = false := by simp
          clear had hrad
          go_upto_region 15 with (first | fail)
          clear z0 z1 z2 y1 p0 p1
          have kv0 := cell_regrown v0
          have kv1 := cell_regrown v1
          have kay := cell_regrown ay
          have ka2 := cell_regrown a2
          have K1 : Hid (∀ d os, Calls Try.prog 9 #[.pointer (some ⟨bt, 0, none⟩), .int .i64 q.x] (grow (redrawn (wr.alloc (.cells #[.pointer (some ⟨bt, 0, none⟩), .pointer (some ⟨br, 0, none⟩)] 32)) d) os) fun e w'' => e = .returned (.int .i64 AD) ∧ ∃ p : Regrown, w'' = grow (redrawn (wr.alloc (.cells #[.pointer (some ⟨bt, 0, none⟩), .pointer (some ⟨br, 0, none⟩)] 32)) p.d) p.os) := hide (fun d os => Calls.regrown_of ((HAd.out _ (HTa.out.kept ((below_regrown (wr.alloc (.cells #[.pointer (some ⟨bt, 0, none⟩), .pointer (some ⟨br, 0, none⟩)] 32)) d os).block _ HTa.out.lt))).mono (fun _ _ ⟨a, b⟩ => ⟨a, by rw [b]; exact Below.refl _ _⟩)))
          have K2 : Hid (∀ d os, Calls Try.prog 10 #[.pointer (some ⟨br, 0, none⟩), .int .i64 q.x] (grow (redrawn (wr.alloc (.cells #[.pointer (some ⟨bt, 0, none⟩), .pointer (some ⟨br, 0, none⟩)] 32)) d) os) fun e w'' => e = .returned (.int .i64 AD) ∧ ∃ p : Regrown, w'' = grow (redrawn (wr.alloc (.cells #[.pointer (some ⟨bt, 0, none⟩), .pointer (some ⟨br, 0, none⟩)] 32)) p.d) p.os) := hide (fun d os => Calls.regrown_of ((HRd.out _ (HRa.out.below (below_regrown (wr.alloc (.cells #[.pointer (some ⟨bt, 0, none⟩), .pointer (some ⟨br, 0, none⟩)] 32)) d os))).mono (fun _ _ ⟨a, b⟩ => ⟨a, by rw [b]; exact Below.refl _ _⟩)))
          clear a0 a1 a2 ay v0 v1
          refine wp_region_quiet_below (by kernel_rfl) (by kernel_rfl) ?_
          repeat (go_big_quiet_step (first | (go_at_call 9; exact K1.out _ _) | (go_at_call 10; exact K2.out _ _)))
          refine wpQuiet_nil ?_
          intro _ hw'
          obtain ⟨⟨dq, osq⟩, hw''⟩ := hw'
          subst hw''
          have HE6 := hide (HEa.out.grow (below_regrown (wr.alloc (.cells #[.pointer (some ⟨bt, 0, none⟩), .pointer (some ⟨br, 0, none⟩)] 32)) dq osq))
          have HT6 := hide (HTa.out.kept ((below_regrown (wr.alloc (.cells #[.pointer (some ⟨bt, 0, none⟩), .pointer (some ⟨br, 0, none⟩)] 32)) dq osq).block _ HTa.out.lt))
          have HR6 := hide (HRa.out.below (below_regrown (wr.alloc (.cells #[.pointer (some ⟨bt, 0, none⟩), .pointer (some ⟨br, 0, none⟩)] 32)) dq osq))
          have c0 := kv0 dq osq
          have c1' := kv1 dq osq
          clear kv0 kv1 kay ka2 K1 K2
          generalize (grow (redrawn (wr.alloc (.cells #[.pointer (some ⟨bt, 0, none⟩), .pointer (some ⟨br, 0, none⟩)] 32)) dq) osq) = w6 at *
          have HSm := hide (same_any w6 bt br T HT6.out HR6.out HOk.out.ok.a1)
          go_wp2_with (first
            | (go_at_call 11; refine HSm.out.mono ?_; rintro e w7 ⟨rfl, hb⟩; have HE7 := hide (HE6.out.grow hb); clear hb))
          go_roundw
          case rel => exact ⟨i + 1, _, by omega, by go_num, HE7, HLn, hide (fun j' p' hj' => by have := HNn.out j' p' hj'; omega)⟩
          case measure => simp [intOf]; omega
        · have k2' : (q.kind == 2) = false := beq_eq_false_iff_ne.2 k2
          have HSm := hide (same_any (wr.alloc (.cells #[.pointer (some ⟨bt, 0, none⟩), .pointer (some ⟨br, 0, none⟩)] 32)) bt br T HTa.out HRa.out HOk.out.ok.a1)
          generalize q.kind = kd at *
          go_wp2_with (first
            | (go_at_call 11; refine HSm.out.mono ?_; rintro e w7 ⟨rfl, hb⟩; have HE7 := hide (HEa.out.grow hb); clear hb))
          go_roundw
          case rel => exact ⟨i + 1, _, by omega, by go_num, HE7, HLn, hide (fun j' p' hj' => by have := HNn.out j' p' hj'; omega)⟩
          case measure => simp [intOf]; omega
    · have hn3 : ¬ (i : Int) < (l2 : Int) := by omega
      have y1 : wr.cell? ⟨w.heap.size, 1, none⟩ = _ := (cells2 (HBx.out wr HE.out.bel)).2
      go_wp2_with (first | fail)
      clear y1
      go_loopw [7] (fun iv wq => ∃ (e : Nat), e ≤ m + 1 ∧ iv = .int .i64 (e : Int) ∧ Hid (Ex W wq (.slice (some ⟨gr, 0, none⟩) (m + 1) k) tl2)) (fun i _ => m + 1 - (intOf i).toNat)
      case atStart => exact ⟨0, by omega, rfl, HE⟩
      case round =>
        obtain ⟨e, he, rfl, HEq⟩ := hrel
        by_cases hlt2 : e < m + 1
        · obtain ⟨⟨bt, br, T⟩, hp⟩ : ∃ p, tl2[e]? = some p := ⟨_, List.getElem?_eq_getElem (by have := HLn.out; omega)⟩
          obtain ⟨gr', k', hv, _, hcl⟩ := HEq.out.form (by have := HLn.out; omega)
          obtain ⟨rfl, hnn, rfl⟩ : gr = gr' ∧ m + 1 = tl2.length ∧ k = k' := by simpa using hv
          obtain ⟨p0, p1⟩ := hcl e _ hp
          simp only [pt] at p0 p1
          have HSm := hide (same_any _ bt br T (HEq.out.tk e _ hp) (HEq.out.rk e _ hp) (HEq.out.ok e _ hp).ok.a1)
          have e1 : (0 : Int) ≤ (e : Int) := by omega
          have e2 : (e : Int) < (m : Int) + 1 := by omega
          clear hcl hnn hv hp
          go_wp2_with (first
            | (go_at_call 11; refine HSm.out.mono ?_; rintro r w7 ⟨rfl, hb⟩; have HE7 := hide (HEq.out.grow hb); clear hb))
          go_roundw
          case rel => exact ⟨e + 1, by omega, by go_num, HE7⟩
          case measure => simp [intOf]; omega
        · have e2 : ¬ (e : Int) < (m : Int) + 1 := by omega
          go_wp2
          go_ret
          exact ⟨rfl, HB0.out.trans (HEq.out.bel.mono (by have := HE0.out; omega))⟩
end Go.Proofs.Ytfcakfedlcajaaa
