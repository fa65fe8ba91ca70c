import Derived.Test.YtbacgkfmnccheaaDoorMarked
import Derived.Test.YtbacgkfmnccheaaDoorCut
import Derived.Lib.ItoaLen
namespace Go.Proofs.YtbacgkfmnccheaaDoor
open Go.RowKit

/-- A number's digits, as bytes. -/
def dn (u : Nat) : List Nat := (Lib.decDigits u).map fun b => b.toNat

theorem dn_one {u : Nat} (h : u < 10) : dn u = [48 + u] := by
  rw [dn, Lib.decDigits_one h]
  have : (48 + u) % 256 = 48 + u := by omega
  simp [this]
theorem dn_more {u : Nat} (h : ¬ u < 10) : dn u = dn (u / 10) ++ [48 + u % 10] := by
  rw [dn, Lib.decDigits, dif_neg h, List.map_append]
  have : (48 + u % 10) % 256 = 48 + u % 10 := by omega
  simp [dn, this]
theorem dn_dig (u : Nat) : ∀ x ∈ dn u, isDig x = true := by
  induction u using Nat.strongRecOn with
  | ind u ih =>
    intro x hx
    by_cases h : u < 10
    · rw [dn_one h] at hx
      simp only [List.mem_singleton] at hx
      simp [isDig]; omega
    · rw [dn_more h, List.mem_append] at hx
      rcases hx with hx | hx
      · exact ih (u / 10) (by omega) x hx
      · simp only [List.mem_singleton] at hx
        simp [isDig]; omega
theorem dn_len (u : Nat) (h : u < 18446744073709551616) : (dn u).length ≤ 20 := by
  rw [dn, List.length_map, Lib.decDigits_length]; exact Lib.nDigits_le20 u h
theorem dn_ne (u : Nat) : dn u ≠ [] := by
  by_cases h : u < 10
  · rw [dn_one h]; simp
  · rw [dn_more h]; simp
theorem dn_cents (v : Nat) (h : v < 100) : dn (100 + v) = [49, 48 + v / 10, 48 + v % 10] := by
  rw [dn_more (by omega), dn_more (by omega), dn_one (by omega)]
  simp
  omega

/-- Money. -/
def mny (n : Int) : List Nat := (if n < 0 then [45] else []) ++ mrk true (dn (n.natAbs / 100)) ++ [46, 48 + n.natAbs % 100 / 10, 48 + n.natAbs % 10]

theorem nums_app (a b : ByteArray) : nums (a ++ b) = nums a ++ nums b := by simp [nums]

theorem mrk_len : ∀ (l : List Nat) (B : Bool), (mrk B l).length ≤ 2 * l.length
  | [], _ => by simp [mrk]
  | c :: r, B => by
    have := mrk_len r false
    simp only [mrk, List.length_append, List.length_cons]
    split <;> simp <;> omega

set_option maxHeartbeats 2000000 in
set_option maxRecDepth 100000 in
theorem money_any (w : World) (hT : Tabs w) (n : Int) (h0 : -9223372036854775808 ≤ n) (h1 : n ≤ 9223372036854775807) :
    Calls Tryd.prog 14 #[.int .i64 n] w fun e w' => (∃ t, e = .returned (.string t) ∧ nums t = mny n) ∧ Below w.heap.size w w' := by
  obtain ⟨u, hu⟩ : ∃ u, n.natAbs = u := ⟨_, rfl⟩
  have hu64 : u < 18446744073709551616 := by omega
  have hr : u % 100 < 100 := by omega
  have e1 : (u : Int) % 100 = ((u % 100 : Nat) : Int) := by omega
  have e2 : (u : Int) / 100 = ((u / 100 : Nat) : Int) := by omega
  have e3 : (100 : Int) + ((u % 100 : Nat) : Int) = ((100 + u % 100 : Nat) : Int) := by omega
  have HF1 := hide (fmtU_any w hT (100 + u % 100) (by omega))
  have HT := hide hT
  have hcs : (⟨(Lib.decDigits (100 + u % 100)).toArray⟩ : ByteArray).size = 3 := by
    rw [← nums_len, nums_mk']; exact congrArg List.length (dn_cents (u % 100) hr)
  have hcn : nums (⟨(Lib.decDigits (100 + u % 100)).toArray⟩ : ByteArray) = [49, 48 + u % 100 / 10, 48 + u % 100 % 10] := by
    rw [nums_mk']; exact dn_cents (u % 100) hr
  have HCN := hide hcn
  clear hcn hT
  generalize (⟨(Lib.decDigits (100 + u % 100)).toArray⟩ : ByteArray) = C at *
  have HMN : Hid (mny n = (if n < 0 then [45] else []) ++ mrk true (dn (u / 100)) ++ [46, 48 + u % 100 / 10, 48 + u % 100 % 10]) := by
    show _ = _; rw [mny, hu, show u % 100 % 10 = u % 10 by omega]
  generalize 100 + u % 100 = q at *
  generalize u % 100 = r at *
  have hp64 : u / 100 < 18446744073709551616 := by omega
  generalize u / 100 = p at *
  have z3 : (1 : Int) ≤ (C.size : Int) := by omega
  by_cases hn : n < 0
  · have hwr : IntKind.u64.wrap (-IntKind.u64.wrap n) = (u : Int) := by rw [IntKind.wrap_u64, IntKind.wrap_u64]; omega
    rw [if_pos hn] at HMN
    go_enter Tryd.func14, Tryd.ntmps14
    go_wp2_with fail
    refine HF1.out.mono ?_
    rintro e w1 ⟨rfl, hb⟩
    have HB1 := hide hb
    have HF2 := hide (fmtU_any w1 (HT.out.below hb) p hp64)
    clear hb HF1
    go_wp2_with fail
    refine HF2.out.mono ?_
    rintro e w2 ⟨rfl, hb⟩
    have HB2 : Hid (Below w.heap.size w w2) := HB1.out.trans (hb.mono HB1.out.size)
    have hdn : nums (⟨(Lib.decDigits p).toArray⟩ : ByteArray) = dn p := nums_mk' _
    have hln : (⟨(Lib.decDigits p).toArray⟩ : ByteArray).size ≤ 20 := by rw [← nums_len, hdn]; exact dn_len p hp64
    have HM := hide (marked_any w2 ⟨(Lib.decDigits p).toArray⟩ (by omega) (by rw [hdn]; exact dn_dig p))
    rw [hdn] at HM
    clear hb HF2 HB1 hdn
    generalize (⟨(Lib.decDigits p).toArray⟩ : ByteArray) = Dp at *
    go_wp2_with fail
    refine HM.out.mono ?_
    rintro e w3 ⟨⟨t, rfl, ht⟩, hb⟩
    have HB3 : Hid (Below w.heap.size w w3) := HB2.out.trans (hb.mono HB2.out.size)
    have HTN := hide ht
    have hts : t.size ≤ 40 := by rw [← nums_len, ht]; have := mrk_len (dn p) true; have := dn_len p hp64; omega
    clear hb HM HB2 ht
    go_wp2
    go_ret
    refine ⟨⟨_, rfl, ?_⟩, HB3.out⟩
    rw [HMN.out]
    rw [nums_app, nums_app, nums_app, HTN.out, extract_nums, HCN.out, show nums (⟨#[45]⟩ : ByteArray) = [45] from rfl, show nums (⟨#[46]⟩ : ByteArray) = [46] from rfl]
    simp
  · have hwr : IntKind.u64.wrap n = (u : Int) := by rw [IntKind.wrap_u64]; omega
    have hnn : decide (n < 0) = false := decide_eq_false hn
    rw [if_neg hn] at HMN
    go_enter Tryd.func14, Tryd.ntmps14
    go_wp2_with fail
    refine HF1.out.mono ?_
    rintro e w1 ⟨rfl, hb⟩
    have HB1 := hide hb
    have HF2 := hide (fmtU_any w1 (HT.out.below hb) p hp64)
    clear hb HF1
    go_wp2_with fail
    refine HF2.out.mono ?_
    rintro e w2 ⟨rfl, hb⟩
    have HB2 : Hid (Below w.heap.size w w2) := HB1.out.trans (hb.mono HB1.out.size)
    have hdn : nums (⟨(Lib.decDigits p).toArray⟩ : ByteArray) = dn p := nums_mk' _
    have hln : (⟨(Lib.decDigits p).toArray⟩ : ByteArray).size ≤ 20 := by rw [← nums_len, hdn]; exact dn_len p hp64
    have HM := hide (marked_any w2 ⟨(Lib.decDigits p).toArray⟩ (by omega) (by rw [hdn]; exact dn_dig p))
    rw [hdn] at HM
    clear hb HF2 HB1 hdn
    generalize (⟨(Lib.decDigits p).toArray⟩ : ByteArray) = Dp at *
    go_wp2_with fail
    refine HM.out.mono ?_
    rintro e w3 ⟨⟨t, rfl, ht⟩, hb⟩
    have HB3 : Hid (Below w.heap.size w w3) := HB2.out.trans (hb.mono HB2.out.size)
    have HTN := hide ht
    have hts : t.size ≤ 40 := by rw [← nums_len, ht]; have := mrk_len (dn p) true; have := dn_len p hp64; omega
    clear hb HM HB2 ht
    go_wp2
    go_ret
    refine ⟨⟨_, rfl, ?_⟩, HB3.out⟩
    rw [HMN.out]
    rw [nums_app, nums_app, nums_app, HTN.out, extract_nums, HCN.out, show nums (⟨#[]⟩ : ByteArray) = [] from rfl, show nums (⟨#[46]⟩ : ByteArray) = [46] from rfl]
    simp

end Go.Proofs.YtbacgkfmnccheaaDoor
