import Derived.Laws.BytesArg
import Derived.Lib.JoinLaws
import Derived.Test.YtjcdnclfakmbpaaGreatDoorMqB
namespace Go.Proofs.YtjcdnclfakmbpaaGreatDoor
open Go.RowKit
def str (xs : List Nat) : ByteArray := strOfNums (xs.map fun (x : Nat) => (x : Int))
theorem conv_str {w : World} {sp : Option Addr} {xs : List Nat} {m : Nat} (h : Bytes w sp xs) (hm : xs.length = m) (c : Nat) :
    (convert 31 9 (.slice sp m c)).run Tryz.prog w = .ok (.string (str xs)) w := by
  subst hm
  have hz : ∀ a : Option Addr, (convert 31 9 (.slice a 0 c)).run Tryz.prog w = .ok (.string (str [])) w := fun a => by
    rw [run_convert_bytes_string w 31 9 5 a 0 c Tryz.underlying31 Tryz.underlying5 Tryz.underlying9]
    cases a with
    | none => simp [Conv.bytesToString]; rfl
    | some a =>
      rw [run_bytesToString w a 0 c [] (by simpa using run_loadCells_list (P := Tryz.prog) w a [] (by simp))]
      rfl
  rcases h.lie with h0 | ⟨g, o, rfl, hg, hc⟩
  · subst h0; exact hz sp
  · refine run_convert_bytes_arg w 31 5 Tryz.underlying31 Tryz.underlying5 g o _ c _ (by simp) (fun i hi => ?_) 9 Tryz.underlying9
    rw [hc i hi]
    simp [List.getD, hi]
theorem nums_str {xs : List Nat} (h : ∀ x ∈ xs, x < 256) : nums (str xs) = xs := by
  have e : (str xs).data.toList = xs.map UInt8.ofNat := by
    unfold str strOfNums
    simp [Function.comp_def]
  unfold nums
  rw [e, List.map_map]
  conv => rhs; rw [← List.map_id xs]
  apply List.map_congr_left
  intro x hx
  have := h x hx
  simp [Nat.mod_eq_of_lt this]
theorem str_size {xs : List Nat} (h : ∀ x ∈ xs, x < 256) : (str xs).size = xs.length := by rw [← nums_len, nums_str h]
def sendL (L : Lk) : Lk := if L.row = [] then lreset L else L
def sendN (L : Lk) (s : ByteArray) : Lk := { sendL L with numbered := L.numbered + 1, row := L.row ++ [(L.numbered + 1, s)] }
theorem sendL_same (L : Lk) : (sendL L).numbered = L.numbered ∧ (sendL L).row = L.row := by unfold sendL; split <;> exact ⟨rfl, rfl⟩
def SendPost (w : World) (b : Nat) (L : Lk) (rv : Value) (s : ByteArray) (e : Ending) (w' : World) : Prop :=
  e = .returned (.int .i64 0) ∧ ∃ rv', Lw w' b (sendN L s) rv' ∧ Tw b rv.ownBlock w w' ∧ (rv'.ownBlock = rv.ownBlock ∨ ∃ g, rv'.ownBlock = some g ∧ w.heap.size ≤ g)
theorem Tw.pre {b : Nat} {v : Option Nat} {w w1 w' : World} (h : Onl b w w1) (k : Tw b v w1 w') : Tw b v w w' :=
  ⟨k.os.trans h.os, k.tape.trans h.tape, k.output.trans h.output, by have := k.size; have := h.size; omega, fun i hi hb hv => (k.block i (by rw [h.size]; exact hi) hb hv).trans (h.block i hb)⟩
set_option maxRecDepth 100000 in
theorem send_long (w : World) (b : Nat) (L : Lk) (rv : Value) (h : Lw w b L rv) (sp : Option Addr) (n c : Nat) (hn : 2048 < n ∨ 1099511627776 ≤ L.numbered) :
    Calls Tryz.prog 20 #[.pointer (some ⟨b, 0, none⟩), .slice sp n c] w fun e w' => e = .returned (.int .i64 140) ∧ w' = w := by
  obtain ⟨-, -, -, -, -, -, c6, -⟩ := blk15 h.lb
  clear h
  by_cases h1 : 2048 < n
  · have i1 : (2048 : Int) < (n : Int) := by omega
    go_enter Tryz.func20, Tryz.ntmps20
    go_wp2
    go_ret
    exact ⟨rfl, rfl⟩
  · have i1 : ¬ (2048 : Int) < (n : Int) := by omega
    have i2 : (1099511627776 : Int) ≤ (L.numbered : Int) := by omega
    go_enter Tryz.func20, Tryz.ntmps20
    go_wp2
    go_ret
    exact ⟨rfl, rfl⟩
set_option maxRecDepth 100000 in
set_option maxHeartbeats 2000000 in
theorem send_any (w : World) (b : Nat) (L : Lk) (rv : Value) (h : Lw w b L rv) (hl : L.row.length ≤ 1099511627776) (sp : Option Addr) (n c : Nat) (xs : List Nat) (hx : Bytes w sp xs) (hxn : xs.length = n) (hn : n ≤ 2048) (hN : L.numbered < 1099511627776) (hspb : ∀ a, sp = some a → a.block ≠ b) :
    Calls Tryz.prog 20 #[.pointer (some ⟨b, 0, none⟩), .slice sp n c] w (SendPost w b L rv (str xs)) := by
  have i1 : ¬ (2048 : Int) < (n : Int) := by omega
  have i2 : ¬ (1099511627776 : Int) ≤ (L.numbered : Int) := by omega
  obtain ⟨a, c5v, hrv⟩ := h.form
  have HLw := hide h
  have hlb := h.lb
  rw [hrv] at hlb
  have HR := hide (rlen_any w b L a L.row.length c5v hlb)
  obtain ⟨q, hq⟩ : ∃ q, L.row.length = q := ⟨_, rfl⟩
  rw [hq] at HR
  obtain ⟨-, -, -, -, -, -, c6, -, -, -, -, -, -, -, -, cf⟩ := blk15 hlb
  have hlt := C.lt_of_block hlb
  have Hx := hide hx
  have HQ := hide hq
  have HRv := hide hrv
  obtain ⟨N, hNe⟩ : ∃ N, L.numbered = N := ⟨_, rfl⟩
  rw [hNe] at c6 i2 hN
  have HNe := hide hNe
  have i3 : Hid ((N : Int) + 1 = ((N + 1 : Nat) : Int)) := by show _ = _; omega
  have i4 : (N : Int) + 1 < 18446744073709551616 := by omega
  have i5 : (0 : Int) ≤ (N : Int) := by omega
  have HS := hide (sendL_same L)
  -- the common end
  have HEnd : Hid (∀ w1 : World, Lb w1 b (sendL L) rv → Onl b w w1 → ∃ wx, wx = w1.setCell ⟨b, 6, none⟩ (.int .u64 ((N : Int) + 1)) ∧ wx.cell? ⟨b, 6, none⟩ = some (.int .u64 ((N : Int) + 1)) ∧ (∀ cc, (convert 31 9 (.slice sp n cc)).run Tryz.prog wx.drew = .ok (.string (str xs)) wx.drew) ∧ Calls Tryz.prog 53 #[.pointer (some ⟨b, 5, none⟩), .agg #[.int .u64 ((N : Int) + 1), .string (str xs)]] wx.drew fun e w' => e = .returned (.tuple #[]) ∧ SendPost w b L rv (str xs) (.returned (.int .i64 0)) w') := by
    intro w1 hb1 ho1
    have hw1 : Lw w1 b (sendL L) rv := HLw.out.but ho1.but hb1 HS.out.2
    have hl2 : Lb (w1.setCell ⟨b, 6, none⟩ (.int .u64 ((N : Int) + 1))) b { sendL L with numbered := N + 1 } rv := hb1.set 6 _ _ rv (by rw [i3.out]; rfl)
    have ho2 := ho1.set 6 (.int .u64 ((N : Int) + 1))
    obtain ⟨wx, hwx⟩ : ∃ wx, w1.setCell ⟨b, 6, none⟩ (.int .u64 ((N : Int) + 1)) = wx := ⟨_, rfl⟩
    rw [hwx] at hl2 ho2
    have hw2 : Lw wx b { sendL L with numbered := N + 1 } rv := HLw.out.but ho2.but hl2 HS.out.2
    have hw3 : Lw wx.drew b { sendL L with numbered := N + 1 } rv := ⟨hw2.lb, hw2.row.same (fun _ _ => rfl)⟩
    refine ⟨wx, hwx.symm, ?_, fun cc => ?_, ?_⟩
    · obtain ⟨-, -, -, -, -, -, e6, -⟩ := blk15 hl2
      rw [i3.out]
      exact e6
    · refine conv_str (w := wx.drew) ⟨Hx.out.small, Hx.out.lie.imp id ?_⟩ hxn cc
      rintro ⟨g, o, e, hg, hc⟩
      refine ⟨g, o, e, by show g < wx.heap.size; rw [ho2.size]; exact hg, fun j hj => ?_⟩
      rw [← hc j hj]
      exact World.cell?_of_block (a := ⟨g, o + j, none⟩) (ho2.block g (hspb _ e))
    · rw [i3.out]
      refine (add_any wx.drew b { sendL L with numbered := N + 1 } rv hw3 (by rw [HS.out.2]; exact hl) (N + 1) (str xs)).mono ?_
      rintro e w' ⟨he, rv', hw', ht', hr'⟩
      refine ⟨he, rfl, rv', ?_, Tw.pre ho2.drew ht', ?_⟩
      · have e1 : sendN L (str xs) = { sendL L with numbered := N + 1, row := (sendL L).row ++ [(N + 1, str xs)] } := by unfold sendN; rw [HS.out.2, HNe.out]
        rw [e1]
        exact hw'
      · rcases hr' with h | ⟨g, h1, h2⟩
        · exact Or.inl h
        · exact Or.inr ⟨g, h1, by have := ho2.size; have h3 : wx.heap.size ≤ g := h2; omega⟩
  obtain ⟨s, hs⟩ : ∃ s, str xs = s := ⟨_, rfl⟩
  rw [hs] at HEnd ⊢
  have HLb := hide hlb
  rw [← hrv] at HLb
  clear h hlb hx hxn hq hrv hNe hs hl
  by_cases hq0 : q = 0
  · have hse : sendL L = lreset L := by unfold sendL; rw [if_pos (List.eq_nil_of_length_eq_zero (by rw [HQ.out]; exact hq0))]
    have HP := hide (preset_any w b L rv HLb.out)
    rw [← hse] at HP
    subst hq0
    clear hse
    go_enter Tryz.func20, Tryz.ntmps20
    go_wp2_with fail
    refine HR.out.mono ?_
    rintro e w0 ⟨rfl, rfl⟩
    go_wp2_with fail
    refine HP.out.mono ?_
    rintro e w1 ⟨rfl, hb1, ho1⟩
    obtain ⟨wx, hwx, e6, hcv, hadd⟩ := HEnd.out w1 hb1 ho1
    obtain ⟨-, -, -, -, -, -, d6, -, -, -, -, -, -, -, -, df⟩ := blk15 hb1
    rw [HS.out.1, HNe.out] at d6
    have HAdd := hide hadd
    have HWx := hide hwx
    clear hadd hwx hb1 ho1 HP
    go_upto_region 6 with (fail)
    rw [← HWx.out]
    go_region_law (first | (go_simp; go_at_call 53; refine HAdd.out.mono ?_; rintro e w2 ⟨rfl, hp2⟩; have HP2 := hide hp2; clear hp2))
    all_goals go_wp2
    all_goals
      go_ret
      exact HP2.out
  · have hse : sendL L = L := by unfold sendL; rw [if_neg (fun e => hq0 (by rw [← HQ.out, e]; rfl))]
    have hq1 : ¬ (q : Int) = 0 := by omega
    obtain ⟨wx, hwx, e6, hcv, hadd⟩ := HEnd.out w (by rw [hse]; exact HLb.out) (Onl.refl b w)
    have HAdd := hide hadd
    have HWx := hide hwx
    clear hadd hwx hse hq0
    obtain ⟨z, hz⟩ : ∃ z : Int, (q : Int) = z := ⟨_, rfl⟩
    rw [hz] at HR hq1
    have hzb : Hid ((z == 0) = false) := by show _ = _; simpa using hq1
    clear hz hq1
    go_enter Tryz.func20, Tryz.ntmps20
    go_wp2_with fail
    refine HR.out.mono ?_
    rintro e w0 ⟨rfl, rfl⟩
    go_upto_if 21 with (fail)
    try rw [hzb.out]
    go_upto_region 6 with (fail)
    rw [← HWx.out]
    go_region_law (first | (go_simp; go_at_call 53; refine HAdd.out.mono ?_; rintro e w2 ⟨rfl, hp2⟩; have HP2 := hide hp2; clear hp2))
    all_goals go_wp2
    all_goals
      go_ret
      exact HP2.out
end Go.Proofs.YtjcdnclfakmbpaaGreatDoor
