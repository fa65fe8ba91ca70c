import Derived.Test.YtolegbngjhfdlabDoorQuoR
import Derived.Test.YtolegbngjhfdlabDoorLineO
import Derived.BigQuiet
namespace Go.Proofs.YtolegbngjhfdlabDoor
open Go.RowKit

theorem blank_one (x : Nat) (h : x = 32 ∨ x = 9) : isBlank x = true := by rcases h with rfl | rfl <;> rfl
theorem nums_blank (S : ByteArray) : nums (S ++ ⟨#[32]⟩) = nums S ++ [32] ∧ nums (S ++ ⟨#[9]⟩) = nums S ++ [9] := by
  constructor <;> rw [nums_app] <;> rfl
theorem box_e0 (w : World) (v0 v1 : Value) (t : TypeId) : (w.alloc (.cells #[v0, v1] t)).cell? ⟨w.heap.size, 0, none⟩ = some v0 := by
  have h := World.alloc_heap_new w (.cells #[v0, v1] t)
  unfold World.cell?; simp only [h]; rfl
theorem box_e1 (w : World) (v0 v1 : Value) (t : TypeId) : (w.alloc (.cells #[v0, v1] t)).cell? ⟨w.heap.size, 1, none⟩ = some v1 := by
  have h := World.alloc_heap_new w (.cells #[v0, v1] t)
  unfold World.cell?; simp only [h]; rfl
theorem own_below {W W' : World} {base : Nat} {e : TypeId} {size : Nat} {v : Value} {n : Nat} {xs : List Value} (h : W.ownsRow base e size v n xs) (hb : Below W.heap.size W W') : W'.ownsRow base e size v n xs := by
  refine ⟨h.1, ?_⟩
  rcases h.2 with h0 | ⟨g, cap, cur, e, hg, hh, rest⟩
  · exact .inl h0
  · exact .inr ⟨g, cap, cur, e, hg, by rw [hb.block g (Array.getElem?_eq_some_iff.1 hh).1]; exact hh, rest⟩
theorem run_idx0 (w : World) : (Instr.index 29 (.agg #[.string ⟨#[32]⟩, .string ⟨#[9]⟩]) (.int .i64 0)).run Tryd.prog w = .ok (.string ⟨#[32]⟩) w := by kernel_rfl
theorem run_idx1 (w : World) : (Instr.index 29 (.agg #[.string ⟨#[32]⟩, .string ⟨#[9]⟩]) (.int .i64 1)).run Tryd.prog w = .ok (.string ⟨#[9]⟩) w := by kernel_rfl
theorem map_nums_inj {a b : List ByteArray} (h : a.map nums = b.map nums) : a = b := (List.map_inj_right (fun _ _ h => nums_inj h)).1 h

set_option maxRecDepth 100000 in
set_option maxHeartbeats 8000000 in
theorem quotes_all (w : World) (hT : Tabs w) (sp : Option Addr) (l c : Nat) (ls : List ByteArray) (np : Option Addr) (m d : Nat) (zs : List Int) (hs : InS w sp l c ls) (hn : InN w np m d zs) :
    Calls Tryd.prog 3 #[.agg #[.slice sp l c, .slice np m d]] w fun e w' => e = .returned (.bool true) ∧ Below w.heap.size w w' := by
  have hB0 : Below w.heap.size w (w.alloc (.cells #[.slice sp l c, .slice np m d] 25)) := (Below.refl _ w).alloc (Nat.le_refl _) _
  have e0 := box_e0 w (.slice sp l c) (.slice np m d) 25
  have e1 := box_e1 w (.slice sp l c) (.slice np m d) 25
  have hlt0 : w.heap.size < (w.alloc (.cells #[.slice sp l c, .slice np m d] 25)).heap.size := by simp
  have HT := hide (hT.below hB0)
  have HN := hide (hn.lie.below hB0 (Nat.le_refl _))
  have HS := hide (hs.lie.below hB0 (Nat.le_refl _))
  have HNe := hide hn.each
  have HNl := hide hn.len
  have HSe := hide hs.each
  have HSl := hide hs.len
  have hm : m ≤ 140737488351232 := Nat.le_trans hn.cap hn.most
  have hl : l ≤ 140737488351232 := Nat.le_trans hs.cap hs.most
  have HB0 := hide hB0
  have HBe := hide (begun_any _ HT.out)
  clear hT hs hn hB0
  go_enter Tryd.func3, Tryd.ntmps3
  go_wp2_with fail
  generalize w.alloc (.cells #[.slice sp l c, .slice np m d] 25) = w0 at *
  have HX0 : Hid (∀ W, Below w0.heap.size w0 W → W.cell? ⟨w.heap.size, 0, none⟩ = some (.slice sp l c)) := fun W hW => by rw [hW.cell (p := ⟨w.heap.size, 0, none⟩) hlt0]; exact e0
  have HX1 : Hid (∀ W, Below w0.heap.size w0 W → W.cell? ⟨w.heap.size, 1, none⟩ = some (.slice np m d)) := fun W hW => by rw [hW.cell (p := ⟨w.heap.size, 1, none⟩) hlt0]; exact e1
  clear e0 e1 hlt0
  refine HBe.out.mono ?_
  rintro e w1 ⟨rfl, b1⟩
  have HB1 := hide b1
  clear b1 HBe
  go_wp2
  go_loopw [3, 4, 5] (fun a b i wr => ∃ (k : Nat) (S : ByteArray) (p : Option Addr) (c2 : Nat) (ws : List ByteArray) (r : List (List Nat × List Nat)), k ≤ l ∧ k ≤ 33 ∧ a = .string S ∧ b = .slice p k c2 ∧ i = .int .i64 (k : Int) ∧ S.size ≤ 200 * k ∧ Hid (nums S = lineOf r) ∧ Hid (∀ x ∈ r, Item x) ∧ Hid (ws.map nums = r.map Prod.snd) ∧ Hid (ws.length = k) ∧ Hid (wr.ownsRow w0.heap.size 9 1 (.slice p k c2) k (ws.map Value.string)) ∧ Hid (Below w0.heap.size w0 wr)) (fun _ _ i _ => l - (intOf i).toNat)
  case atStart => exact ⟨0, ⟨#[]⟩, none, 0, [], [], Nat.zero_le _, by omega, rfl, rfl, rfl, by decide, hide rfl, hide (by simp), hide rfl, hide rfl, World.ownsRow_nil _ _ _ _, HB1⟩
  case round =>
    clear HB1
    obtain ⟨k, S, p, c2, ws, r, hk, hk3, rfl, rfl, rfl, hSs, HSn, HIt, HWr, HWl, HO, HB⟩ := hrel
    have x0 := HX0.out _ HB.out
    by_cases hgo : k < l ∧ k < 33
    · obtain ⟨hlt, h33⟩ := hgo
      have hlt' : k < ls.length := by rw [HSl.out]; exact hlt
      have e1 : ls[k]? = some (ls[k]'hlt') := List.getElem?_eq_getElem _
      have hsz := HSe.out _ (List.getElem_mem hlt')
      obtain ⟨g, o, hp, hc1⟩ : ∃ g o, sp = some ⟨g, o, none⟩ ∧ wr.cell? ⟨g, o + k, none⟩ = some (.string (ls[k]'hlt')) := by
        rcases HS.out.below HB.out (Nat.le_refl _) with h | ⟨g, o, e, _, hc⟩
        · rw [h] at hlt'; simp at hlt'
        · exact ⟨g, o, e, hc k _ e1⟩
      subst hp
      clear e1
      generalize ls[k]'hlt' = s at *
      have l1 : (k : Int) < (l : Int) := by omega
      have l2 : (0 : Int) ≤ (k : Int) := by omega
      have l3 : (k : Int) < 33 := by omega
      have HMy := hide (may_any wr s (by omega))
      go_wp2_with fail
      refine HMy.out.mono ?_
      rintro e w2 ⟨⟨T, rfl, ht1, ht2⟩, b2⟩
      have HB2 : Hid (Below w0.heap.size w0 w2) := HB.out.trans (b2.mono HB.out.size)
      have HO2 : Hid (w2.ownsRow w0.heap.size 9 1 (.slice p k c2) k (ws.map Value.string)) := own_below HO.out b2
      have HTm := hide ht1
      clear b2 ht1 HMy HB HO hc1 x0
      have x1 := HX1.out _ HB2.out
      by_cases hm0 : 0 < m
      · have y0 : (0 : Int) < (m : Int) := by omega
        obtain ⟨q, hq⟩ : ∃ q, k % m = q := ⟨_, rfl⟩
        have hqm : q < m := by rw [← hq]; exact Nat.mod_lt _ hm0
        have q1 : (k : Int) % (m : Int) = (q : Int) := by rw [← hq]; omega
        clear hq
        have hq' : q < zs.length := by rw [HNl.out]; exact hqm
        have e1 : zs[q]? = some (zs[q]'hq') := List.getElem?_eq_getElem _
        obtain ⟨g2, o2, hp2, hc2⟩ : ∃ g o, np = some ⟨g, o, none⟩ ∧ w2.cell? ⟨g, o + q, none⟩ = some (.int .i64 (zs[q]'hq')) := by
          rcases HN.out.below HB2.out (Nat.le_refl _) with h | ⟨g, o, e, _, hc⟩
          · rw [h] at hq'; simp at hq'
          · exact ⟨g, o, e, hc q _ e1⟩
        subst hp2
        clear e1
        generalize zs[q]'hq' = z at *
        have q2 : (q : Int) < (m : Int) := by omega
        have q3 : (0 : Int) ≤ (q : Int) := by omega
        have HWt := hide (fun W => wth_any W z)
        have hw2 := wth_le z
        generalize wth z = t at *
        obtain ⟨G, hG⟩ : ∃ G, G = 1 + t := ⟨_, rfl⟩
        have g1 : 1 + (t : Int) = (G : Int) := by omega
        have g2' : G ≤ 3 := by omega
        have g3 : 1 ≤ G := by omega
        clear hG
        go_wp2
        go_quiet (first | (go_at_call 6; exact Calls.quiet_of_same (HWt.out _)))
        have HB3 : Hid (Below w0.heap.size w0 (w2.drewN nq)) := below_drewNv HB2.out nq
        have HO3 : Hid ((w2.drewN nq).ownsRow w0.heap.size 9 1 (.slice p k c2) k (ws.map Value.string)) := HO2.out
        generalize w2.drewN nq = w3 at *
        clear x1 hc2 q1 q2 q3 g1 HB2 HO2
        go_wp2
        go_loopw [3, 8] (fun a i wq => ∃ (j : Nat) (S2 : ByteArray) (b : List Nat), j ≤ G ∧ a = .string S2 ∧ i = .int .i64 (j : Int) ∧ S2.size ≤ 200 * k + j ∧ Hid (nums S2 = nums S ++ b) ∧ Hid (b.length = j) ∧ Hid (∀ x ∈ b, isBlank x = true) ∧ wq = w3) (fun _ i _ => G - (intOf i).toNat)
        case atStart => exact ⟨0, S, [], Nat.zero_le _, rfl, rfl, by omega, hide (by simp), hide rfl, hide (by simp), rfl⟩
        case round =>
          obtain ⟨j, S2, b, hj, rfl, rfl, hS2, HS2, HBl, HBk, rfl⟩ := hrel
          by_cases hjl : j < G
          · have v1 : (j : Int) < (G : Int) := by omega
            obtain ⟨hb1, hb2⟩ := nums_blank S2
            by_cases hpar : (k + j) % 2 = 0
            · have v2 : ((k : Int) + (j : Int)) % 2 = 0 := by omega
              have v3 : (0 : Int) ≤ (k : Int) + (j : Int) := by omega
              have HS3 : Hid (nums (S2 ++ ⟨#[32]⟩) = nums S ++ (b ++ [32])) := by show _ = _; rw [hb1, HS2.out, List.append_assoc]
              have hS3 : (S2 ++ (⟨#[32]⟩ : ByteArray)).size ≤ 200 * k + (j + 1) := by rw [← nums_len, hb1, List.length_append, nums_len]; simp; omega
              clear hb1 hb2 hpar
              have hix := run_idx0 wr
              go_wp2
              go_roundw
              case rel => exact ⟨j + 1, S2 ++ ⟨#[32]⟩, b ++ [32], by omega, rfl, by go_num, hS3, HS3, hide (by simp [HBl.out]), hide (fun x hx => by
                rcases List.mem_append.1 hx with h | h
                · exact HBk.out x h
                · rw [List.mem_singleton] at h; rw [h]; rfl), (by first | trivial | rfl)⟩
              case measure => simp [intOf]; omega
            · have v2 : ((k : Int) + (j : Int)) % 2 = 1 := by omega
              have v3 : (0 : Int) ≤ (k : Int) + (j : Int) := by omega
              have HS3 : Hid (nums (S2 ++ ⟨#[9]⟩) = nums S ++ (b ++ [9])) := by show _ = _; rw [hb2, HS2.out, List.append_assoc]
              have hS3 : (S2 ++ (⟨#[9]⟩ : ByteArray)).size ≤ 200 * k + (j + 1) := by rw [← nums_len, hb2, List.length_append, nums_len]; simp; omega
              clear hb1 hb2 hpar
              have hix := run_idx1 wr
              go_wp2
              go_roundw
              case rel => exact ⟨j + 1, S2 ++ ⟨#[9]⟩, b ++ [9], by omega, rfl, by go_num, hS3, HS3, hide (by simp [HBl.out]), hide (fun x hx => by
                rcases List.mem_append.1 hx with h | h
                · exact HBk.out x h
                · rw [List.mem_singleton] at h; rw [h]; rfl), (by first | trivial | rfl)⟩
              case measure => simp [intOf]; omega
          · have v1 : decide ((j : Int) < (G : Int)) = false := decide_eq_false (by omega)
            have v1b : decide (j < G) = false := decide_eq_false (by omega)
            have HQt := hide (quote_any wr T ht2)
            have hj1 : 1 ≤ j ∧ j ≤ 3 := by omega
            go_wp2_with fail
            refine HQt.out.mono ?_
            rintro e w5 ⟨⟨Qt, rfl, hqn⟩, b5⟩
            have HB5 : Hid (Below w0.heap.size w0 w5) := HB3.out.trans (b5.mono HB3.out.size)
            have HO5 : Hid (w5.ownsRow w0.heap.size 9 1 (.slice p k c2) k (ws.map Value.string)) := own_below HO3.out b5
            have hqs : Qt.size ≤ 82 := by
              rw [← nums_len, hqn, quo, List.length_cons, List.length_append]
              have := esc_len (nums T)
              rw [nums_len] at this
              simp; omega
            have HS6 : Hid (nums (S2 ++ Qt) = lineOf (r ++ [(b, nums T)])) := by
              show _ = _
              rw [lineOf_snoc, nums_app, HS2.out, HSn.out, hqn, List.append_assoc]
            have hS6 : (S2 ++ Qt).size ≤ 200 * (k + 1) := by rw [← nums_len, nums_app, List.length_append, nums_len, nums_len]; omega
            clear b5 hqn HQt HB3 HO3 v1 v1b
            go_wp2_with (at_builtin; refine app_str rfl _ _ rfl w0.heap.size k p c2 ws T rfl HO5.out rfl (by omega) HB5.out HB5.out.size ?_; intro g9 c9 w6 ho hb; have HO6 := hide ho; have HB6 := hide hb; clear ho hb)
            go_roundw
            case rel => exact ⟨k + 1, S2 ++ Qt, some ⟨g9, 0, none⟩, c9, ws ++ [T], r ++ [(b, nums T)], by omega, by omega, rfl, rfl, by go_num, hS6, HS6, hide (fun x hx => by
              rcases List.mem_append.1 hx with h | h
              · exact HIt.out x h
              · rw [List.mem_singleton] at h; rw [h]
                refine ⟨fun e => ?_, HBk.out, HTm.out⟩
                have h2 := congrArg List.length e
                have h3 : b.length = j := HBl.out
                have h4 : b.length = 0 := h2
                omega), hide (by rw [List.map_append, List.map_append, HWr.out]; rfl), hide (by simp [HWl.out]), HO6, HB6⟩
            case measure => simp [intOf]; omega
      · have y0 : decide ((0 : Int) < (m : Int)) = false := decide_eq_false (by omega)
        have y0b : decide (0 < m) = false := decide_eq_false (by omega)
        have HB3 := HB2
        have HO3 := HO2
        clear HB2 HO2
        go_wp2
        go_loopw [3, 8] (fun a i wq => ∃ (j : Nat) (S2 : ByteArray) (b : List Nat), j ≤ 1 ∧ a = .string S2 ∧ i = .int .i64 (j : Int) ∧ S2.size ≤ 200 * k + j ∧ Hid (nums S2 = nums S ++ b) ∧ Hid (b.length = j) ∧ Hid (∀ x ∈ b, isBlank x = true) ∧ wq = w2) (fun _ i _ => 1 - (intOf i).toNat)
        case atStart => exact ⟨0, S, [], Nat.zero_le _, rfl, rfl, by omega, hide (by simp), hide rfl, hide (by simp), rfl⟩
        case round =>
          obtain ⟨j, S2, b, hj, rfl, rfl, hS2, HS2, HBl, HBk, rfl⟩ := hrel
          by_cases hjl : j < 1
          · have v1 : (j : Int) < 1 := by omega
            obtain ⟨hb1, hb2⟩ := nums_blank S2
            by_cases hpar : (k + j) % 2 = 0
            · have v2 : ((k : Int) + (j : Int)) % 2 = 0 := by omega
              have v3 : (0 : Int) ≤ (k : Int) + (j : Int) := by omega
              have HS3 : Hid (nums (S2 ++ ⟨#[32]⟩) = nums S ++ (b ++ [32])) := by show _ = _; rw [hb1, HS2.out, List.append_assoc]
              have hS3 : (S2 ++ (⟨#[32]⟩ : ByteArray)).size ≤ 200 * k + (j + 1) := by rw [← nums_len, hb1, List.length_append, nums_len]; simp; omega
              clear hb1 hb2 hpar
              have hix := run_idx0 wr
              go_wp2
              go_roundw
              case rel => exact ⟨j + 1, S2 ++ ⟨#[32]⟩, b ++ [32], by omega, rfl, by go_num, hS3, HS3, hide (by simp [HBl.out]), hide (fun x hx => by
                rcases List.mem_append.1 hx with h | h
                · exact HBk.out x h
                · rw [List.mem_singleton] at h; rw [h]; rfl), (by first | trivial | rfl)⟩
              case measure => simp [intOf]; omega
            · have v2 : ((k : Int) + (j : Int)) % 2 = 1 := by omega
              have v3 : (0 : Int) ≤ (k : Int) + (j : Int) := by omega
              have HS3 : Hid (nums (S2 ++ ⟨#[9]⟩) = nums S ++ (b ++ [9])) := by show _ = _; rw [hb2, HS2.out, List.append_assoc]
              have hS3 : (S2 ++ (⟨#[9]⟩ : ByteArray)).size ≤ 200 * k + (j + 1) := by rw [← nums_len, hb2, List.length_append, nums_len]; simp; omega
              clear hb1 hb2 hpar
              have hix := run_idx1 wr
              go_wp2
              go_roundw
              case rel => exact ⟨j + 1, S2 ++ ⟨#[9]⟩, b ++ [9], by omega, rfl, by go_num, hS3, HS3, hide (by simp [HBl.out]), hide (fun x hx => by
                rcases List.mem_append.1 hx with h | h
                · exact HBk.out x h
                · rw [List.mem_singleton] at h; rw [h]; rfl), (by first | trivial | rfl)⟩
              case measure => simp [intOf]; omega
          · have v1 : decide ((j : Int) < 1) = false := decide_eq_false (by omega)
            have v1b : decide (j < 1) = false := decide_eq_false (by omega)
            have HQt := hide (quote_any wr T ht2)
            have hj1 : 1 ≤ j ∧ j ≤ 3 := by omega
            go_wp2_with fail
            refine HQt.out.mono ?_
            rintro e w5 ⟨⟨Qt, rfl, hqn⟩, b5⟩
            have HB5 : Hid (Below w0.heap.size w0 w5) := HB3.out.trans (b5.mono HB3.out.size)
            have HO5 : Hid (w5.ownsRow w0.heap.size 9 1 (.slice p k c2) k (ws.map Value.string)) := own_below HO3.out b5
            have hqs : Qt.size ≤ 82 := by
              rw [← nums_len, hqn, quo, List.length_cons, List.length_append]
              have := esc_len (nums T)
              rw [nums_len] at this
              simp; omega
            have HS6 : Hid (nums (S2 ++ Qt) = lineOf (r ++ [(b, nums T)])) := by
              show _ = _
              rw [lineOf_snoc, nums_app, HS2.out, HSn.out, hqn, List.append_assoc]
            have hS6 : (S2 ++ Qt).size ≤ 200 * (k + 1) := by rw [← nums_len, nums_app, List.length_append, nums_len, nums_len]; omega
            clear b5 hqn HQt HB3 HO3 v1 v1b
            go_wp2_with (at_builtin; refine app_str rfl _ _ rfl w0.heap.size k p c2 ws T rfl HO5.out rfl (by omega) HB5.out HB5.out.size ?_; intro g9 c9 w6 ho hb; have HO6 := hide ho; have HB6 := hide hb; clear ho hb)
            go_roundw
            case rel => exact ⟨k + 1, S2 ++ Qt, some ⟨g9, 0, none⟩, c9, ws ++ [T], r ++ [(b, nums T)], by omega, by omega, rfl, rfl, by go_num, hS6, HS6, hide (fun x hx => by
              rcases List.mem_append.1 hx with h | h
              · exact HIt.out x h
              · rw [List.mem_singleton] at h; rw [h]
                refine ⟨fun e => ?_, HBk.out, HTm.out⟩
                have h2 := congrArg List.length e
                have h3 : b.length = j := HBl.out
                have h4 : b.length = 0 := h2
                omega), hide (by rw [List.map_append, List.map_append, HWr.out]; rfl), hide (by simp [HWl.out]), HO6, HB6⟩
            case measure => simp [intOf]; omega
    · have hx : (decide ((k : Int) < (l : Int)) = false ∧ decide (k < l) = false) ∨ ((k : Int) < (l : Int) ∧ k < l ∧ decide ((k : Int) < 33) = false ∧ decide (k < 33) = false) := by
        by_cases h : k < l
        · exact .inr ⟨by omega, h, decide_eq_false (by omega), decide_eq_false (by omega)⟩
        · exact .inl ⟨decide_eq_false (by omega), decide_eq_false (by omega)⟩
      clear hgo
      have HBw : Hid (Below w.heap.size w wr) := HB0.out.trans (HB.out.mono HB0.out.size)
      have HWd := hide (words_any wr (HT.out.below HB.out) S (by omega))
      have HWL := hide (words_line S r HSn.out HIt.out)
      have hrl : r.length = k := by have := congrArg List.length HWr.out; rw [List.length_map, List.length_map, HWl.out] at this; exact this.symm
      rw [hrl] at HWL
      clear hrl
      rcases hx with ⟨x1, x2⟩ | ⟨x1, x2, x3, x4⟩
      · go_wp2_with fail
        refine HWd.out.mono ?_
        rintro e w2 ⟨hTold, b2⟩
        have HB2 : Hid (Below w.heap.size w w2) := HBw.out.trans (b2.mono HBw.out.size)
        have HB3 : Hid (Below w0.heap.size w0 w2) := HB.out.trans (b2.mono HB.out.size)
        have HO2 : Hid (w2.ownsRow w0.heap.size 9 1 (.slice p k c2) k (ws.map Value.string)) := own_below HO.out b2
        clear b2 HWd
        by_cases hfit : S.size ≤ 1024 ∧ k ≤ 32
        · have hwl := HWL.out
          rw [if_pos hfit] at hwl
          obtain ⟨f1, f2⟩ := hfit
          have y1 : decide ((1024 : Int) < (S.size : Int)) = false := decide_eq_false (by omega)
          have y2 : decide ((32 : Int) < (k : Int)) = false := decide_eq_false (by omega)
          rcases hTold with ⟨hno, _⟩ | ⟨v, la, hla, rfl, hown⟩
          · rw [hwl] at hno; cases hno
          · have hlw : la = ws := by
              apply map_nums_inj
              rw [hwl] at hla
              rw [← Option.some.inj hla, HWr.out]
            subst hlw
            have hlk : la.length = k := HWl.out
            obtain ⟨p3, c3, rfl⟩ : ∃ p3 c3, v = .slice p3 la.length c3 := by
              rcases hown.2 with ⟨e, h0⟩ | ⟨g, cap, cur, e, _⟩
              · exact ⟨none, 0, by rw [e, h0]⟩
              · exact ⟨_, _, e⟩
            have HEq := hide (eqs_any w2 p3 p c3 c2 la la (own_strs hown rfl) (own_strs HO2.out hlk) (by omega))
            rw [hlk] at HEq ⊢
            clear hla hown hwl
            go_wp2_with (first | (go_at_call 9; refine (num_any _ _).mono ?_; rintro e w9 ⟨rfl, h9⟩; obtain rfl := h9.symm; clear h9))
            refine HEq.out.mono ?_
            rintro e w7 ⟨⟨R, hR, rfl⟩, n7, h7⟩
            obtain rfl : R = true := hR.2 (by first | trivial | rfl)
            have HB7 : Hid (Below w.heap.size w w7) := by show Below _ _ _; rw [h7]; exact below_drewNv HB2.out n7
            have HB8 : Hid (Below w0.heap.size w0 w7) := by show Below _ _ _; rw [h7]; exact below_drewNv HB3.out n7
            have HBe := hide (begun_any w7 (HT.out.below HB8.out))
            clear h7 hR HEq
            go_wp2_with fail
            refine HBe.out.mono ?_
            rintro e w8 ⟨rfl, b8⟩
            have HB9 : Hid (Below w.heap.size w w8) := HB7.out.trans (b8.mono HB7.out.size)
            clear b8 HBe
            go_wp2
            go_ret
            exact ⟨rfl, HB9.out⟩
        · have hwl := HWL.out
          rw [if_neg hfit] at hwl
          rcases hTold with ⟨_, rfl⟩ | ⟨v, la, hla, _⟩
          · by_cases h1k : 1024 < S.size
            · have y1 : (1024 : Int) < (S.size : Int) := by omega
              clear hfit hwl
              go_wp2_with (first | (go_at_call 9; refine (num_any _ _).mono ?_; rintro e w9 ⟨rfl, h9⟩; obtain rfl := h9.symm; clear h9))
              go_ret
              exact ⟨rfl, HB2.out⟩
            · have y1 : decide ((1024 : Int) < (S.size : Int)) = false := decide_eq_false (by omega)
              have y2 : (32 : Int) < (k : Int) := by omega
              clear hfit hwl
              go_wp2_with (first | (go_at_call 9; refine (num_any _ _).mono ?_; rintro e w9 ⟨rfl, h9⟩; obtain rfl := h9.symm; clear h9))
              go_ret
              exact ⟨rfl, HB2.out⟩
          · rw [hwl] at hla; cases hla
      · go_wp2_with fail
        refine HWd.out.mono ?_
        rintro e w2 ⟨hTold, b2⟩
        have HB2 : Hid (Below w.heap.size w w2) := HBw.out.trans (b2.mono HBw.out.size)
        have HB3 : Hid (Below w0.heap.size w0 w2) := HB.out.trans (b2.mono HB.out.size)
        have HO2 : Hid (w2.ownsRow w0.heap.size 9 1 (.slice p k c2) k (ws.map Value.string)) := own_below HO.out b2
        clear b2 HWd
        by_cases hfit : S.size ≤ 1024 ∧ k ≤ 32
        · have hwl := HWL.out
          rw [if_pos hfit] at hwl
          obtain ⟨f1, f2⟩ := hfit
          have y1 : decide ((1024 : Int) < (S.size : Int)) = false := decide_eq_false (by omega)
          have y2 : decide ((32 : Int) < (k : Int)) = false := decide_eq_false (by omega)
          rcases hTold with ⟨hno, _⟩ | ⟨v, la, hla, rfl, hown⟩
          · rw [hwl] at hno; cases hno
          · have hlw : la = ws := by
              apply map_nums_inj
              rw [hwl] at hla
              rw [← Option.some.inj hla, HWr.out]
            subst hlw
            have hlk : la.length = k := HWl.out
            obtain ⟨p3, c3, rfl⟩ : ∃ p3 c3, v = .slice p3 la.length c3 := by
              rcases hown.2 with ⟨e, h0⟩ | ⟨g, cap, cur, e, _⟩
              · exact ⟨none, 0, by rw [e, h0]⟩
              · exact ⟨_, _, e⟩
            have HEq := hide (eqs_any w2 p3 p c3 c2 la la (own_strs hown rfl) (own_strs HO2.out hlk) (by omega))
            rw [hlk] at HEq ⊢
            clear hla hown hwl
            go_wp2_with (first | (go_at_call 9; refine (num_any _ _).mono ?_; rintro e w9 ⟨rfl, h9⟩; obtain rfl := h9.symm; clear h9))
            refine HEq.out.mono ?_
            rintro e w7 ⟨⟨R, hR, rfl⟩, n7, h7⟩
            obtain rfl : R = true := hR.2 (by first | trivial | rfl)
            have HB7 : Hid (Below w.heap.size w w7) := by show Below _ _ _; rw [h7]; exact below_drewNv HB2.out n7
            have HB8 : Hid (Below w0.heap.size w0 w7) := by show Below _ _ _; rw [h7]; exact below_drewNv HB3.out n7
            have HBe := hide (begun_any w7 (HT.out.below HB8.out))
            clear h7 hR HEq
            go_wp2_with fail
            refine HBe.out.mono ?_
            rintro e w8 ⟨rfl, b8⟩
            have HB9 : Hid (Below w.heap.size w w8) := HB7.out.trans (b8.mono HB7.out.size)
            clear b8 HBe
            go_wp2
            go_ret
            exact ⟨rfl, HB9.out⟩
        · have hwl := HWL.out
          rw [if_neg hfit] at hwl
          rcases hTold with ⟨_, rfl⟩ | ⟨v, la, hla, _⟩
          · by_cases h1k : 1024 < S.size
            · have y1 : (1024 : Int) < (S.size : Int) := by omega
              clear hfit hwl
              go_wp2_with (first | (go_at_call 9; refine (num_any _ _).mono ?_; rintro e w9 ⟨rfl, h9⟩; obtain rfl := h9.symm; clear h9))
              go_ret
              exact ⟨rfl, HB2.out⟩
            · have y1 : decide ((1024 : Int) < (S.size : Int)) = false := decide_eq_false (by omega)
              have y2 : (32 : Int) < (k : Int) := by omega
              clear hfit hwl
              go_wp2_with (first | (go_at_call 9; refine (num_any _ _).mono ?_; rintro e w9 ⟨rfl, h9⟩; obtain rfl := h9.symm; clear h9))
              go_ret
              exact ⟨rfl, HB2.out⟩
          · rw [hwl] at hla; cases hla

end Go.Proofs.YtolegbngjhfdlabDoor
