import Derived.Test.YtolegbngjhfdlaaDoorWholesP
import Derived.BigQuiet
import Derived.Test.YtolegbngjhfdlaaDoorBegun2
import Derived.Test.YtolegbngjhfdlaaDoorFoldQ
import Derived.Test.YtolegbngjhfdlaaDoorSums
import Derived.Lib.QuietBelow
namespace Go.Proofs.YtolegbngjhfdlaaDoor
open Go.RowKit Go.Sort

theorem dig_any (w : World) (hT : Tabs w) (n : Int) (h0 : -9223372036854775808 ≤ n) (h1 : n ≤ 9223372036854775807) :
    Calls Tryd.prog 21 #[.int .i64 n] w fun e w' => e = .returned (.string (str (dz n))) ∧ Below w.heap.size w w' :=
  (digits_any w hT n h0 h1).mono fun e w' ⟨he, hb⟩ => ⟨by rw [he]; rw [str_of (t := ⟨(Lib.itoa n).toArray⟩) (nums_mk' _)]; rfl, hb⟩

theorem dz_small (n : Int) : ∀ x ∈ dz n, x < 256 := by
  intro x hx
  obtain ⟨b, _, rfl⟩ := List.mem_map.1 hx
  exact b.toNat_lt
theorem nums_dz (n : Int) : nums (str (dz n)) = dz n := nums_str _ (dz_small n)
theorem dz_size (n : Int) : (str (dz n)).size = (dz n).length := by rw [← nums_len, nums_dz]
theorem dz_len (n : Int) (h0 : -9223372036854775808 ≤ n) (h1 : n ≤ 9223372036854775807) : (dz n).length ≤ 21 := by
  rw [dz, List.length_map]; exact Lib.itoa_length_le n h0 h1
theorem dz_ne (n : Int) : dz n ≠ [] := by
  by_cases h : n < 0
  · rw [dz_neg n h]; simp
  · rw [dz_pos n h]; exact dn_ne _
theorem str_none (l : List Nat) (h : l ≠ []) (h2 : ∀ x ∈ l, x < 256) : ((str l).toList == ([] : List UInt8)) = false := by
  rw [nums_eq, nums_str l h2]
  simp [h]
theorem get_head (s : ByteArray) (x : Nat) (h : (nums s).head? = some x) : ∃ hp : 0 < s.size, (s[0]'hp).toNat = x := by
  have hp : 0 < s.size := by
    rw [← nums_len]
    cases hn : nums s with
    | nil => rw [hn] at h; simp at h
    | cons => simp
  refine ⟨hp, ?_⟩
  have := nums_at s 0 hp
  rw [List.head?_eq_getElem?, this] at h
  exact Option.some.inj h

/-- Where the boxed argument lies. -/
structure Box (w0 : World) (b : Nat) (v0 v1 : Value) : Prop where
  lt : b < w0.heap.size
  c0 : w0.cell? ⟨b, 0, none⟩ = some v0
  c1 : w0.cell? ⟨b, 1, none⟩ = some v1
theorem Box.below {w0 w1 : World} {b : Nat} {v0 v1 : Value} (h : Box w0 b v0 v1) (hb : Below w0.heap.size w0 w1) : Box w1 b v0 v1 :=
  ⟨Nat.lt_of_lt_of_le h.lt hb.size, by rw [hb.cell (p := ⟨b, 0, none⟩) h.lt]; exact h.c0, by rw [hb.cell (p := ⟨b, 1, none⟩) h.lt]; exact h.c1⟩
theorem Box.new (w : World) (v0 v1 : Value) (t : TypeId) : Box (w.alloc (.cells #[v0, v1] t)) w.heap.size v0 v1 := by
  have h := World.alloc_heap_new w (.cells #[v0, v1] t)
  exact ⟨by simp, by unfold World.cell?; simp only [h]; rfl, by unfold World.cell?; simp only [h]; rfl⟩

theorem str_self2 (a : ByteArray) : (a.toList == a.toList) = true := (str_eq a a).2 rfl

theorem one_byte (W : World) (x : Nat) (hx : x < 256) : ∃ t, (convert 39 9 (.slice (some ⟨W.heap.size, 0, none⟩) 1 1)).run Tryd.prog (W.alloc (.cells #[.int .u8 (x : Int)] 5)) = .ok (.string t) (W.alloc (.cells #[.int .u8 (x : Int)] 5)) ∧ nums t = [x] := by
  have h := World.alloc_heap_new W (.cells #[.int .u8 (x : Int)] 5)
  refine bytes_back _ W.heap.size 1 [x] (fun j hj => ?_) (by simp; exact hx) 1 rfl
  obtain rfl : j = 0 := by simpa using hj
  exact ⟨by unfold World.cell?; simp only [h]; rfl, by unfold World.frozen?; simp only [h]; rfl⟩

set_option maxRecDepth 100000 in
set_option maxHeartbeats 8000000 in
theorem wholes_all (w : World) (hT : Tabs w) (sp : Option Addr) (l c : Nat) (ls : List ByteArray) (np : Option Addr) (m d : Nat) (zs : List Int) (hs : InS w sp l c ls) (hn : InN w np m d zs) :
    Calls Tryd.prog 5 #[.agg #[.slice sp l c, .slice np m d]] w fun e w' => e = .returned (.bool true) ∧ Below w.heap.size w w' := by
  have hB0 : Below w.heap.size w (w.alloc (.cells #[.slice sp l c, .slice np m d] 32)) := (Below.refl _ w).alloc (Nat.le_refl _) _
  have HBx := hide (Box.new w (.slice sp l c) (.slice np m d) 32)
  have HT := hide (hT.below hB0)
  have HN := hide (hn.lie.below hB0 (Nat.le_refl _))
  have HS := hide (hs.lie.below hB0 (Nat.le_refl _))
  have HNe := hide hn.each
  have HNl := hide hn.len
  have HSe := hide hs.each
  have HSl := hide hs.len
  have hm : m ≤ 140737488351232 := Nat.le_trans hn.cap hn.most
  have hl : l ≤ 140737488351232 := Nat.le_trans hs.cap hs.most
  have HB0 := hide hB0
  have HBe := hide (begun_any _ HT.out)
  clear hT hs hn hB0
  go_enter Tryd.func5, Tryd.ntmps5
  go_wp2_with fail
  generalize w.alloc (.cells #[.slice sp l c, .slice np m d] 32) = w0 at *
  refine HBe.out.mono ?_
  rintro e w1 ⟨rfl, b1⟩
  have HB1 := hide b1
  clear b1 HBe
  go_wp2
  go_loopw [3] (fun i wr => ∃ (k : Nat), k ≤ m ∧ i = .int .i64 (k : Int) ∧ Hid (Below w0.heap.size w0 wr)) (fun i _ => m - (intOf i).toNat)
  case atStart => exact ⟨0, Nat.zero_le _, rfl, HB1⟩
  case round =>
    clear HB1
    obtain ⟨k, hk, rfl, HB⟩ := hrel
    have bc1 := (HBx.out.below HB.out).c1
    by_cases hlt : k < m
    · have hlt' : k < zs.length := by rw [HNl.out]; exact hlt
      have e1 : zs[k]? = some (zs[k]'hlt') := List.getElem?_eq_getElem _
      have hzb := HNe.out _ (List.getElem_mem hlt')
      obtain ⟨g, o, hp, hc1⟩ : ∃ g o, np = some ⟨g, o, none⟩ ∧ wr.cell? ⟨g, o + k, none⟩ = some (.int .i64 (zs[k]'hlt')) := by
        rcases HN.out.below HB.out (Nat.le_refl _) with h | ⟨g, o, e, _, hc⟩
        · rw [h] at hlt'; simp at hlt'
        · exact ⟨g, o, e, hc k _ e1⟩
      subst hp
      clear e1
      generalize zs[k]'hlt' = z at *
      obtain ⟨hz1, hz2⟩ := hzb
      have HDg := hide (dig_any wr (HT.out.below HB.out) z hz1 hz2)
      have HSn := hide (nums_dz z)
      have hSz : (str (dz z)).size ≤ 21 := by rw [dz_size]; exact dz_len z hz1 hz2
      have zE := str_none (dz z) (dz_ne z) (dz_small z)
      generalize str (dz z) = S at *
      have l1 : (k : Int) < (m : Int) := by omega
      have l2 : (0 : Int) ≤ (k : Int) := by omega
      go_wp2_with fail
      refine HDg.out.mono ?_
      rintro e w2 ⟨rfl, b2⟩
      have HB2 : Hid (Below w0.heap.size w0 w2) := HB.out.trans (b2.mono HB.out.size)
      have HWh := hide (whole_any w2 S (by omega))
      rw [HSn.out, whole_dz] at HWh
      clear b2 HDg HB hc1 bc1
      go_wp2_with fail
      refine HWh.out.mono ?_
      rintro e w3 ⟨rfl, b3⟩
      have HB3 : Hid (Below w0.heap.size w0 w3) := HB2.out.trans (b3.mono HB2.out.size)
      clear b3 HWh HB2
      have bc1 := (HBx.out.below HB3.out).c1
      by_cases hin : -9007199254740992 ≤ z ∧ z ≤ 9007199254740992
      · rw [if_pos hin]
        obtain ⟨hi1, hi2⟩ := hin
        simp only
        by_cases hneg : z < 0
        · have hx : (nums S).head? = some 45 := by rw [HSn.out, dz_neg z hneg]; rfl
          obtain ⟨hp0, h45⟩ := get_head S 45 hx
          clear hx
          have yn : z < 0 := by omega
          have yp : decide (0 ≤ z) = false := decide_eq_false (by omega)
          by_cases hk0 : k = 0
          · have y1 : decide (0 < k) = false := decide_eq_false (by omega)
            have y2 : ¬ 0 < k := by omega
            clear hk0
            go_wp2_with (first | (go_at_call 10; refine (num_any _ _).mono ?_; rintro e w9 ⟨rfl, h9⟩; obtain rfl := h9.symm; clear h9))
            go_roundw
            case rel => exact ⟨k + 1, by omega, by go_num, HB3⟩
            case measure => simp [intOf]; omega
          · have y1 : 0 < k := by omega
            have y1' : (0 : Int) < (k : Int) := by omega
            clear hk0
            go_wp2_with (first | (go_at_call 10; refine (num_any _ _).mono ?_; rintro e w9 ⟨rfl, h9⟩; obtain rfl := h9.symm; clear h9))
            go_roundw
            case rel => exact ⟨k + 1, by omega, by go_num, HB3⟩
            case measure => simp [intOf]; omega
        · by_cases h9 : z ≤ 9
          · obtain ⟨zn, rfl⟩ : ∃ zn : Nat, z = (zn : Int) := ⟨z.toNat, by omega⟩
            have yn : decide ((zn : Int) < 0) = false := decide_eq_false (by omega)
            obtain ⟨x0, hx0, hx1⟩ : ∃ x, (nums S).head? = some x ∧ x ≠ 45 := by
              rw [HSn.out, dz_pos _ hneg]
              cases hd : (dn (zn : Int).natAbs).head? with
              | none => exact absurd (List.head?_eq_none_iff.1 hd) (dn_ne _)
              | some x => exact ⟨x, rfl, fun e => dn_head45 _ (by rw [hd, e])⟩
            obtain ⟨hp0, hx45⟩ := get_head S x0 hx0
            have h45 : ((x0 : Int) == 45) = false := by simp; omega
            clear hx0
            have y9 : (zn : Int) ≤ 9 := by omega
            obtain ⟨t1, hcv, ht1⟩ := one_byte w3 (48 + zn) (by omega)
            rw [show ((48 + zn : Nat) : Int) = 48 + (zn : Int) by omega] at hcv
            have zt : (S.toList == t1.toList) = true := (str_eq _ _).2 (nums_inj (by rw [HSn.out, ht1, dz_pos _ hneg, show (zn : Int).natAbs = zn by omega, dn_one (by omega)]))
            have bc1a : (w3.alloc (.cells #[.int .u8 (48 + (zn : Int))] 5)).cell? ⟨w.heap.size, 1, none⟩ = some (.slice (some ⟨g, o, none⟩) m d) := (HBx.out.below (HB3.out.alloc HB3.out.size _)).c1
            have HB3' := HB3
            have HB4 : Hid (Below w0.heap.size w0 (w3.alloc (.cells #[.int .u8 (48 + (zn : Int))] 5))) := HB3.out.alloc HB3.out.size _
            clear ht1
            by_cases hk0 : k = 0
            · have y1 : decide (0 < k) = false := decide_eq_false (by omega)
              have y2 : ¬ 0 < k := by omega
              clear hk0
              go_wp2_with (first | (go_at_call 10; refine (num_any _ _).mono ?_; rintro e w9 ⟨rfl, h9⟩; obtain rfl := h9.symm; clear h9))
              go_roundw
              case rel => exact ⟨k + 1, by omega, by go_num, HB4⟩
              case measure => simp [intOf]; omega
            · obtain ⟨j, rfl⟩ : ∃ j, k = j + 1 := ⟨k - 1, by omega⟩
              have hjl : j < zs.length := by omega
              have ej : zs[j]? = some (zs[j]'hjl) := List.getElem?_eq_getElem _
              obtain ⟨hq1, hq2⟩ := HNe.out _ (List.getElem_mem hjl)
              have HPc : Hid (∀ W, Below w0.heap.size w0 W → W.cell? ⟨g, o + j, none⟩ = some (.int .i64 (zs[j]'hjl))) := fun W hW => by
                rcases HN.out.below hW (Nat.le_refl _) with h | ⟨g2, o2, e, _, hc⟩
                · rw [h] at hjl; simp at hjl
                · cases e; exact hc j _ ej
              generalize zs[j]'hjl = q at *
              have pc := HPc.out _ HB4.out
              have pc3 := HPc.out _ HB3.out
              have j1 : (j : Int) < (m : Int) := by omega
              have j2 : (0 : Int) ≤ (j : Int) := by omega
              clear ej hk0
              by_cases hq : q < 0
              · have yq : decide (0 ≤ q) = false := decide_eq_false (by omega)
                go_wp2_with (first | (go_at_call 10; refine (num_any _ _).mono ?_; rintro e w9 ⟨rfl, h9⟩; obtain rfl := h9.symm; clear h9))
                go_roundw
                case rel => exact ⟨j + 1 + 1, by omega, by go_num, HB4⟩
                case measure => simp [intOf]; omega
              · have yq : 0 ≤ q := by omega
                have HDq := hide (dig_any (w3.alloc (.cells #[.int .u8 (48 + (zn : Int))] 5)) (HT.out.below HB4.out) q hq1 hq2)
                have HQs : Hid ((str (dz q)).size = (dn q.natAbs).length) := by show _ = _; rw [dz_size, dz_pos _ hq]
                have HSs : Hid (S.size = (dn zn).length) := by show _ = _; rw [← nums_len, HSn.out, dz_pos _ hneg, show (zn : Int).natAbs = zn by omega]
                generalize str (dz q) = Q at *
                by_cases hls : S.size < Q.size
                · have yl : (S.size : Int) < (Q.size : Int) := by omega
                  have hlq : (zn : Int) < q := by
                    rcases Int.lt_or_le (zn : Int) q with h | h
                    · exact h
                    · have := nd_mono (a := q.natAbs) (b := zn) (by omega)
                      have e1 := HQs.out
                      have e2 := HSs.out
                      omega
                  have yz : decide (q ≤ (zn : Int)) = false := decide_eq_false (by omega)
                  go_wp2_with (first | (go_at_call 10; refine (num_any _ _).mono ?_; rintro e w9 ⟨rfl, h9⟩; obtain rfl := h9.symm; clear h9))
                  refine HDq.out.mono ?_
                  rintro e w4 ⟨rfl, b4⟩
                  have HB5 : Hid (Below w0.heap.size w0 w4) := HB4.out.trans (b4.mono HB4.out.size)
                  have bc4 := (HBx.out.below HB5.out).c1
                  have pc4 := HPc.out _ HB5.out
                  clear b4 HDq
                  go_wp2
                  go_roundw
                  case rel => exact ⟨j + 1 + 1, by omega, by go_num, HB5⟩
                  case measure => simp [intOf]; omega
                · have yl : decide ((S.size : Int) < (Q.size : Int)) = false := decide_eq_false (by omega)
                  have yl2 : decide (S.size < Q.size) = false := decide_eq_false (by omega)
                  go_wp2_with (first | (go_at_call 10; refine (num_any _ _).mono ?_; rintro e w9 ⟨rfl, h9⟩; obtain rfl := h9.symm; clear h9))
                  refine HDq.out.mono ?_
                  rintro e w4 ⟨rfl, b4⟩
                  have HB5 : Hid (Below w0.heap.size w0 w4) := HB4.out.trans (b4.mono HB4.out.size)
                  have bc4 := (HBx.out.below HB5.out).c1
                  have pc4 := HPc.out _ HB5.out
                  clear b4 HDq
                  go_wp2
                  go_roundw
                  case rel => exact ⟨j + 1 + 1, by omega, by go_num, HB5⟩
                  case measure => simp [intOf]; omega
          · obtain ⟨zn, rfl⟩ : ∃ zn : Nat, z = (zn : Int) := ⟨z.toNat, by omega⟩
            have yn : decide ((zn : Int) < 0) = false := decide_eq_false (by omega)
            obtain ⟨x0, hx0, hx1⟩ : ∃ x, (nums S).head? = some x ∧ x ≠ 45 := by
              rw [HSn.out, dz_pos _ hneg]
              cases hd : (dn (zn : Int).natAbs).head? with
              | none => exact absurd (List.head?_eq_none_iff.1 hd) (dn_ne _)
              | some x => exact ⟨x, rfl, fun e => dn_head45 _ (by rw [hd, e])⟩
            obtain ⟨hp0, hx45⟩ := get_head S x0 hx0
            have h45 : ((x0 : Int) == 45) = false := by simp; omega
            clear hx0
            have y9 : decide ((zn : Int) ≤ 9) = false := decide_eq_false (by omega)
            have HB4 := HB3
            by_cases hk0 : k = 0
            · have y1 : decide (0 < k) = false := decide_eq_false (by omega)
              have y2 : ¬ 0 < k := by omega
              clear hk0
              go_wp2_with (first | (go_at_call 10; refine (num_any _ _).mono ?_; rintro e w9 ⟨rfl, h9⟩; obtain rfl := h9.symm; clear h9))
              go_roundw
              case rel => exact ⟨k + 1, by omega, by go_num, HB4⟩
              case measure => simp [intOf]; omega
            · obtain ⟨j, rfl⟩ : ∃ j, k = j + 1 := ⟨k - 1, by omega⟩
              have hjl : j < zs.length := by omega
              have ej : zs[j]? = some (zs[j]'hjl) := List.getElem?_eq_getElem _
              obtain ⟨hq1, hq2⟩ := HNe.out _ (List.getElem_mem hjl)
              have HPc : Hid (∀ W, Below w0.heap.size w0 W → W.cell? ⟨g, o + j, none⟩ = some (.int .i64 (zs[j]'hjl))) := fun W hW => by
                rcases HN.out.below hW (Nat.le_refl _) with h | ⟨g2, o2, e, _, hc⟩
                · rw [h] at hjl; simp at hjl
                · cases e; exact hc j _ ej
              generalize zs[j]'hjl = q at *
              have pc := HPc.out _ HB4.out
              have pc3 := HPc.out _ HB3.out
              have j1 : (j : Int) < (m : Int) := by omega
              have j2 : (0 : Int) ≤ (j : Int) := by omega
              clear ej hk0
              by_cases hq : q < 0
              · have yq : decide (0 ≤ q) = false := decide_eq_false (by omega)
                go_wp2_with (first | (go_at_call 10; refine (num_any _ _).mono ?_; rintro e w9 ⟨rfl, h9⟩; obtain rfl := h9.symm; clear h9))
                go_roundw
                case rel => exact ⟨j + 1 + 1, by omega, by go_num, HB4⟩
                case measure => simp [intOf]; omega
              · have yq : 0 ≤ q := by omega
                have HDq := hide (dig_any w3 (HT.out.below HB4.out) q hq1 hq2)
                have HQs : Hid ((str (dz q)).size = (dn q.natAbs).length) := by show _ = _; rw [dz_size, dz_pos _ hq]
                have HSs : Hid (S.size = (dn zn).length) := by show _ = _; rw [← nums_len, HSn.out, dz_pos _ hneg, show (zn : Int).natAbs = zn by omega]
                generalize str (dz q) = Q at *
                by_cases hls : S.size < Q.size
                · have yl : (S.size : Int) < (Q.size : Int) := by omega
                  have hlq : (zn : Int) < q := by
                    rcases Int.lt_or_le (zn : Int) q with h | h
                    · exact h
                    · have := nd_mono (a := q.natAbs) (b := zn) (by omega)
                      have e1 := HQs.out
                      have e2 := HSs.out
                      omega
                  have yz : decide (q ≤ (zn : Int)) = false := decide_eq_false (by omega)
                  go_wp2_with (first | (go_at_call 10; refine (num_any _ _).mono ?_; rintro e w9 ⟨rfl, h9⟩; obtain rfl := h9.symm; clear h9))
                  refine HDq.out.mono ?_
                  rintro e w4 ⟨rfl, b4⟩
                  have HB5 : Hid (Below w0.heap.size w0 w4) := HB4.out.trans (b4.mono HB4.out.size)
                  have bc4 := (HBx.out.below HB5.out).c1
                  have pc4 := HPc.out _ HB5.out
                  clear b4 HDq
                  go_wp2
                  go_roundw
                  case rel => exact ⟨j + 1 + 1, by omega, by go_num, HB5⟩
                  case measure => simp [intOf]; omega
                · have yl : decide ((S.size : Int) < (Q.size : Int)) = false := decide_eq_false (by omega)
                  have yl2 : decide (S.size < Q.size) = false := decide_eq_false (by omega)
                  go_wp2_with (first | (go_at_call 10; refine (num_any _ _).mono ?_; rintro e w9 ⟨rfl, h9⟩; obtain rfl := h9.symm; clear h9))
                  refine HDq.out.mono ?_
                  rintro e w4 ⟨rfl, b4⟩
                  have HB5 : Hid (Below w0.heap.size w0 w4) := HB4.out.trans (b4.mono HB4.out.size)
                  have bc4 := (HBx.out.below HB5.out).c1
                  have pc4 := HPc.out _ HB5.out
                  clear b4 HDq
                  go_wp2
                  go_roundw
                  case rel => exact ⟨j + 1 + 1, by omega, by go_num, HB5⟩
                  case measure => simp [intOf]; omega
      · rw [if_neg hin]
        simp only
        by_cases hneg : z < 0
        · have hx : (nums S).head? = some 45 := by rw [HSn.out, dz_neg z hneg]; rfl
          obtain ⟨hp0, h45⟩ := get_head S 45 hx
          clear hx
          have yo : decide (-9007199254740992 ≤ z) = false := decide_eq_false (by omega)
          have yn : z < 0 := by omega
          have yp : decide (0 ≤ z) = false := decide_eq_false (by omega)
          by_cases hk0 : k = 0
          · have y1 : decide (0 < k) = false := decide_eq_false (by omega)
            have y2 : ¬ 0 < k := by omega
            clear hk0
            go_wp2_with (first | (go_at_call 10; refine (num_any _ _).mono ?_; rintro e w9 ⟨rfl, h9⟩; obtain rfl := h9.symm; clear h9))
            go_roundw
            case rel => exact ⟨k + 1, by omega, by go_num, HB3⟩
            case measure => simp [intOf]; omega
          · have y1 : 0 < k := by omega
            have y1' : (0 : Int) < (k : Int) := by omega
            clear hk0
            go_wp2_with (first | (go_at_call 10; refine (num_any _ _).mono ?_; rintro e w9 ⟨rfl, h9⟩; obtain rfl := h9.symm; clear h9))
            go_roundw
            case rel => exact ⟨k + 1, by omega, by go_num, HB3⟩
            case measure => simp [intOf]; omega
        · obtain ⟨zn, rfl⟩ : ∃ zn : Nat, z = (zn : Int) := ⟨z.toNat, by omega⟩
          have yn : decide ((zn : Int) < 0) = false := decide_eq_false (by omega)
          obtain ⟨x0, hx0, hx1⟩ : ∃ x, (nums S).head? = some x ∧ x ≠ 45 := by
            rw [HSn.out, dz_pos _ hneg]
            cases hd : (dn (zn : Int).natAbs).head? with
            | none => exact absurd (List.head?_eq_none_iff.1 hd) (dn_ne _)
            | some x => exact ⟨x, rfl, fun e => dn_head45 _ (by rw [hd, e])⟩
          obtain ⟨hp0, hx45⟩ := get_head S x0 hx0
          have h45 : ((x0 : Int) == 45) = false := by simp; omega
          clear hx0
          have y9 : decide ((zn : Int) ≤ 9) = false := decide_eq_false (by omega)
          have yo : decide ((zn : Int) ≤ 9007199254740992) = false := decide_eq_false (by omega)
          have HB4 := HB3
          by_cases hk0 : k = 0
          · have y1 : decide (0 < k) = false := decide_eq_false (by omega)
            have y2 : ¬ 0 < k := by omega
            clear hk0
            go_wp2_with (first | (go_at_call 10; refine (num_any _ _).mono ?_; rintro e w9 ⟨rfl, h9⟩; obtain rfl := h9.symm; clear h9))
            go_roundw
            case rel => exact ⟨k + 1, by omega, by go_num, HB4⟩
            case measure => simp [intOf]; omega
          · obtain ⟨j, rfl⟩ : ∃ j, k = j + 1 := ⟨k - 1, by omega⟩
            have hjl : j < zs.length := by omega
            have ej : zs[j]? = some (zs[j]'hjl) := List.getElem?_eq_getElem _
            obtain ⟨hq1, hq2⟩ := HNe.out _ (List.getElem_mem hjl)
            have HPc : Hid (∀ W, Below w0.heap.size w0 W → W.cell? ⟨g, o + j, none⟩ = some (.int .i64 (zs[j]'hjl))) := fun W hW => by
              rcases HN.out.below hW (Nat.le_refl _) with h | ⟨g2, o2, e, _, hc⟩
              · rw [h] at hjl; simp at hjl
              · cases e; exact hc j _ ej
            generalize zs[j]'hjl = q at *
            have pc := HPc.out _ HB4.out
            have pc3 := HPc.out _ HB3.out
            have j1 : (j : Int) < (m : Int) := by omega
            have j2 : (0 : Int) ≤ (j : Int) := by omega
            clear ej hk0
            by_cases hq : q < 0
            · have yq : decide (0 ≤ q) = false := decide_eq_false (by omega)
              go_wp2_with (first | (go_at_call 10; refine (num_any _ _).mono ?_; rintro e w9 ⟨rfl, h9⟩; obtain rfl := h9.symm; clear h9))
              go_roundw
              case rel => exact ⟨j + 1 + 1, by omega, by go_num, HB4⟩
              case measure => simp [intOf]; omega
            · have yq : 0 ≤ q := by omega
              have HDq := hide (dig_any w3 (HT.out.below HB4.out) q hq1 hq2)
              have HQs : Hid ((str (dz q)).size = (dn q.natAbs).length) := by show _ = _; rw [dz_size, dz_pos _ hq]
              have HSs : Hid (S.size = (dn zn).length) := by show _ = _; rw [← nums_len, HSn.out, dz_pos _ hneg, show (zn : Int).natAbs = zn by omega]
              generalize str (dz q) = Q at *
              by_cases hls : S.size < Q.size
              · have yl : (S.size : Int) < (Q.size : Int) := by omega
                have hlq : (zn : Int) < q := by
                  rcases Int.lt_or_le (zn : Int) q with h | h
                  · exact h
                  · have := nd_mono (a := q.natAbs) (b := zn) (by omega)
                    have e1 := HQs.out
                    have e2 := HSs.out
                    omega
                have yz : decide (q ≤ (zn : Int)) = false := decide_eq_false (by omega)
                go_wp2_with (first | (go_at_call 10; refine (num_any _ _).mono ?_; rintro e w9 ⟨rfl, h9⟩; obtain rfl := h9.symm; clear h9))
                refine HDq.out.mono ?_
                rintro e w4 ⟨rfl, b4⟩
                have HB5 : Hid (Below w0.heap.size w0 w4) := HB4.out.trans (b4.mono HB4.out.size)
                have bc4 := (HBx.out.below HB5.out).c1
                have pc4 := HPc.out _ HB5.out
                clear b4 HDq
                go_wp2
                go_roundw
                case rel => exact ⟨j + 1 + 1, by omega, by go_num, HB5⟩
                case measure => simp [intOf]; omega
              · have yl : decide ((S.size : Int) < (Q.size : Int)) = false := decide_eq_false (by omega)
                have yl2 : decide (S.size < Q.size) = false := decide_eq_false (by omega)
                go_wp2_with (first | (go_at_call 10; refine (num_any _ _).mono ?_; rintro e w9 ⟨rfl, h9⟩; obtain rfl := h9.symm; clear h9))
                refine HDq.out.mono ?_
                rintro e w4 ⟨rfl, b4⟩
                have HB5 : Hid (Below w0.heap.size w0 w4) := HB4.out.trans (b4.mono HB4.out.size)
                have bc4 := (HBx.out.below HB5.out).c1
                have pc4 := HPc.out _ HB5.out
                clear b4 HDq
                go_wp2
                go_roundw
                case rel => exact ⟨j + 1 + 1, by omega, by go_num, HB5⟩
                case measure => simp [intOf]; omega
    · have l1 : decide ((k : Int) < (m : Int)) = false := decide_eq_false (by omega)
      go_wp2
      clear bc1 l1
      go_loopw [9] (fun i wr => ∃ (k : Nat), k ≤ l ∧ i = .int .i64 (k : Int) ∧ Hid (Below w0.heap.size w0 wr)) (fun i _ => l - (intOf i).toNat)
      case atStart => exact ⟨0, Nat.zero_le _, rfl, HB⟩
      case round =>
        clear HB hk hlt
        obtain ⟨i, hi, rfl, HB⟩ := hrel
        have bc0 := (HBx.out.below HB.out).c0
        by_cases hil : i < l
        · have hil' : i < ls.length := by rw [HSl.out]; exact hil
          have e1 : ls[i]? = some (ls[i]'hil') := List.getElem?_eq_getElem _
          have hsz := HSe.out _ (List.getElem_mem hil')
          obtain ⟨g, o, hp, hg, HC⟩ : ∃ g o, sp = some ⟨g, o, none⟩ ∧ g < w0.heap.size ∧ Hid (∀ W, Below w0.heap.size w0 W → W.cell? ⟨g, o + i, none⟩ = some (.string (ls[i]'hil'))) := by
            rcases HS.out with h | ⟨g, o, e, hg, hc⟩
            · rw [h] at hil'; simp at hil'
            · exact ⟨g, o, e, hg, fun W hW => by rw [hW.cell (p := ⟨g, o + i, none⟩) hg]; exact hc i _ e1⟩
          subst hp
          clear e1
          generalize ls[i]'hil' = s at *
          have hc1 := HC.out _ HB.out
          have l1 : (i : Int) < (l : Int) := by omega
          have l2 : (0 : Int) ≤ (i : Int) := by omega
          have HWh := hide (whole_any wr s (by omega))
          obtain ⟨A, E, hAE⟩ : ∃ A E, wholeR (nums s) = (A, E) := ⟨_, _, rfl⟩
          have HR := hide (whole_range (nums s))
          have HEr := hide (whole_err (nums s))
          have HBk := hide (whole_back (nums s))
          rw [hAE] at HWh HR HEr HBk
          simp only at HWh HR HEr
          go_wp2_with fail
          refine HWh.out.mono ?_
          rintro e w3 ⟨rfl, b3⟩
          have HB3 : Hid (Below w0.heap.size w0 w3) := HB.out.trans (b3.mono HB.out.size)
          have bc3 := (HBx.out.below HB3.out).c0
          have hc3 := HC.out _ HB3.out
          clear b3 HWh HB hc1 bc0 hAE
          by_cases hE : E = 0
          · subst hE
            have hds : str (dz A) = s := by rw [HBk.out A rfl]; exact str_nums s
            have HDq : Hid (∀ d os, Calls Tryd.prog 21 #[.int .i64 A] (grow (redrawn w3 d) os) fun e w'' => e = .returned (.string s) ∧ ∃ p : Regrown, w'' = grow (redrawn w3 p.d) p.os) := fun d os => Calls.regrown_of (by
              have := dig_any (grow (redrawn w3 d) os) (HT.out.below (HB3.out.trans ((below_regrown w3 d os).mono HB3.out.size))) A (by have := HR.out; omega) (by have := HR.out; omega)
              rw [hds] at this
              exact this)
            have HNq : Hid (∀ z d os, Calls Tryd.prog 10 #[.int .i64 z] (grow (redrawn w3 d) os) fun e w'' => e = .returned (.int .i64 z) ∧ ∃ p : Regrown, w'' = grow (redrawn w3 p.d) p.os) := fun z d os => Calls.regrown_of ((num_any _ z).mono fun e w'' ⟨h1, h2⟩ => ⟨h1, by rw [h2]; exact Below.refl _ _⟩)
            have kc := cell_regrown hc3
            have kb := cell_regrown bc3
            have zss := str_self2 s
            go_wp2
            refine wp_region_quiet_below (by kernel_rfl) (by kernel_rfl) ?_
            repeat (go_big_quiet_step (first | (go_at_call 21; exact HDq.out _ _) | (go_at_call 10; exact HNq.out _ _ _)))
            refine wpQuiet_nil ?_
            intro _ hw'
            obtain ⟨⟨dq, osq⟩, hw''⟩ := hw'
            subst hw''
            have HB4 : Hid (Below w0.heap.size w0 (grow (redrawn w3 dq) osq)) := HB3.out.trans ((below_regrown w3 dq osq).mono HB3.out.size)
            clear kc kb
            go_wp2
            go_roundw
            case rel => exact ⟨i + 1, by omega, by go_num, HB4⟩
            case measure => simp [intOf]; omega
          · have zE : ((E : Int) == 0) = false := by simp; omega
            have zE2 : ((E : Int) != 0) = true := by simp; omega
            obtain ⟨hA, hE2⟩ := HEr.out hE
            subst hA
            have HNq : Hid (∀ z d os, Calls Tryd.prog 10 #[.int .i64 z] (grow (redrawn w3 d) os) fun e w'' => e = .returned (.int .i64 z) ∧ ∃ p : Regrown, w'' = grow (redrawn w3 p.d) p.os) := fun z d os => Calls.regrown_of ((num_any _ z).mono fun e w'' ⟨h1, h2⟩ => ⟨h1, by rw [h2]; exact Below.refl _ _⟩)
            clear hE
            rcases hE2 with rfl | rfl
            · go_wp2
              refine wp_region_quiet_below (by kernel_rfl) (by kernel_rfl) ?_
              repeat (go_big_quiet_step (first | (go_at_call 10; exact HNq.out _ _ _)))
              refine wpQuiet_nil ?_
              intro _ hw'
              obtain ⟨⟨dq, osq⟩, hw''⟩ := hw'
              subst hw''
              have HB4 : Hid (Below w0.heap.size w0 (grow (redrawn w3 dq) osq)) := HB3.out.trans ((below_regrown w3 dq osq).mono HB3.out.size)
              go_wp2
              go_roundw
              case rel => exact ⟨i + 1, by omega, by go_num, HB4⟩
              case measure => simp [intOf]; omega
            · go_wp2
              refine wp_region_quiet_below (by kernel_rfl) (by kernel_rfl) ?_
              repeat (go_big_quiet_step (first | (go_at_call 10; exact HNq.out _ _ _)))
              refine wpQuiet_nil ?_
              intro _ hw'
              obtain ⟨⟨dq, osq⟩, hw''⟩ := hw'
              subst hw''
              have HB4 : Hid (Below w0.heap.size w0 (grow (redrawn w3 dq) osq)) := HB3.out.trans ((below_regrown w3 dq osq).mono HB3.out.size)
              go_wp2
              go_roundw
              case rel => exact ⟨i + 1, by omega, by go_num, HB4⟩
              case measure => simp [intOf]; omega
        · have l1 : decide ((i : Int) < (l : Int)) = false := decide_eq_false (by omega)
          have HBe := hide (begun_any wr (HT.out.below HB.out))
          have HBw : Hid (Below w.heap.size w wr) := HB0.out.trans (HB.out.mono HB0.out.size)
          go_wp2_with fail
          refine HBe.out.mono ?_
          rintro e w2 ⟨rfl, b2⟩
          have HB2 : Hid (Below w.heap.size w w2) := HBw.out.trans (b2.mono HBw.out.size)
          clear b2 HBe HB HBw
          go_wp2
          go_ret
          exact ⟨rfl, HB2.out⟩

end Go.Proofs.YtolegbngjhfdlaaDoor
