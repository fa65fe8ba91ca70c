import Derived.Test.YtolegbngjhfdlaaDoorRefB
import Derived.Test.YtolegbngjhfdlaaDoorRefW
import Derived.Test.YtolegbngjhfdlaaDoorRefM
import Derived.Test.YtolegbngjhfdlaaDoorBegun2
import Derived.Test.YtolegbngjhfdlaaDoorSums
import Derived.BigQuiet
import Derived.Lib.QuietBelow
namespace Go.Proofs.YtolegbngjhfdlaaDoor
open Go.RowKit Go.Sort

theorem dig_any2 (w : World) (hT : Tabs w) (n : Int) (h0 : -9223372036854775808 ≤ n) (h1 : n ≤ 9223372036854775807) :
    Calls Tryd.prog 21 #[.int .i64 n] w fun e w' => e = .returned (.string (str (dz n))) ∧ Below w.heap.size w w' :=
  (digits_any w hT n h0 h1).mono fun e w' ⟨he, hb⟩ => ⟨by rw [he]; rw [str_of (t := ⟨(Lib.itoa n).toArray⟩) (nums_mk' _)]; rfl, hb⟩
theorem mny_any2 (w : World) (hT : Tabs w) (n : Int) (h0 : -9223372036854775808 ≤ n) (h1 : n ≤ 9223372036854775807) :
    Calls Tryd.prog 19 #[.int .i64 n] w fun e w' => e = .returned (.string (str (mny n))) ∧ Below w.heap.size w w' :=
  (money_any w hT n h0 h1).mono fun e w' ⟨⟨t, he, ht⟩, hb⟩ => ⟨by rw [he, str_of ht], hb⟩
theorem box_c0 (w : World) (v0 v1 : Value) (t : TypeId) : (w.alloc (.cells #[v0, v1] t)).cell? ⟨w.heap.size, 0, none⟩ = some v0 := by
  have h := World.alloc_heap_new w (.cells #[v0, v1] t)
  unfold World.cell?; simp only [h]; rfl
theorem box_c1 (w : World) (v0 v1 : Value) (t : TypeId) : (w.alloc (.cells #[v0, v1] t)).cell? ⟨w.heap.size, 1, none⟩ = some v1 := by
  have h := World.alloc_heap_new w (.cells #[v0, v1] t)
  unfold World.cell?; simp only [h]; rfl
theorem str_self4 (a : ByteArray) : (a.toList == a.toList) = true := (str_eq a a).2 rfl

set_option maxRecDepth 100000 in
set_option maxHeartbeats 4000000 in
theorem amounts_all (w : World) (hT : Tabs w) (sp : Option Addr) (l c : Nat) (ls : List ByteArray) (np : Option Addr) (m d : Nat) (zs : List Int) (hs : InS w sp l c ls) (hn : InN w np m d zs) :
    Calls Tryd.prog 4 #[.agg #[.slice sp l c, .slice np m d]] w fun e w' => e = .returned (.bool true) ∧ Below w.heap.size w w' := by
  have hB0 : Below w.heap.size w (w.alloc (.cells #[.slice sp l c, .slice np m d] 32)) := (Below.refl _ w).alloc (Nat.le_refl _) _
  have b0 := box_c0 w (.slice sp l c) (.slice np m d) 32
  have b1 := box_c1 w (.slice sp l c) (.slice np m d) 32
  have HT := hide hT
  have HN := hide hn.lie
  have HS := hide hs.lie
  have HNe := hide hn.each
  have HNl := hide hn.len
  have HSe := hide hs.each
  have HSl := hide hs.len
  have hm : m ≤ 140737488351232 := Nat.le_trans hn.cap hn.most
  have hl : l ≤ 140737488351232 := Nat.le_trans hs.cap hs.most
  have HB0 := hide hB0
  clear hT hs hn hB0
  go_enter Tryd.func4, Tryd.ntmps4
  go_wp2
  go_quiet (fail)
  have HB1 : Hid (Below w.heap.size w ((w.alloc (.cells #[.slice sp l c, .slice np m d] 32)).drewN nq)) := below_drewNv HB0.out nq
  clear b0 b1 HB0
  generalize (w.alloc (.cells #[.slice sp l c, .slice np m d] 32)).drewN nq = w0 at *
  have HBe := hide (begun_any w0 (HT.out.below HB1.out))
  go_wp2_with fail
  refine HBe.out.mono ?_
  rintro e w1 ⟨rfl, b1⟩
  have HB2 : Hid (Below w.heap.size w w1) := HB1.out.trans (b1.mono HB1.out.size)
  clear b1 HBe HB1
  go_wp2
  go_loopw [5] (fun i wr => ∃ (k : Nat), k ≤ l ∧ i = .int .i64 (k : Int) ∧ Hid (Below w.heap.size w wr)) (fun i _ => l - (intOf i).toNat)
  case atStart => exact ⟨0, Nat.zero_le _, rfl, HB2⟩
  case round =>
    clear HB2
    obtain ⟨k, hk, rfl, HB⟩ := hrel
    by_cases hlt : k < l
    · have hlt' : k < ls.length := by rw [HSl.out]; exact hlt
      have e1 : ls[k]? = some (ls[k]'hlt') := List.getElem?_eq_getElem _
      have hsz := HSe.out _ (List.getElem_mem hlt')
      obtain ⟨g, o, hp, hg, HC⟩ : ∃ g o, sp = some ⟨g, o, none⟩ ∧ g < w.heap.size ∧ Hid (∀ W, Below w.heap.size w W → W.cell? ⟨g, o + k, none⟩ = some (.string (ls[k]'hlt'))) := by
        rcases HS.out with h | ⟨g, o, e, hg, hc⟩
        · rw [h] at hlt'; simp at hlt'
        · exact ⟨g, o, e, hg, fun W hW => by rw [hW.cell (p := ⟨g, o + k, none⟩) hg]; exact hc k _ e1⟩
      subst hp
      clear e1
      generalize ls[k]'hlt' = s at *
      have hsz2 : s.size ≤ 140737488355328 := by omega
      have HA1 := hide (amt_any wr s hsz2)
      have HA2 := hide (fun W => ramt_any W s hsz2)
      have HW1 := hide (fun W => whole_any W s hsz2)
      have HW2 := hide (fun W => rwhole_any W s hsz2)
      obtain ⟨V, E, hVE⟩ : ∃ V E, amtL (nums s) = (V, E) := ⟨_, _, rfl⟩
      obtain ⟨V2, E2, hVE2⟩ : ∃ V E, wholeR (nums s) = (V, E) := ⟨_, _, rfl⟩
      rw [hVE] at HA1 HA2
      rw [hVE2] at HW1 HW2
      simp only at HA1 HA2 HW1 HW2
      clear hVE hVE2
      have zv : ((V : Int) != (V : Int)) = false := by simp
      have ze : ((E : Int) != (E : Int)) = false := by simp
      have zv2 : (V2 != V2) = false := by simp
      have ze2 : ((E2 : Int) != (E2 : Int)) = false := by simp
      have l1 : (k : Int) < (l : Int) := by omega
      have l2 : (0 : Int) ≤ (k : Int) := by omega
      have c1 := HC.out _ HB.out
      go_wp2_with fail
      refine HA1.out.mono ?_
      rintro e w2 ⟨rfl, b2⟩
      have HB3 : Hid (Below w.heap.size w w2) := HB.out.trans (b2.mono HB.out.size)
      have c2 := HC.out _ HB3.out
      clear b2 HA1 HB c1
      go_wp2_with fail
      refine (HA2.out w2).mono ?_
      rintro e w3 ⟨rfl, b3⟩
      have HB4 : Hid (Below w.heap.size w w3) := HB3.out.trans (b3.mono HB3.out.size)
      have c3 := HC.out _ HB4.out
      clear b3 HA2 HB3 c2
      go_wp2_with (first | (go_at_call 10; refine (num_any _ _).mono ?_; rintro e w9 ⟨rfl, h9⟩; obtain rfl := h9.symm; clear h9))
      refine (HW1.out _).mono ?_
      rintro e w4 ⟨rfl, b4⟩
      have HB5 : Hid (Below w.heap.size w w4) := HB4.out.trans (b4.mono HB4.out.size)
      have c4 := HC.out _ HB5.out
      clear b4 HW1 HB4 c3
      go_wp2_with fail
      refine (HW2.out _).mono ?_
      rintro e w5 ⟨rfl, h5⟩
      obtain rfl := h5.symm
      clear h5 HW2
      go_wp2_with (first | (go_at_call 10; refine (num_any _ _).mono ?_; rintro e w9 ⟨rfl, h9⟩; obtain rfl := h9.symm; clear h9))
      go_roundw
      case rel => exact ⟨k + 1, by omega, by go_num, HB5⟩
      case measure => simp [intOf]; omega
    · have l1 : decide ((k : Int) < (l : Int)) = false := decide_eq_false (by omega)
      go_wp2
      clear l1
      go_loopw [14] (fun i wr => ∃ (k : Nat), k ≤ m ∧ i = .int .i64 (k : Int) ∧ Hid (Below w.heap.size w wr)) (fun i _ => m - (intOf i).toNat)
      case atStart => exact ⟨0, Nat.zero_le _, rfl, HB⟩
      case round =>
        clear HB hk hlt
        obtain ⟨i, hi, rfl, HB⟩ := hrel
        by_cases hil : i < m
        · have hil' : i < zs.length := by rw [HNl.out]; exact hil
          have e1 : zs[i]? = some (zs[i]'hil') := List.getElem?_eq_getElem _
          obtain ⟨hz1, hz2⟩ := HNe.out _ (List.getElem_mem hil')
          obtain ⟨g, o, hp, hc1⟩ : ∃ g o, np = some ⟨g, o, none⟩ ∧ wr.cell? ⟨g, o + i, none⟩ = some (.int .i64 (zs[i]'hil')) := by
            rcases HN.out.below HB.out (Nat.le_refl _) with h | ⟨g, o, e, _, hc⟩
            · rw [h] at hil'; simp at hil'
            · exact ⟨g, o, e, hc i _ e1⟩
          subst hp
          clear e1
          generalize zs[i]'hil' = z at *
          have HTq : Hid (∀ d os, Tabs (grow (redrawn wr d) os)) := fun d os => HT.out.below (HB.out.trans ((below_regrown wr d os).mono HB.out.size))
          have H1 : Hid (∀ d os, Calls Tryd.prog 19 #[.int .i64 z] (grow (redrawn wr d) os) fun e w'' => e = .returned (.string (str (mny z))) ∧ ∃ p : Regrown, w'' = grow (redrawn wr p.d) p.os) := fun d os => Calls.regrown_of (mny_any2 _ (HTq.out d os) z hz1 hz2)
          have H2 : Hid (∀ d os, Calls Tryd.prog 20 #[.int .i64 z] (grow (redrawn wr d) os) fun e w'' => e = .returned (.string (str (mny z))) ∧ ∃ p : Regrown, w'' = grow (redrawn wr p.d) p.os) := fun d os => Calls.regrown_of (rmoney_any _ z hz1 hz2)
          have H3 : Hid (∀ d os, Calls Tryd.prog 21 #[.int .i64 z] (grow (redrawn wr d) os) fun e w'' => e = .returned (.string (str (dz z))) ∧ ∃ p : Regrown, w'' = grow (redrawn wr p.d) p.os) := fun d os => Calls.regrown_of (dig_any2 _ (HTq.out d os) z hz1 hz2)
          have H4 : Hid (∀ d os, Calls Tryd.prog 22 #[.int .i64 z] (grow (redrawn wr d) os) fun e w'' => e = .returned (.string (str (dz z))) ∧ ∃ p : Regrown, w'' = grow (redrawn wr p.d) p.os) := fun d os => Calls.regrown_of (rdigits_any _ z hz1 hz2)
          have kc := cell_regrown hc1
          have l1 : (i : Int) < (m : Int) := by omega
          have l2 : (0 : Int) ≤ (i : Int) := by omega
          generalize str (mny z) = F at *
          generalize str (dz z) = G at *
          have zFF := str_self4 F
          have zGG := str_self4 G
          go_wp2
          refine wp_region_quiet_below (by kernel_rfl) (by kernel_rfl) ?_
          repeat (go_big_quiet_step (first | (go_at_call 19; exact H1.out _ _) | (go_at_call 20; exact H2.out _ _) | (go_at_call 21; exact H3.out _ _) | (go_at_call 22; exact H4.out _ _)))
          refine wpQuiet_nil ?_
          intro _ hw'
          obtain ⟨⟨dq, osq⟩, hw''⟩ := hw'
          subst hw''
          have HB4 : Hid (Below w.heap.size w (grow (redrawn wr dq) osq)) := HB.out.trans ((below_regrown wr dq osq).mono HB.out.size)
          clear kc hc1
          go_wp2
          go_roundw
          case rel => exact ⟨i + 1, by omega, by go_num, HB4⟩
          case measure => simp [intOf]; omega
        · have l1 : decide ((i : Int) < (m : Int)) = false := decide_eq_false (by omega)
          have HBe := hide (begun_any wr (HT.out.below HB.out))
          go_wp2_with fail
          refine HBe.out.mono ?_
          rintro e w2 ⟨rfl, b2⟩
          have HB2 : Hid (Below w.heap.size w w2) := HB.out.trans (b2.mono HB.out.size)
          clear b2 HBe HB
          go_wp2
          go_ret
          exact ⟨rfl, HB2.out⟩

end Go.Proofs.YtolegbngjhfdlaaDoor
