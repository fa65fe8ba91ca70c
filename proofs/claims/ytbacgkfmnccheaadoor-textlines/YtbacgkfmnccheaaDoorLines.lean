import Derived.Test.YtbacgkfmnccheaaDoorRefWd
import Derived.Test.YtbacgkfmnccheaaDoorLn
import Derived.Test.YtbacgkfmnccheaaDoorEqS
import Derived.Test.YtbacgkfmnccheaaDoorBegun2
import Derived.BigQuiet
import Derived.Lib.QuietBelow
import Derived.Deep.RegionWith
namespace Go.Proofs.YtbacgkfmnccheaaDoor
open Go.RowKit
open Go.Sort (grow)

theorem Tryd.infoST : (Tryd.prog.info? 9).map (fun i => (i.zero, i.size, i.bytes)) = some (some (.string ⟨#[]⟩), 1, 16) := by kernel_rfl
theorem fM_one (i n k : Nat) : (fM i n k).oneCell' = true := rfl
theorem fM_lt {i n k : Nat} (h : k < n) : fM i n k = .string (mkB i 0) := by simp [fM, h]
theorem fM_ge {i n k : Nat} (h : n ≤ k) : fM i n k = .string (mkB i 1) := by simp [fM, show ¬ k < n by omega]
theorem Tryd.infoLS : (Tryd.prog.info? 22).map (fun i => (i.zero, i.size, i.bytes)) = some (some (.slice none 0 0), 1, 24) := by kernel_rfl
theorem str_self9 (a : ByteArray) : (a.toList == a.toList) = true := (str_eq a a).2 rfl
def wE (s : ByteArray) : Int := match wordsR s with | none => 23 | some _ => 0
def wL (s : ByteArray) : List (List Nat) := (wordsR s).getD []
theorem wL_len (s : ByteArray) : (wL s).length ≤ 32 := by
  unfold wL wordsR
  split
  · rename_i h; exact h.2.2.1
  · simp
theorem map_nums_inj : ∀ (X Y : List ByteArray), X.map nums = Y.map nums → X = Y
  | [], [], _ => rfl
  | [], _ :: _, h => by simp at h
  | _ :: _, [], h => by simp at h
  | x :: X, y :: Y, h => by
    simp only [List.map_cons, List.cons.injEq] at h
    rw [nums_inj h.1, map_nums_inj X Y h.2]
theorem told_res {w w' : World} {s : ByteArray} {e : Ending} (h : Told w s e w') : ∃ (p : Option Addr) (c : Nat) (X : List ByteArray), e = .returned (.tuple #[.slice p X.length c, .int .i64 (wE s)]) ∧ X.map nums = wL s ∧ w'.ownsRow w.heap.size 9 1 (.slice p X.length c) X.length (X.map Value.string) := by
  rcases h with ⟨h1, h2⟩ | ⟨v, ls, h1, h2, h3⟩
  · exact ⟨none, 0, [], by rw [h2, wE, h1]; rfl, by rw [wL, h1]; rfl, ⟨rfl, Or.inl ⟨rfl, rfl⟩⟩⟩
  · obtain ⟨p, c, rfl, _, _⟩ := Strs.of h3
    exact ⟨p, c, ls, by rw [h2, wE, h1], by rw [wL, h1]; rfl, h3⟩
theorem eqs_same (w : World) (p q : Option Addr) (c d : Nat) (X : List ByteArray) (ha : Strs w p X) (hb : Strs w q X) (hl : X.length ≤ 32) :
    Calls Tryd.prog 8 #[.slice p X.length c, .slice q X.length d] w fun e w' => e = .returned (.bool true) ∧ Below w.heap.size w w' :=
  (eqs_any w p q c d X X ha hb (by omega)).mono fun e w' ⟨⟨R, h1, h2⟩, k, h3⟩ => ⟨by rw [h2, h1.2 rfl], by rw [h3]; exact ⟨rfl, rfl, rfl, Nat.le_refl _, fun _ _ => rfl⟩⟩
theorem below_dr (w : World) (n : Nat) : Below w.heap.size w (w.drewN n) := ⟨rfl, rfl, rfl, Nat.le_refl _, fun _ _ => rfl⟩
theorem D_0 : (fun j : Nat => if j < 0 then 32 else 0) = fun _ => 0 := by funext j; simp
theorem map_get {es : List EL} {i : Nat} {e : EL} (h : es[i]? = some e) : (es.map EL.val)[i]? = some (.slice e.p e.n e.c) := by rw [List.getElem?_map, h]; rfl

set_option maxRecDepth 100000 in
set_option maxHeartbeats 8000000 in
theorem lines_all (w : World) (hT : Tabs w) (sp : Option Addr) (l c : Nat) (ls : List ByteArray) (h1 : ls.length = l) (hl : l ≤ 140737488351232) (hS : Strs w sp ls) (hz : ∀ s ∈ ls, s.size ≤ 140737488351232) :
    Calls Tryd.prog 3 #[.slice sp l c] w fun e w' => e = .returned (.bool true) ∧ Below w.heap.size w w' := by
  have HT := hide hT
  have HS := hide hS
  have HZ := hide hz
  have HL := hide h1
  have HBe := hide (begun_any w hT)
  have HNm := hide num_any
  clear hT hS hz h1
  go_enter Tryd.func3, Tryd.ntmps3
  go_wp2_with fail
  refine HBe.out.mono ?_
  rintro e w0 ⟨rfl, b1⟩
  have HB1 := hide b1
  clear b1 HBe
  go_wp2
  go_loopw [3, 6] (fun vk vi wr => ∃ (k : Nat) (tag : Nat → Nat) (pk : Option Addr) (ck : Nat) (es : List EL), k ≤ l ∧ es.length ≤ 2001 ∧ vi = .int .i64 (k : Int) ∧ vk = .slice pk es.length ck ∧ Hid (P1 w0.heap.size w0 wr tag pk ck es (fun _ => 0))) (fun _ i _ => l - (intOf i).toNat)
  case atStart => exact ⟨0, _, none, 0, [], Nat.zero_le _, by simp, rfl, rfl, P1.start w0⟩
  case round =>
    obtain ⟨k, tag, pk, ck, es, hk, hes, rfl, rfl, HP⟩ := hrel
    have HB : Hid (Below w.heap.size w wr) := HB1.out.trans (HP.out.below.mono HB1.out.size)
    by_cases hlt : k < l
    · have hlt' : k < ls.length := by rw [HL.out]; exact hlt
      have e1 : ls[k]? = some (ls[k]'hlt') := List.getElem?_eq_getElem _
      obtain ⟨g, o, hp, hc1⟩ : ∃ g o, sp = some ⟨g, o, none⟩ ∧ wr.cell? ⟨g, o + k, none⟩ = some (.string (ls[k]'hlt')) := by
        rcases HS.out.below HB.out (Nat.le_refl _) with h | ⟨g, o, e, _, hc⟩
        · rw [h] at hlt'; simp at hlt'
        · exact ⟨g, o, e, hc k _ e1⟩
      subst hp
      have hsz := HZ.out _ (List.getElem_mem hlt')
      have HCl : Hid (∀ w', Below wr.heap.size wr w' → w'.cell? ⟨g, o + k, none⟩ = some (.string (ls[k]'hlt'))) := fun w' h' => by rw [h'.cell (p := ⟨g, o + k, none⟩) (block_lt_of_cell hc1)]; exact hc1
      clear e1
      generalize ls[k]'hlt' = s at *
      have hsz2 : s.size ≤ 140737488355328 := by omega
      have l1 : (k : Int) < (l : Int) := by omega
      have l2 : (0 : Int) ≤ (k : Int) := by omega
      have HTr := hide (HT.out.below HB.out)
      have HW1 := hide (words_any wr HTr.out s hsz2)
      go_wp2_with fail
      refine HW1.out.mono ?_
      rintro e w1 ⟨ht1, hb1⟩
      obtain ⟨q1, d1, X, rfl, hX, ho1⟩ := told_res ht1
      have HX := hide hX
      have HBa := hide hb1
      have HR1 := hide (MR.fresh (B := w0.heap.size) (s := 3 + es.length) (tag := tag) ho1 HP.out.le)
      have HP1 := hide (HP.out.grow hb1 (3 + es.length))
      clear ht1 hX ho1 hb1 HW1 hc1
      have hc1 := HCl.out w1 HBa.out
      have HTr1 := hide (HTr.out.below (HBa.out.mono (Nat.le_refl _)))
      have HW2 := hide (words_any w1 HTr1.out s hsz2)
      go_wp2_with fail
      refine HW2.out.mono ?_
      rintro e w2 ⟨ht2, hb2⟩
      obtain ⟨q2, d2, X2, rfl, hX2, ho2⟩ := told_res ht2
      obtain rfl : X2 = X := map_nums_inj _ _ (hX2.trans HX.out.symm)
      have HBb := hide (HBa.out.trans (hb2.mono HBa.out.size))
      have HR2 := hide (MR.fresh (B := w0.heap.size) (s := 3 + (es.length + 1)) (tag := fun b => if b < wr.heap.size then tag b else 3 + es.length) ho2 HP1.out.le)
      have HR1b := hide (HR1.out.step (Step.of_below (t := 0) hb2 HP1.out.le (3 + (es.length + 1))) (by omega))
      have HP2 := hide (HP1.out.grow hb2 (3 + (es.length + 1)))
      clear ht2 hX2 ho2 hc1 HR1 HP1 HW2
      have hc1 := HCl.out w2 HBb.out
      have HW3 := hide (rwords_any w2 s hsz2)
      clear hb2
      go_wp2_with fail
      refine HW3.out.mono ?_
      rintro e w3 ⟨ht3, hb3⟩
      obtain ⟨q3, d3, X3, rfl, hX3, ho3⟩ := told_res ht3
      obtain rfl : X3 = X2 := map_nums_inj _ _ (hX3.trans HX.out.symm)
      have hXl : X3.length ≤ 32 := by
        have h1 := wL_len s
        rw [← HX.out, List.length_map] at h1
        exact h1
      have HR1c := hide (HR1b.out.below hb3)
      have HR2c := hide (HR2.out.below hb3)
      have HP3 := hide (HP2.out.up hb3)
      have HS3 : Hid (Strs w3 q3 X3) := by
        obtain ⟨p9, c9, e9, h9, _⟩ := Strs.of ho3
        cases e9
        exact h9
      have HS1 : Hid (Strs w3 q1 X3) := by
        obtain ⟨p9, c9, e9, h9, _⟩ := Strs.of HR1c.out.row
        cases e9
        exact h9
      have HS2 : Hid (Strs w3 q2 X3) := by
        obtain ⟨p9, c9, e9, h9, _⟩ := Strs.of HR2c.out.row
        cases e9
        exact h9
      clear ht3 hX3 ho3 hb3 hc1 HR1b HR2 HP2 HW3 HTr HTr1 HBa HBb HX HCl HP HB
      have HEa : Hid (∀ w', Below w3.heap.size w3 w' → Calls Tryd.prog 8 #[.slice q1 X3.length d1, .slice q3 X3.length d3] w' fun e w'' => e = .returned (.bool true) ∧ Below w'.heap.size w' w'') := fun w' h' => eqs_same w' q1 q3 d1 d3 X3 (HS1.out.below h' (Nat.le_refl _)) (HS3.out.below h' (Nat.le_refl _)) hXl
      have HEb : Hid (∀ w', Below w3.heap.size w3 w' → Calls Tryd.prog 8 #[.slice q2 X3.length d2, .slice q3 X3.length d3] w' fun e w'' => e = .returned (.bool true) ∧ Below w'.heap.size w' w'') := fun w' h' => eqs_same w' q2 q3 d2 d3 X3 (HS2.out.below h' (Nat.le_refl _)) (HS3.out.below h' (Nat.le_refl _)) hXl
      generalize wE s = E at *
      have zE : (E != E) = false := by simp
      have HB3 : Hid (Below w3.heap.size w3 w3) := Below.refl _ _
      by_cases h2000 : es.length < 2000
      · have m1 : decide ((es.length : Int) < 2000) = true := decide_eq_true (by omega)
        have m2 : decide (es.length < 2000) = true := decide_eq_true h2000
        go_wp2_with (first
          | (go_at_call 7; refine (HNm.out _ _).mono ?_; rintro e w9 ⟨rfl, h⟩; obtain rfl := h.symm; clear h)
          | (go_at_call 8; with_reducible refine (HEa.out _ HB3.out).mono ?_; rintro e w9 ⟨rfl, g9⟩; replace HB3 := hide (HB3.out.trans (g9.mono HB3.out.size)); replace HP3 := hide (HP3.out.up g9); replace HR1c := hide (HR1c.out.below g9); replace HR2c := hide (HR2c.out.below g9); clear g9)
          | (go_at_call 8; with_reducible refine (HEb.out _ HB3.out).mono ?_; rintro e w9 ⟨rfl, g9⟩; replace HB3 := hide (HB3.out.trans (g9.mono HB3.out.size)); replace HP3 := hide (HP3.out.up g9); replace HR1c := hide (HR1c.out.below g9); replace HR2c := hide (HR2c.out.below g9); clear g9)
          | (at_builtin; refine app_row 24 22 (.slice none 0 0) 24 [.slice q1 X3.length d1, .slice q2 X3.length d2] Tryd.underlying24 Tryd.infoLS rfl (by simp [Value.oneCell']) (by omega) (by simp) (by simp) rfl (.tmp 78) (.tmp 81) rfl w0.heap.size _ 0 es.length pk ck (es.map EL.val) rfl HP3.out.rowK rfl (by omega) HP3.out.le ?_; intro ga da wa taga oa stA))
        have HP4 := hide (HP3.out.add rfl (e1 := ⟨q1, X3.length, d1⟩) (e2 := ⟨q2, X3.length, d2⟩) hXl hXl HR1c.out HR2c.out oa stA)
        clear oa stA HP3 HR1c HR2c HEa HEb HB3 HS1 HS2 HS3
        go_roundw
        case rel => exact ⟨k + 1, taga, _, _, es ++ [⟨q1, X3.length, d1⟩, ⟨q2, X3.length, d2⟩], by omega, by simp; omega, by go_num, by simp, HP4⟩
        case measure => simp [intOf]; omega
      · have m1 : decide ((es.length : Int) < 2000) = false := decide_eq_false (by omega)
        have m2 : decide (es.length < 2000) = false := decide_eq_false h2000
        go_wp2_with (first
          | (go_at_call 7; refine (HNm.out _ _).mono ?_; rintro e w9 ⟨rfl, h⟩; obtain rfl := h.symm; clear h)
          | (go_at_call 8; with_reducible refine (HEa.out _ HB3.out).mono ?_; rintro e w9 ⟨rfl, g9⟩; replace HB3 := hide (HB3.out.trans (g9.mono HB3.out.size)); replace HP3 := hide (HP3.out.up g9); clear g9)
          | (go_at_call 8; with_reducible refine (HEb.out _ HB3.out).mono ?_; rintro e w9 ⟨rfl, g9⟩; replace HB3 := hide (HB3.out.trans (g9.mono HB3.out.size)); replace HP3 := hide (HP3.out.up g9); clear g9))
        clear HR1c HR2c HEa HEb HB3 HS1 HS2 HS3
        go_roundw
        case rel => exact ⟨k + 1, _, _, _, es, by omega, by omega, by go_num, rfl, HP3⟩
        case measure => simp [intOf]; omega
    · have l1 : decide ((k : Int) < (l : Int)) = false := decide_eq_false (by omega)
      have l1b : decide (k < l) = false := decide_eq_false (by omega)
      have HP0 : Hid (P1 w0.heap.size w0 wr tag pk ck es (fun j => if j < 0 then 32 else 0)) := by show P1 _ _ _ _ _ _ _ _; rw [D_0]; exact HP.out
      clear HP HB
      go_wp2
      go_loopw [13] (fun vi wq => ∃ (i : Nat) (tg : Nat → Nat), i ≤ es.length ∧ vi = .int .i64 (i : Int) ∧ Hid (P1 w0.heap.size w0 wq tg pk ck es (fun j => if j < i then 32 else 0))) (fun i _ => es.length - (intOf i).toNat)
      case atStart => exact ⟨0, tag, by omega, rfl, HP0⟩
      case round =>
        clear HP0
        obtain ⟨i, tg, hi, rfl, HP⟩ := hrel
        by_cases hil : i < es.length
        · have he : es[i]? = some (es[i]'hil) := List.getElem?_eq_getElem hil
          generalize es[i]'hil = el at *
          have i1 : (i : Int) < (es.length : Int) := by omega
          have i2 : (0 : Int) ≤ (i : Int) := by omega
          have HE := hide he
          have hn32 : el.n ≤ 32 := (HP.out.each i el he).1
          clear he
          go_wp2
          go_loopw [14] (fun vk wq => ∃ (q : Nat) (t2 : Nat → Nat), q ≤ el.n ∧ vk = .int .i64 (q : Int) ∧ Hid (P1 w0.heap.size w0 wq t2 pk ck es (fun j => if j < i then 32 else if j = i then q else 0))) (fun k _ => el.n - (intOf k).toNat)
          case atStart => exact ⟨0, tg, by omega, rfl, HP.out.begin⟩
          case round =>
            clear HP
            obtain ⟨q, t2, hq, rfl, HP⟩ := hrel
            obtain ⟨gk, epk, ck1, _⟩ := HP.out.rowK.get (map_get HE.out)
            by_cases hqn : q < el.n
            · have q1 : (q : Int) < (el.n : Int) := by omega
              have q2 : (0 : Int) ≤ (q : Int) := by omega
              have HMk : Hid (∀ w, Calls Tryd.prog 9 #[.int .i64 (i : Int), .int .i64 0] w fun e w' => e = .returned (.string (mkB i 0)) ∧ Below w.heap.size w w') := fun w => mark_any w i 0
              obtain ⟨g, eg, _, _, _⟩ := HP.out.write HE.out hqn
              obtain ⟨ep, en, ec⟩ := el
              simp only at eg hqn q1 ck1 hn32 hq
              subst eg
              subst epk
              go_wp2
              replace HP := hide (HP.out.up (Below.drew (Below.refl _ _)))
              clear ck1
              obtain ⟨gk2, epk2, ck1, _⟩ := HP.out.rowK.get (map_get HE.out)
              cases epk2
              obtain ⟨g2, eg2, ⟨v2, cv2⟩, fv2, _⟩ := HP.out.write HE.out hqn
              cases eg2
              go_region_with (first
                | (go_at_call 9; refine (HMk.out _).mono ?_; rintro e w9 ⟨rfl, g9⟩; replace HP := hide (HP.out.up g9); clear g9 ck1 cv2 fv2; obtain ⟨gk2, epk2, ck1, _⟩ := HP.out.rowK.get (map_get HE.out); cases epk2; obtain ⟨g2, eg2, ⟨v2, cv2⟩, fv2, HPw⟩ := HP.out.write HE.out hqn; cases eg2; replace HPw := hide HPw))
              all_goals
                clear ck1 cv2 fv2 HP
                generalize World.setCell _ ⟨g, q, none⟩ (.string (mkB i 0)) = w10 at *
                go_wp2
                go_roundw
                case rel => exact ⟨q + 1, t2, by omega, by go_num, HPw⟩
                case measure => simp [intOf]; omega
            · have q1 : decide ((q : Int) < (el.n : Int)) = false := decide_eq_false (by omega)
              have q1b : decide (q < el.n) = false := decide_eq_false (by omega)
              have HPn := hide (HP.out.next HE.out (by omega))
              subst epk
              go_wp2
              go_roundw
              case rel => exact ⟨i + 1, t2, by omega, by go_num, HPn⟩
              case measure => simp [intOf]; omega
        · have i1 : decide ((i : Int) < (es.length : Int)) = false := decide_eq_false (by omega)
          have i1b : decide (i < es.length) = false := decide_eq_false (by omega)
          obtain rfl : i = es.length := by omega
          have HP3 := hide (P3.start HP.out)
          clear HP
          go_wp2
          go_loopw [4, 5, 15] (fun vf vm vi wq => ∃ (i : Nat) (tg : Nat → Nat) (pf pm : Option Addr) (cf cm : Nat) (fs ms : List EL), i ≤ es.length ∧ vi = .int .i64 (i : Int) ∧ vf = .slice pf fs.length cf ∧ vm = .slice pm ms.length cm ∧ Hid (fs.length = i ∧ ms.length = i) ∧ Hid (P3 w0.heap.size w0 wq tg pk ck es pf cf fs pm cm ms)) (fun _ _ i _ => es.length - (intOf i).toNat)
          case atStart => exact ⟨0, tg, none, none, 0, 0, [], [], by omega, rfl, rfl, rfl, ⟨rfl, rfl⟩, HP3⟩
          case round =>
            clear HP3
            obtain ⟨i, tg1, pf, pm, cf, cm, fs, ms, hi, rfl, rfl, rfl, HLn, HP⟩ := hrel
            by_cases hil : i < es.length
            · have he : es[i]? = some (es[i]'hil) := List.getElem?_eq_getElem hil
              generalize es[i]'hil = el at *
              have i1 : (i : Int) < (es.length : Int) := by omega
              have i2 : (0 : Int) ≤ (i : Int) := by omega
              have HE := hide he
              have hn32 : el.n ≤ 32 := (HP.out.kept i el he).1
              have HG0 := hide (HP.out.kept i el he).2
              obtain ⟨gk, epk, ck1, _⟩ := HP.out.rowK.get (map_get he)
              subst epk
              clear he
              have HMk : Hid (∀ w, Calls Tryd.prog 9 #[.int .i64 (i : Int), .int .i64 1] w fun e w' => e = .returned (.string (mkB i 1)) ∧ Below w.heap.size w w') := fun w => mark_any w i 1
              go_wp2
              clear ck1
              go_loopw [4, 16, 17] (fun vf vg vk wq => ∃ (t : Nat) (tg : Nat → Nat) (pf pg : Option Addr) (cf cg : Nat) (fs : List EL), t ≤ 70 ∧ vk = .int .i64 (t : Int) ∧ vf = .slice pf fs.length cf ∧ vg = .slice pg (el.n + t) cg ∧ Hid (fs.length = if t = 0 then i else i + 1) ∧ Hid (P3 w0.heap.size w0 wq tg (some ⟨gk, 0, none⟩) ck es pf cf fs pm cm ms) ∧ Hid (MR w0.heap.size wq tg (3 + i) 9 (.slice pg (el.n + t) cg) (el.n + t) (fr (fM i el.n) (el.n + t)))) (fun _ _ k _ => 70 - (intOf k).toNat)
              case atStart => exact ⟨0, tg1, pf, el.p, cf, el.c, fs, by omega, rfl, rfl, rfl, by simpa [Hid] using HLn.out.1, HP, HG0⟩
              case round =>
                clear HP HG0
                obtain ⟨t, tg2, pf2, pg, cf2, cg, fs2, ht, rfl, rfl, rfl, HFl, HP, HG⟩ := hrel
                by_cases ht70 : t < 70
                · have t1 : decide ((t : Int) < 70) = true := decide_eq_true (by omega)
                  have hfs : fs2.length ≤ 3000 := by have := HFl.out; split at this <;> omega
                  by_cases ht0 : t = 0
                  · subst ht0
                    have HF0 : Hid (fs2.length = i) := by have := HFl.out; simpa [Hid] using this
                    have HE0 : Hid (es[fs2.length]? = some el) := by show _ = _; rw [HF0.out]; exact HE.out
                    go_wp2_with (first
                      | (go_at_call 9; refine (HMk.out _).mono ?_; rintro e w9 ⟨rfl, g9⟩; replace HP := hide (HP.out.up g9); replace HG := hide (HG.out.below g9); clear g9)
                      | (at_builtin; first
                        | (refine app_fv 22 9 (.string ⟨#[]⟩) 16 (fM i el.n) Tryd.underlying22 Tryd.infoST rfl (fM_one i el.n) (by omega) rfl (.tmp 120) (.tmp 123) rfl w0.heap.size tg2 (3 + i) (el.n + 0) pg cg (.string (mkB i 1)) (fM_ge (by omega)) rfl HG.out rfl (by omega) HP.out.le ?_; intro ga da wa taga oa stA keA; have HP5 := hide (HP.out.appG HE.out stA keA); have HG5 := hide oa)
                        | (refine app_row 24 22 (.slice none 0 0) 24 [.slice (some ⟨ga, 0, none⟩) (el.n + 0 + 1) da] Tryd.underlying24 Tryd.infoLS rfl (by simp [Value.oneCell']) (by omega) (by simp) (by simp) rfl (.tmp 127) (.tmp 129) rfl w0.heap.size taga 1 fs2.length pf2 cf2 (fs2.map EL.val) rfl HP5.out.rowF rfl (by omega) HP5.out.le ?_; intro gb db wb tagb ob stB)))
                    have HP6 := hide (HP5.out.appF (f0 := ⟨some ⟨ga, 0, none⟩, el.n + 0 + 1, da⟩) HE0.out rfl (by rw [HF0.out]; exact HG5.out) ob stB)
                    have HG6 := hide (HG5.out.step stB (by omega))
                    clear ob stB HP5 HG5 HP HG oa stA keA
                    go_roundw
                    case rel => exact ⟨1, tagb, some ⟨gb, 0, none⟩, some ⟨ga, 0, none⟩, db, da, fs2 ++ [⟨some ⟨ga, 0, none⟩, el.n + 0 + 1, da⟩], by omega, by go_num, by simp, rfl, by simp [Hid, HF0.out], HP6, HG6⟩
                    case measure => simp [intOf]
                  · have t2 : ((t : Int) == 0) = false := by simp; omega
                    have t2b : (t == 0) = false := by simp; omega
                    go_wp2_with (first
                      | (go_at_call 9; refine (HMk.out _).mono ?_; rintro e w9 ⟨rfl, g9⟩; replace HP := hide (HP.out.up g9); replace HG := hide (HG.out.below g9); clear g9)
                      | (at_builtin; refine app_fv 22 9 (.string ⟨#[]⟩) 16 (fM i el.n) Tryd.underlying22 Tryd.infoST rfl (fM_one i el.n) (by omega) rfl (.tmp 120) (.tmp 123) rfl w0.heap.size tg2 (3 + i) (el.n + t) pg cg (.string (mkB i 1)) (fM_ge (by omega)) rfl HG.out rfl (by omega) HP.out.le ?_; intro ga da wa taga oa stA keA; have HP5 := hide (HP.out.appG HE.out stA keA); have HG5 := hide oa))
                    clear HP HG oa stA keA
                    go_roundw
                    case rel => exact ⟨t + 1, taga, pf2, some ⟨ga, 0, none⟩, cf2, da, fs2, by omega, by go_num, rfl, rfl, by have := HFl.out; simp [ht0] at this; simp [Hid, this], HP5, HG5⟩
                    case measure => simp [intOf]; omega
                · have t1 : decide ((t : Int) < 70) = false := decide_eq_false (by omega)
                  obtain rfl : t = 70 := by omega
                  have HEm : Hid (es[ms.length]? = some el) := by show _ = _; rw [HLn.out.2]; exact HE.out
                  have hms : ms.length ≤ 3000 := by have := HLn.out.2; omega
                  go_wp2_with (at_builtin; refine app_row 24 22 (.slice none 0 0) 24 [.slice pg (el.n + 70) cg] Tryd.underlying24 Tryd.infoLS rfl (by simp [Value.oneCell']) (by omega) (by simp) (by simp) rfl (.tmp 131) (.tmp 133) rfl w0.heap.size tg2 2 ms.length pm cm (ms.map EL.val) rfl HP.out.rowM rfl (by omega) HP.out.le ?_; intro gb db wb tagb ob stB)
                  have HP6 := hide (HP.out.appM (f0 := ⟨pg, el.n + 70, cg⟩) HEm.out rfl (by rw [HLn.out.2]; exact HG.out) ob stB)
                  clear ob stB HP HG
                  go_roundw
                  case rel => exact ⟨i + 1, tagb, pf2, some ⟨gb, 0, none⟩, cf2, db, fs2, ms ++ [⟨pg, el.n + 70, cg⟩], by omega, by go_num, rfl, by simp, ⟨by have := HFl.out; simpa using this, by simp [HLn.out.2]⟩, HP6⟩
                  case measure => simp [intOf]; omega
            · have i1 : decide ((i : Int) < (es.length : Int)) = false := decide_eq_false (by omega)
              have i1b : decide (i < es.length) = false := decide_eq_false (by omega)
              obtain rfl : i = es.length := by omega
              go_wp2
              go_loopw [18] (fun vi wq => ∃ i : Nat, i ≤ es.length ∧ vi = .int .i64 (i : Int) ∧ Hid (P3 w0.heap.size w0 wq tg1 pk ck es pf cf fs pm cm ms)) (fun i _ => es.length - (intOf i).toNat)
              case atStart => exact ⟨0, by omega, rfl, HP⟩
              case round =>
                clear HP
                obtain ⟨i, hi, rfl, HP⟩ := hrel
                by_cases hil : i < es.length
                · have he : es[i]? = some (es[i]'hil) := List.getElem?_eq_getElem hil
                  have hf : fs[i]? = some (fs[i]'(by rw [HLn.out.1]; exact hil)) := List.getElem?_eq_getElem _
                  have hm : ms[i]? = some (ms[i]'(by rw [HLn.out.2]; exact hil)) := List.getElem?_eq_getElem _
                  generalize es[i]'hil = el at *
                  generalize fs[i]'(by rw [HLn.out.1]; exact hil) = fl at *
                  generalize ms[i]'(by rw [HLn.out.2]; exact hil) = ml at *
                  obtain ⟨hfn, _⟩ := HP.out.first i fl el hf he
                  obtain ⟨hmn, _⟩ := HP.out.more i ml el hm he
                  have hn32 : el.n ≤ 32 := (HP.out.kept i el he).1
                  have HE := hide he
                  have HFe := hide hf
                  have HMe := hide hm
                  clear he hf hm
                  obtain ⟨ep, en, ec⟩ := el
                  obtain ⟨fp, fn, fc⟩ := fl
                  obtain ⟨mp, mn, mc⟩ := ml
                  simp only at hfn hmn hn32
                  subst hfn hmn
                  have i1 : (i : Int) < (es.length : Int) := by omega
                  have i2 : (0 : Int) ≤ (i : Int) := by omega
                  have i3 : (i : Int) < (fs.length : Int) := by rw [HLn.out.1]; omega
                  have i4 : (i : Int) < (ms.length : Int) := by rw [HLn.out.2]; omega
                  have HMk0 : Hid (∀ w, Calls Tryd.prog 9 #[.int .i64 (i : Int), .int .i64 0] w fun e w' => e = .returned (.string (mkB i 0)) ∧ Below w.heap.size w w') := fun w => mark_any w i 0
                  have HMk1 : Hid (∀ w, Calls Tryd.prog 9 #[.int .i64 (i : Int), .int .i64 1] w fun e w' => e = .returned (.string (mkB i 1)) ∧ Below w.heap.size w w') := fun w => mark_any w i 1
                  have zz0 := str_self9 (mkB i 0)
                  have zz1 := str_self9 (mkB i 1)
                  obtain ⟨gk, epk, ck1, _⟩ := HP.out.rowK.get (map_get HE.out)
                  obtain ⟨gf, epf, cf1, _⟩ := HP.out.rowF.get (map_get HFe.out)
                  obtain ⟨gm, epm, cm1, _⟩ := HP.out.rowM.get (map_get HMe.out)
                  obtain ⟨gl, efp, cl1, _⟩ := (HP.out.first i _ _ HFe.out HE.out).2.get (k := en) (v := .string (mkB i 1)) (by rw [fr_get _ (by simp only; omega), fM_ge (by simp)])
                  simp only at ck1 cf1 cm1 epk epf epm efp
                  subst epk epf epm efp
                  have n1 : (en : Int) < (en : Int) + 1 := by omega
                  have n2 : (0 : Int) ≤ (en : Int) := by omega
                  go_wp2
                  have r1 := cell_regrown cf1
                  have r2 := cell_regrown cl1
                  have HMq : Hid (∀ d os, Calls Tryd.prog 9 #[.int .i64 (i : Int), .int .i64 1] (grow (redrawn wr d) os) fun e w'' => e = .returned (.string (mkB i 1)) ∧ ∃ p : Regrown, w'' = grow (redrawn wr p.d) p.os) := fun d os => Calls.regrown_of (HMk1.out _)
                  obtain ⟨M0, HM0⟩ : ∃ M0, Hid (mkB i 0 = M0) := ⟨_, rfl⟩
                  obtain ⟨M1, HM1⟩ : ∃ M1, Hid (mkB i 1 = M1) := ⟨_, rfl⟩
                  rw [HM0.out] at HMk0 zz0
                  rw [HM1.out] at HMk1 zz1 HMq r2
                  refine wp_region_quiet_below (by kernel_rfl) (by kernel_rfl) ?_
                  repeat (go_big_quiet_step (first | (go_at_call 9; exact HMq.out _ _)))
                  refine wpQuiet_nil ?_
                  intro _ hw'
                  obtain ⟨⟨dq, osq⟩, hw''⟩ := hw'
                  subst hw''
                  replace HP := hide (HP.out.up (below_regrown wr dq osq))
                  clear r1 r2 ck1 cf1 cm1 cl1 HMq
                  generalize grow (redrawn wr dq) osq = w5 at *
                  go_wp2
                  go_loopw [20] (fun vk wq => ∃ q : Nat, q ≤ en + 70 ∧ vk = .int .i64 (q : Int) ∧ Hid (P3 w0.heap.size w0 wq tg1 (some ⟨gk, 0, none⟩) ck es (some ⟨gf, 0, none⟩) cf fs (some ⟨gm, 0, none⟩) cm ms)) (fun k _ => en + 70 - (intOf k).toNat)
                  case atStart => exact ⟨0, by omega, rfl, HP⟩
                  case round =>
                    clear HP
                    obtain ⟨q, hq, rfl, HP⟩ := hrel
                    obtain ⟨gk2, epk2, ck1, _⟩ := HP.out.rowK.get (map_get HE.out)
                    cases epk2
                    obtain ⟨gm2, epm2, cm1, _⟩ := HP.out.rowM.get (map_get HMe.out)
                    cases epm2
                    simp only at ck1 cm1
                    by_cases hq70 : q < en + 70
                    · have HMq0 : Hid (∀ d os, Calls Tryd.prog 9 #[.int .i64 (i : Int), .int .i64 0] (grow (redrawn wr d) os) fun e w'' => e = .returned (.string M0) ∧ ∃ p : Regrown, w'' = grow (redrawn wr p.d) p.os) := fun d os => Calls.regrown_of (HMk0.out _)
                      have HMq1 : Hid (∀ d os, Calls Tryd.prog 9 #[.int .i64 (i : Int), .int .i64 1] (grow (redrawn wr d) os) fun e w'' => e = .returned (.string M1) ∧ ∃ p : Regrown, w'' = grow (redrawn wr p.d) p.os) := fun d os => Calls.regrown_of (HMk1.out _)
                      have q1 : (q : Int) < (en : Int) + 70 := by omega
                      have q2 : (0 : Int) ≤ (q : Int) := by omega
                      have q3 : decide ((q : Int) < (en : Int) + 70) = true := decide_eq_true q1
                      have q4 : decide (q < en + 70) = true := decide_eq_true hq70
                      by_cases hqn : q < en
                      · have s1 : decide ((q : Int) < (en : Int)) = true := decide_eq_true (by omega)
                        have s2 : decide (q < en) = true := decide_eq_true hqn
                        have s3 : (q : Int) < (en : Int) := by omega
                        have s5 : decide ((en : Int) ≤ (q : Int)) = false := decide_eq_false (by omega)
                        have s6 : decide (en ≤ q) = false := decide_eq_false (by omega)
                        obtain ⟨gx, exp, cx1, _⟩ := (HP.out.kept i _ HE.out).2.get (k := q) (v := .string M0) (by rw [fr_get _ (by simp only; omega), fM_lt (by simp only; omega), HM0.out])
                        obtain ⟨gy, eyp, cy1, _⟩ := (HP.out.more i _ _ HMe.out HE.out).2.get (k := q) (v := .string M0) (by rw [fr_get _ (by simp only; omega), fM_lt (by simp only; omega), HM0.out])
                        simp only at exp eyp
                        subst exp eyp
                        go_wp2
                        have r1 := cell_regrown ck1
                        have r2 := cell_regrown cm1
                        have r3 := cell_regrown cx1
                        have r4 := cell_regrown cy1
                        refine wp_region_quiet_below (by kernel_rfl) (by kernel_rfl) ?_
                        repeat (go_big_quiet_step (first | (go_at_call 9; first | exact HMq0.out _ _ | exact HMq1.out _ _)))
                        refine wpQuiet_nil ?_
                        intro _ hw'
                        obtain ⟨⟨dq, osq⟩, hw''⟩ := hw'
                        subst hw''
                        replace HP := hide (HP.out.up (below_regrown wr dq osq))
                        clear r1 r2 r3 r4 ck1 cm1 cx1 cy1 HMq0 HMq1
                        generalize grow (redrawn wr dq) osq = w6 at *
                        go_wp2
                        go_roundw
                        case rel => exact ⟨q + 1, by omega, by go_num, HP⟩
                        case measure => simp [intOf]; omega
                      · have s1 : decide ((q : Int) < (en : Int)) = false := decide_eq_false (by omega)
                        have s2 : decide (q < en) = false := decide_eq_false hqn
                        have s3 : decide ((en : Int) ≤ (q : Int)) = true := decide_eq_true (by omega)
                        have s4 : decide (en ≤ q) = true := decide_eq_true (by omega)
                        obtain ⟨gy, eyp, cy1, _⟩ := (HP.out.more i _ _ HMe.out HE.out).2.get (k := q) (v := .string M1) (by rw [fr_get _ (by simp only; omega), fM_ge (by simp only; omega), HM1.out])
                        simp only at eyp
                        subst eyp
                        go_wp2
                        have r2 := cell_regrown cm1
                        have r4 := cell_regrown cy1
                        refine wp_region_quiet_below (by kernel_rfl) (by kernel_rfl) ?_
                        repeat (go_big_quiet_step (first | (go_at_call 9; first | exact HMq1.out _ _ | exact HMq0.out _ _)))
                        refine wpQuiet_nil ?_
                        intro _ hw'
                        obtain ⟨⟨dq, osq⟩, hw''⟩ := hw'
                        subst hw''
                        replace HP := hide (HP.out.up (below_regrown wr dq osq))
                        clear r2 r4 ck1 cm1 cy1 HMq0 HMq1
                        generalize grow (redrawn wr dq) osq = w6 at *
                        go_wp2
                        go_roundw
                        case rel => exact ⟨q + 1, by omega, by go_num, HP⟩
                        case measure => simp [intOf]; omega
                    · have q3 : decide ((q : Int) < (en : Int) + 70) = false := decide_eq_false (by omega)
                      have q4 : decide (q < en + 70) = false := decide_eq_false hq70
                      go_wp2
                      go_roundw
                      case rel => exact ⟨i + 1, by omega, by go_num, HP⟩
                      case measure => simp [intOf]; omega
                · have i1 : decide ((i : Int) < (es.length : Int)) = false := decide_eq_false (by omega)
                  have i1b : decide (i < es.length) = false := decide_eq_false (by omega)
                  have HBw : Hid (Below w.heap.size w wr) := HB1.out.trans (HP.out.below.mono HB1.out.size)
                  have HBe := hide (begun_any wr (HT.out.below HBw.out))
                  go_wp2_with fail
                  refine HBe.out.mono ?_
                  rintro e w9 ⟨rfl, g9⟩
                  have HBz := hide (HBw.out.trans (g9.mono HBw.out.size))
                  clear g9
                  go_wp2
                  go_ret
                  exact ⟨rfl, HBz.out⟩
end Go.Proofs.YtbacgkfmnccheaaDoor
