import Derived.Test.YtbcpoejpbhpcbaaDoorEnC
namespace Go.Proofs.YtbcpoejpbhpcbaaDoor
open Go.RowKit

set_option maxRecDepth 100000 in
set_option maxHeartbeats 8000000 in
set_option linter.unusedSimpArgs false in
theorem hearP0 (w wr : World) (K : Knd) (pb W M l0 l1 b0 b1 : Nat) (sv s0 s1 : Value) (A B : Lk) (ra rb : Value) (S T : List Sm) (es : List Fe) (k : Nat) (h : Pm w wr K pb W M l0 l1 b0 b1 sv s0 s1 A B ra rb S T es) (hd : Pd W M l0 l1 A B S T es k) (hk : k ≤ 20000) (mine yours seq ack nb c : Nat) (sp : Option Addr) (bo : List Nat) (hnb : bo.length = nb) (hby : By4 wr K sp bo) (hfo : Fok 5 0 l1 T ⟨5, 0, mine, yours, seq, ack, bo⟩) :
    Calls Tryd.prog 25 #[.pointer (some ⟨pb, 0, none⟩), .agg #[.int .i64 5, .int .i64 0, .int .u64 (mine : Int), .int .u64 (yours : Int), .int .u64 (seq : Int), .int .u64 (ack : Int), .slice sp nb c]] wr fun e w' => e = .returned (.bool true) ∧ ∃ K' s' r' S', Pm w w' K' pb W M l0 l1 b0 b1 sv s' s1 (hearN A mine yours seq ack) B r' rb S' T es ∧ Pd W M l0 l1 (hearN A mine yours seq ack) B S' T es (k + 1) ∧ HearS A S S' l0 mine yours seq ack bo := by
  obtain ⟨w1, hw1⟩ : ∃ w1, (wr.alloc (.cells #[.int .i64 5, .int .i64 0, .int .u64 (mine : Int), .int .u64 (yours : Int), .int .u64 (seq : Int), .int .u64 (ack : Int), .slice sp nb c] 54)).alloc (.cells #[.int .i64 5, .int .i64 0, .int .u64 (mine : Int), .int .u64 (yours : Int), .int .u64 (seq : Int), .int .u64 (ack : Int), .slice sp nb c] 54) = w1 := ⟨_, rfl⟩
  obtain ⟨fb, hfb⟩ : ∃ fb, wr.heap.size = fb := ⟨_, rfl⟩
  have hb1 : Below wr.heap.size wr w1 := by rw [← hw1]; exact ((Below.refl _ _).alloc (Nat.le_refl _) _).alloc (by simp) _
  have hk2 : w1.heap[fb + 1]? = some (.cells #[.int .i64 5, .int .i64 0, .int .u64 (mine : Int), .int .u64 (yours : Int), .int .u64 (seq : Int), .int .u64 (ack : Int), .slice sp nb c] 54 (0, 0)) := by rw [← hw1, ← hfb]; exact heap_alloc2_new wr _ _
  have hk1 : w1.heap[fb]? = some (.cells #[.int .i64 5, .int .i64 0, .int .u64 (mine : Int), .int .u64 (yours : Int), .int .u64 (seq : Int), .int .u64 (ack : Int), .slice sp nb c] 54 (0, 0)) := by
    rw [← hw1, ← hfb, Below.heap_alloc _ _ _ (by simp)]; exact heap_alloc_new _ _
  have hnl : nb ≤ 2048 := by rw [← hnb]; exact hfo.fit.2.2.2.2.2.2.1
  have HP1 := hide (h.below hb1 (9, 9))
  have HY1 := hide (hby.kp (kp_below hb1 (fun _ => False) K (9, 9)) (fun e => e))
  obtain ⟨K1, hK1⟩ : ∃ K1, ext K wr.heap.size (9, 9) = K1 := ⟨_, rfl⟩
  have kf1 : K1 fb = (9, 9) := by rw [← hK1]; exact ext_new _ _ (by omega)
  have kg1 : K1 (fb + 1) = (9, 9) := by rw [← hK1]; exact ext_new _ _ (by omega)
  rw [hK1] at HP1 HY1
  obtain ⟨f0, f1, f2, f3, f4, f5, f6, -⟩ := blk7 hk1
  obtain ⟨g0, g1, g2, g3, g4, g5, g6', gf⟩ := blk7 hk2
  have hg6 := C.lt_of_block hk2
  have HC := hide (copy_any w1 sp nb c bo hnb HY1.out.by_ (by omega))
  have HK1 := hide hk1
  have HK2 := hide hk2
  have HW := hide hw1
  have HKf := hide kf1
  have HKg := hide kg1
  have HD := hide hd
  have HFo := hide hfo
  have HNb := hide hnb
  have hFb := hide hfb
  clear hk1 hk2 hb1 hw1 h hK1 kf1 kg1 hby hd hfo hnb
  go_enter Tryd.func25, Tryd.ntmps25
  go_upto_region 5 with (fail)
  rw [HW.out]
  go_wp2_with fail
  refine HC.out.mono ?_
  rintro e w2 ⟨a5, c5, rfl, ho2, hb2⟩
  have HP2 := hide (HP1.out.below hb2 (4, 0))
  have HY2 : Hid (By4 w2 (ext K1 w1.heap.size (4, 0)) a5 bo) := By4.new (owns_bytes ho2 HY1.out.by_.small) (fun p hp => by
    rcases ho2.2 with ⟨q, _⟩ | ⟨g, cap, cur, q, q2, _⟩
    · cases q; cases hp
    · cases q; cases hp; exact q2)
  have HS2 : Hid (∀ a, a5 = some a → ext K1 w1.heap.size (4, 0) a.block = (4, 0) ∧ a.block < w2.heap.size) := fun p hp => by
    rcases ho2.2 with ⟨q, _⟩ | ⟨g, cap, cur, q, q2, q3, _⟩
    · cases q; cases hp
    · cases q; cases hp; exact ⟨ext_new _ _ q2, C.lt_of_block q3⟩
  have hf2 := (hb2.block _ (C.lt_of_block HK1.out)).trans HK1.out
  have hg2 := (hb2.block _ (C.lt_of_block HK2.out)).trans HK2.out
  have HKf2 : Hid (ext K1 w1.heap.size (4, 0) fb = (9, 9)) := (ext_old _ _ (C.lt_of_block HK1.out)).trans HKf.out
  have HKg2 : Hid (ext K1 w1.heap.size (4, 0) (fb + 1) = (9, 9)) := (ext_old _ _ (C.lt_of_block HK2.out)).trans HKg.out
  generalize ext K1 w1.heap.size (4, 0) = K2 at *
  clear f0 f1 f2 f3 f4 f5 f6 g0 g1 g2 g3 g4 g5 g6' gf hg6 HC hb2 ho2 HP1 HY1 HKf HKg
  obtain ⟨-, -, -, -, -, -, g6', gf⟩ := blk7 hg2
  have hg6 := C.lt_of_block hg2
  have HF2 := hide hf2
  have HG2 := hide hg2
  clear hf2 hg2 HK1 HK2
  go_upto_region 6 with (fail)
  obtain ⟨w3, hw3⟩ : ∃ w3, w2.setCell ⟨fb + 1, 6, none⟩ (.slice a5 nb c5) = w3 := ⟨_, rfl⟩
  rw [hw3]
  have hm3 : Kp (fun q => q = (9, 9)) K2 K2 w2 w3 := by rw [← hw3]; exact (Kp.refl (fun q => q = (9, 9)) K2 w2).setCell (b := fb + 1) (Or.inr HKg2.out) _ _
  have HP3 := hide (HP2.out.kp hm3 (by simp) (by simp) (by simp) (by simp) (by simp) (by simp) (by simp) (by simp))
  have HY3 := hide (HY2.out.kp hm3 (by simp))
  have HZs := hide hm3.size
  have hf3 : w3.heap[fb]? = some (.cells #[.int .i64 5, .int .i64 0, .int .u64 (mine : Int), .int .u64 (yours : Int), .int .u64 (seq : Int), .int .u64 (ack : Int), .slice sp nb c] 54 (0, 0)) := by rw [← hw3]; exact (Below.heap_setCell _ _ _ _ (by show fb ≠ fb + 1; omega)).trans HF2.out
  have hg3 : w3.heap[fb + 1]? = some (.cells #[.int .i64 5, .int .i64 0, .int .u64 (mine : Int), .int .u64 (yours : Int), .int .u64 (seq : Int), .int .u64 (ack : Int), .slice a5 nb c5] 54 (0, 0)) := by rw [← hw3]; exact C.block_set HG2.out _
  have HF3 := hide hf3
  have HG3 := hide hg3
  obtain ⟨kn, hkn⟩ : ∃ kn, A.known = kn := ⟨_, rfl⟩
  have HLf := hide (life_any w3 b0 A _ HP3.out.lq0.lw.lb)
  rw [hkn] at HLf
  have HKn := hide hkn
  obtain ⟨p0, p1, p2, p3, p4, p5, p6, p7, p8, pf, hpb⟩ := HP3.out.pk.cells
  clear hw3 hm3 hf3 hg3 g6' gf hg6 HF2 HG2 HP2 HY2 hkn
  go_wp2_with fail
  refine HLf.out.mono ?_
  rintro e w4 ⟨rfl, rfl⟩
  clear HLf
  obtain ⟨g0, g1, g2, g3, g4, g5, g6, -⟩ := blk7 HG3.out
  have hg6 := C.lt_of_block HG3.out
  have HH : Hid (∀ w' K', Pm w w' K' pb W M l0 l1 b0 b1 sv s0 s1 A B ra rb S T es → By4 w' K' a5 bo → (∀ a, a5 = some a → K' a.block = (4, 0)) → Calls Tryd.prog 44 #[.pointer (some ⟨b0, 0, none⟩), .agg #[.int .i64 5, .int .i64 0, .int .u64 (mine : Int), .int .u64 (yours : Int), .int .u64 (seq : Int), .int .u64 (ack : Int), .slice a5 nb c5]] w' fun e w'' => ∃ (a : Option Addr) (m cc : Nat) (r' : Value), e = .returned (.agg #[.slice a m cc, .bool (hdN A mine yours seq ack), .bool (decide (A.known < mine)), .bool (riN A mine yours)]) ∧ (upB A mine yours seq ack bo).length = m ∧ By4 w'' (ext K' w'.heap.size (4, 0)) a (upB A mine yours seq ack bo) ∧ Pm w w'' (ext K' w'.heap.size (4, 0)) pb W M l0 l1 b0 b1 sv s0 s1 (hearN A mine yours seq ack) B r' rb S T es ∧ Kp (fun q => q = (1, 0)) K' (ext K' w'.heap.size (4, 0)) w' w'') := fun w' K' hp hy hs => hear_pm0 hp HD.out.a hk mine yours seq ack nb c5 a5 bo HNb.out hy hs HFo.out.fit
  obtain ⟨hdv, hHd⟩ : ∃ v, hdN A mine yours seq ack = v := ⟨_, rfl⟩
  obtain ⟨an, hAn⟩ : ∃ v, decide (A.known < mine) = v := ⟨_, rfl⟩
  obtain ⟨ri, hRi⟩ : ∃ v, riN A mine yours = v := ⟨_, rfl⟩
  obtain ⟨UB, hUB⟩ : ∃ v, upB A mine yours seq ack bo = v := ⟨_, rfl⟩
  rw [hHd, hAn, hRi, hUB] at HH
  have HHd := hide hHd
  have HAn := hide hAn
  have HRi := hide hRi
  have HUb := hide hUB
  clear hHd hAn hRi hUB
  obtain ⟨Kz, hKz⟩ : ∃ Kz, ext K2 w4.heap.size (9, 9) = Kz := ⟨_, rfl⟩
  have hzo : ∀ x, x < w4.heap.size → Kz x = K2 x := fun x hx => by rw [← hKz]; exact ext_old _ _ hx
  have HZn : Hid (Kz w4.heap.size = (9, 9)) := by show _ = _; rw [← hKz]; exact ext_new _ _ (Nat.le_refl _)
  have HZf : Hid (Kz fb = (9, 9)) := (hzo fb (C.lt_of_block HF3.out)).trans HKf2.out
  have HZg : Hid (Kz (fb + 1) = (9, 9)) := (hzo (fb + 1) hg6).trans HKg2.out
  have HPa := hide (HP3.out.below ((Below.refl _ _).drew) (9, 9))
  have HPb : Hid (∀ bl, Pm w (w4.alloc bl).drew (ext K2 w4.heap.size (9, 9)) pb W M l0 l1 b0 b1 sv s0 s1 A B ra rb S T es) := fun bl => HP3.out.below (((Below.refl _ _).alloc (Nat.le_refl _) bl).drew) (9, 9)
  have HYa := hide (HY3.out.kp (kp_below ((Below.refl w4.heap.size w4).drew) (fun _ => False) K2 (9, 9)) (fun e => e))
  have HYb : Hid (∀ bl, By4 (w4.alloc bl).drew (ext K2 w4.heap.size (9, 9)) a5 bo) := fun bl => HY3.out.kp (kp_below (((Below.refl w4.heap.size w4).alloc (Nat.le_refl _) bl).drew) (fun _ => False) K2 (9, 9)) (fun e => e)
  have HSp : Hid (∀ a, a5 = some a → Kz a.block = (4, 0)) := fun a ha => by
    have h2 := HS2.out a ha
    exact (hzo _ (Nat.lt_of_lt_of_le h2.2 HZs.out)).trans h2.1
  rw [hKz] at HPa HPb HYa HYb
  have n1 : w4.heap.size ≠ pb := by omega
  have n2 : w4.heap.size ≠ fb + 1 := by omega
  have HZ1 : Hid (¬ Kz w4.heap.size = (1, 0)) := by show ¬ _; rw [HZn.out]; simp
  have HZ2 : Hid (¬ Kz (fb + 1) = (1, 0)) := by show ¬ _; rw [HZg.out]; simp
  have HZ3 : Hid (¬ Kz fb = (1, 0)) := by show ¬ _; rw [HZf.out]; simp
  clear hKz hzo HP3 HY3 HS2 HKf2 HKg2
  go_upto_region 7 with (fail)
  go_cut [8] from 27 to 34 (fun s8 wc => ∃ (hx : Nat) (a : Option Addr) (m cc : Nat) (r' : Value) (K5 : Knd), s8 = .pointer (some ⟨hx, 0, none⟩) ∧ Hid (wc.heap[hx]? = some (.cells #[.slice a m cc, .bool hdv, .bool an, .bool ri] 93 (0, 0)) ∧ K5 hx = (9, 9) ∧ Pm w wc K5 pb W M l0 l1 b0 b1 sv s0 s1 (hearN A mine yours seq ack) B r' rb S T es ∧ By4 wc K5 a UB ∧ UB.length = m ∧ wc.heap[fb]? = some (.cells #[.int .i64 5, .int .i64 0, .int .u64 (mine : Int), .int .u64 (yours : Int), .int .u64 (seq : Int), .int .u64 (ack : Int), .slice sp nb c] 54 (0, 0)) ∧ K5 fb = (9, 9)))
  case first =>
    go_region_held3 (fun w' => w'.cell? ⟨pb, 4, none⟩ = some (.pointer (some ⟨b0, 0, none⟩)) ∧ w'.cell? ⟨fb + 1, 0, none⟩ = some (.int .i64 5) ∧ w'.cell? ⟨fb + 1, 1, none⟩ = some (.int .i64 0) ∧ w'.cell? ⟨fb + 1, 2, none⟩ = some (.int .u64 (mine : Int)) ∧ w'.cell? ⟨fb + 1, 3, none⟩ = some (.int .u64 (yours : Int)) ∧ w'.cell? ⟨fb + 1, 4, none⟩ = some (.int .u64 (seq : Int)) ∧ w'.cell? ⟨fb + 1, 5, none⟩ = some (.int .u64 (ack : Int)) ∧ w'.cell? ⟨fb + 1, 6, none⟩ = some (.slice a5 nb c5)) (go_keep) (first | (go_at_call 44; refine (HH.out _ Kz (by first | with_reducible exact HPa.out | exact HPb.out _) (by first | with_reducible exact HYa.out | exact HYb.out _) HSp.out).mono ?_; rintro e w5 ⟨a, m, cc, r', rfl, hm, hby5, hpm5, hkp5⟩; have hg5 : w5.heap[fb + 1]? = some (.cells #[.int .i64 5, .int .i64 0, .int .u64 (mine : Int), .int .u64 (yours : Int), .int .u64 (seq : Int), .int .u64 (ack : Int), .slice a5 nb c5] 54 (0, 0)) := (by first | exact (hkp5.block (fb + 1) hg6 HZ2.out).trans HG3.out | exact (hkp5.block (fb + 1) (by simp; omega) HZ2.out).trans ((Below.heap_alloc _ _ _ hg6).trans HG3.out)); have hf5 : w5.heap[fb]? = some (.cells #[.int .i64 5, .int .i64 0, .int .u64 (mine : Int), .int .u64 (yours : Int), .int .u64 (seq : Int), .int .u64 (ack : Int), .slice sp nb c] 54 (0, 0)) := (by first | exact (hkp5.block fb (C.lt_of_block HF3.out) HZ3.out).trans HF3.out | exact (hkp5.block fb (by have := C.lt_of_block HF3.out; simp; omega) HZ3.out).trans ((Below.heap_alloc _ _ _ (C.lt_of_block HF3.out)).trans HF3.out)); have hkf5 : ext Kz _ (4, 0) fb = (9, 9) := ((hkp5.same fb (by have := C.lt_of_block HF3.out; simp; omega)).trans HZf.out); obtain ⟨g0n, g1n, g2n, g3n, g4n, g5n, g6n, -⟩ := blk7 hg5; obtain ⟨-, -, -, -, p4n, p5n, -⟩ := hpm5.pk.cells; (first | (have hz5 := (hkp5.block w4.heap.size (by simp) HZ1.out).trans (heap_alloc_new _ _); have hkz5 : ext Kz _ (4, 0) w4.heap.size = (9, 9) := ((hkp5.same w4.heap.size (by simp)).trans HZn.out); obtain ⟨zz0, zz1, zz2, zz3, zzf⟩ := blk4 hz5; have HZ5 := hide hz5; have HKz5 := hide hkz5; clear hz5 hkz5) | skip); have HM5 := hide hm; have HY5 := hide hby5; have HP5 := hide hpm5; have HF5 := hide hf5; have HKf5 := hide hkf5; have hs5 : w4.heap.size ≤ w5.heap.size := (by have := hkp5.size; simp at this; omega); clear hm hby5 hpm5 hkp5 hg5 hf5 hkf5))
    all_goals go_wp2_with fail
    all_goals go_meet
    · have hb6 : Below w5.heap.size w5 (w5.alloc (.cells #[.slice a m cc, .bool hdv, .bool an, .bool ri] 93)) := (Below.refl _ _).alloc (Nat.le_refl _) _
      exact ⟨w5.heap.size, a, m, cc, r', _, rfl, hide ⟨heap_alloc_new _ _, ext_new _ _ (Nat.le_refl _), HP5.out.below hb6 (9, 9), HY5.out.kp (kp_below hb6 (fun _ => False) _ (9, 9)) (fun e => e), HM5.out, (hb6.block fb (C.lt_of_block HF5.out)).trans HF5.out, (ext_old _ _ (C.lt_of_block HF5.out)).trans HKf5.out⟩⟩
    · have hm6 := ((((Kp.refl (fun q => q = (9, 9)) _ w5).setCell (b := w4.heap.size) (Or.inr HKz5.out) 0 (.slice a m cc)).setCell (b := w4.heap.size) (Or.inr HKz5.out) 1 (.bool hdv)).setCell (b := w4.heap.size) (Or.inr HKz5.out) 2 (.bool an)).setCell (b := w4.heap.size) (Or.inr HKz5.out) 3 (.bool ri)
      have hfn : fb ≠ w4.heap.size := by have := C.lt_of_block HF3.out; omega
      exact ⟨w4.heap.size, a, m, cc, r', _, rfl, hide ⟨put4z HZ5.out _ _ _ _, HKz5.out, HP5.out.kp hm6 (by simp) (by simp) (by simp) (by simp) (by simp) (by simp) (by simp) (by simp), HY5.out.kp hm6 (by simp), HM5.out, ((Below.heap_setCell _ _ _ _ hfn).trans ((Below.heap_setCell _ _ _ _ hfn).trans ((Below.heap_setCell _ _ _ _ hfn).trans (Below.heap_setCell _ _ _ _ hfn)))).trans HF5.out, HKf5.out⟩⟩
  case rest =>
    obtain ⟨hx, a, m, cc, r', K5, rfl, HR⟩ := hcut
    clear p0 p1 p2 p3 p4 p5 p6 p7 p8 pf hpb g0 g1 g2 g3 g4 g5 g6 hg6 HH HF3 HG3 n1 n2 HW HPa HPb HYa HYb HSp HZ1 HZ2 HZ3 HZn HZf HZg
    obtain ⟨h0, h1, h2, h3, -⟩ := blk4 HR.out.1
    obtain ⟨f0, f1, f2, f3, f4, f5, f6, -⟩ := blk7 HR.out.2.2.2.2.2.1
    obtain ⟨p0, p1, p2, p3, p4, p5, p6, p7, p8, pf, hpb⟩ := HR.out.2.2.1.pk.cells
    have HM := hide HFo.out.fit.2.2.1
    have hl := HD.out.a.lf
    cases hdv with
    | false =>
      have hUb : UB = [] := by rw [← HUb.out]; unfold upB; rw [HHd.out]; rfl
      obtain rfl : m = 0 := by rw [← HR.out.2.2.2.2.1, hUb]; rfl
      have HPf := hide HR.out.2.2.1
      clear hUb HUb HNb hFb HFo
      by_cases hle : kn ≤ mine
      · have d2 : (kn : Int) ≤ (mine : Int) := by omega
        have hri : ri = decide (yours = l0) := by rw [← HRi.out]; unfold riN; rw [HKn.out, decide_eq_true hle, hl]; rfl
        have han : an = decide (kn < mine) := by rw [← HAn.out, HKn.out]
        clear HAn HRi hle hl HKn
        by_cases q1 : kn < mine
        · have d1 : (kn : Int) < (mine : Int) := by omega
          rw [decide_eq_true q1] at han
          subst han
          by_cases q2 : yours = l0
          · have d3 : ((yours : Int) == (l0 : Int)) = true := by simp [q2]
            rw [decide_eq_true q2] at hri
            subst hri
            clear q1 q2
            go_upto_region 8 with (fail)
            go_quiet (fail)
            go_wp2
            go_ret
            exact ⟨rfl, K5, _, r', _, HPf.out.drewN nq, HD.out.heard0 HHd.out HM.out.2, Or.inl ⟨HHd.out, rfl⟩⟩
          · have d3 : ((yours : Int) == (l0 : Int)) = false := by simp; omega
            rw [decide_eq_false q2] at hri
            subst hri
            clear q1 q2
            go_upto_region 8 with (fail)
            go_quiet (fail)
            go_wp2
            go_ret
            exact ⟨rfl, K5, _, r', _, HPf.out.drewN nq, HD.out.heard0 HHd.out HM.out.2, Or.inl ⟨HHd.out, rfl⟩⟩
        · have d1 : ¬ (kn : Int) < (mine : Int) := by omega
          rw [decide_eq_false q1] at han
          subst han
          by_cases q2 : yours = l0
          · have d3 : ((yours : Int) == (l0 : Int)) = true := by simp [q2]
            rw [decide_eq_true q2] at hri
            subst hri
            clear q1 q2
            go_upto_region 8 with (fail)
            go_quiet (fail)
            go_wp2
            go_ret
            exact ⟨rfl, K5, _, r', _, HPf.out.drewN nq, HD.out.heard0 HHd.out HM.out.2, Or.inl ⟨HHd.out, rfl⟩⟩
          · have d3 : ((yours : Int) == (l0 : Int)) = false := by simp; omega
            rw [decide_eq_false q2] at hri
            subst hri
            clear q1 q2
            go_upto_region 8 with (fail)
            go_quiet (fail)
            go_wp2
            go_ret
            exact ⟨rfl, K5, _, r', _, HPf.out.drewN nq, HD.out.heard0 HHd.out HM.out.2, Or.inl ⟨HHd.out, rfl⟩⟩
      · obtain rfl : an = false := by rw [← HAn.out, HKn.out]; exact decide_eq_false (by omega)
        obtain rfl : ri = false := by rw [← HRi.out]; unfold riN; rw [HKn.out, decide_eq_false hle]; rfl
        have d1 : ¬ (kn : Int) < (mine : Int) := by omega
        have d2 : ¬ (kn : Int) ≤ (mine : Int) := by omega
        clear HAn HRi hle hl HKn
        go_upto_region 8 with (fail)
        go_quiet (fail)
        go_wp2
        go_ret
        exact ⟨rfl, K5, _, r', _, HPf.out.drewN nq, HD.out.heard0 HHd.out HM.out.2, Or.inl ⟨HHd.out, rfl⟩⟩
    | true =>
      obtain ⟨hle, hyo, -, hbl⟩ := hd_true HHd.out
      have hUb : UB = bo := by rw [← HUb.out]; unfold upB; rw [HHd.out]; rfl
      obtain rfl : m = nb := by rw [← HR.out.2.2.2.2.1, hUb]; exact HNb.out
      have hNk : (hearN A mine yours seq ack).known = mine := by rw [hbl, (bodyL_same _ _).1]; exact hA_known _ _ _ hle
      have HNk := hide hNk
      rw [hl] at hyo
      rw [HKn.out] at hle
      obtain rfl : ri = true := by rw [← HRi.out]; unfold riN; rw [HKn.out, decide_eq_true hle, hl, decide_eq_true hyo]; rfl
      have d2 : (kn : Int) ≤ (mine : Int) := by omega
      have d3 : ((yours : Int) == (l0 : Int)) = true := by simp [hyo]
      have han : an = decide (kn < mine) := by rw [← HAn.out, HKn.out]
      have HYo := hide hyo
      rename World => wc
      have HRp := hide HR.out.2.2.1
      have HRy := hide HR.out.2.2.2.1
      rw [hUb] at HRy
      have HRx := hide HR.out.1
      have HRk := hide HR.out.2.1
      clear HAn HRi hle hl HKn hbl hNk hUb HUb hyo HR
      go_upto_region 8 with (fail)
      go_cut [70] from 35 to 69 (fun s70 w8 => s70 = .bool false ∧ ∃ nq, Hid (w8 = wc.drewN nq))
      case first =>
        by_cases q1 : kn < mine
        · have d1 : (kn : Int) < (mine : Int) := by omega
          rw [decide_eq_true q1] at han
          subst han
          clear q1
          go_quiet (fail)
          go_wp2_with fail
          go_meet
          exact ⟨rfl, nq, hide rfl⟩
        · have d1 : ¬ (kn : Int) < (mine : Int) := by omega
          rw [decide_eq_false q1] at han
          subst han
          clear q1
          go_quiet (fail)
          go_wp2_with fail
          go_meet
          exact ⟨rfl, nq, hide rfl⟩
      case rest =>
        obtain ⟨rfl, nq, HW8⟩ := hcut
        rename World => w8
        have HP8 : Hid (Pm w w8 K5 pb W M l0 l1 b0 b1 sv s0 s1 (hearN A mine yours seq ack) B r' rb S T es) := by show Pm _ _ _ _ _ _ _ _ _ _ _ _ _ _ _ _ _ _ _ _; rw [HW8.out]; exact HRp.out.drewN nq
        have HY8 : Hid (By4 w8 K5 a bo) := by show By4 _ _ _ _; rw [HW8.out]; exact HRy.out.kp (drewN_kq wc K5 nq) (fun e => e)
        have HX8 : Hid (w8.heap[hx]? = some (.cells #[.slice a m cc, .bool true, .bool an, .bool true] 93 (0, 0))) := by show _ = _; rw [HW8.out]; exact HRx.out
        clear h0 h1 h2 h3 f0 f1 f2 f3 f4 f5 f6 p0 p1 p2 p3 p4 p5 p6 p7 p8 pf hpb HRp HRy HRx HW8 d2 d3 han
        obtain ⟨h0, h1, h2, h3, -⟩ := blk4 HX8.out
        have HNw := hide (nowP0 HP8.out (by have := HD.out.sl; omega))
        go_wp2_with fail
        refine HNw.out.mono ?_
        rintro e w9 (⟨hk0, _, _⟩ | ⟨hkn0, n, x, s', K6, S', rfl, hx', q1, q2, hns, hpm, hkp⟩)
        · exfalso
          rw [HNk.out] at hk0
          have := HM.out
          omega
        have hX9 := (hkp.block hx (C.lt_of_block HX8.out) (by rw [HRk.out]; simp)).trans HX8.out
        have HKx9 : Hid (K6 hx = (9, 9)) := (hkp.same hx (C.lt_of_block HX8.out)).trans HRk.out
        have HY9 := hide (HY8.out.kp hkp (by simp))
        have hhd := HD.out.handed0 HHd.out HM.out.2 HM.out.1 hns hx' q1 q2
        have HHa := hide hhd
        obtain ⟨-, hseq, hxy, hyl, h0s⟩ := hhd (.slice none 0 0) []
        obtain ⟨gs, cg, hv, hgs, y0, y1, y2, y3, yf⟩ := hpm.ss0.cells hx'
        obtain ⟨vs, hrk, hel⟩ := (hpm.ss0.rows n x hx').2.ex
        obtain ⟨ua, uc, huv, huc, hum⟩ := hrk.form
        have hsl : seq ≤ 1099511627776 := HFo.out.fit.2.2.2.2.1
        have hSl : S'.length ≤ 20001 := by have := hns.grow.2; have := HD.out.sl; omega
        have hnS := (List.getElem?_eq_some_iff.1 hx').1
        subst hv
        have HSo := hide hpm.ss0.own.own
        have HKs := hide hpm.ss0.own.kind
        rw [huv] at y3
        have HOw := hide hrk.own
        rw [huv] at HOw
        have HKu := hide hrk.kind
        rw [huv] at HKu
        obtain ⟨u, hu⟩ : ∃ u, x.up.length = u := ⟨_, rfl⟩
        rw [hu] at y3 HOw HKu hseq huc
        have HU := hide hu
        have HUv := hide huv
        have HSv : Hid ((smV S')[n * 4 + 3]? = some (.slice ua u uc)) := by show _ = _; rw [(smV_at S' n x hx').2.2.2, huv, hu]
        have HX' := hide hx'
        have HPm := hide hpm
        have HRk9 := hide hrk
        have HEl := hide hel
        have HX9 := hide hX9
        have HNs := hide hns
        have HQ1 := hide q1
        have HQ2 := hide q2
        have HXy := hide hxy
        have HSq := hide hseq
        have H0s := hide h0s
        clear h0 h1 h2 h3 hkn0 hpm hkp hX9 hrk hel hu huv hx' hns HNw HP8 HY8 HX8 HRk q1 q2 hxy hyl y0 y1 y2 hseq h0s
        obtain ⟨p0, p1, p2, p3, p4, p5, p6, p7, p8, pf, hpb⟩ := HPm.out.pk.cells
        obtain ⟨h0, h1, h2, h3, -⟩ := blk4 HX9.out
        obtain ⟨i0, hi, hz0, hz1, hz2⟩ := info_parts Tryd.infoSl
        have n1 : ¬ (n : Int) < 0 := by omega
        have n2 : (0 : Int) ≤ (n : Int) := by omega
        have n3 : (n : Int) < (S'.length : Int) := by omega
        have hul : u ≤ 1099511627776 := by have := HSq.out; omega
        go_upto_region 15 with (fail)
        go_cut [] from 83 to 105 (fun wb => ∃ (uv' : Value) (K7 : Knd), Hid (Pm w wb K7 pb W M l0 l1 b0 b1 sv (.slice (some ⟨gs, 0, none⟩) S'.length cg) s1 (hearN A mine yours seq ack) B r' rb (S'.set n { x with uv := uv', up := x.up ++ [bo] }) T es ∧ By4 wb K7 a bo ∧ wb.heap[hx]? = some (.cells #[.slice a m cc, .bool true, .bool an, .bool true] 93 (0, 0))))
        case first =>
          go_region_law (first | (refine step_append_lies _ (by rfl) (.tmp 99) (.tmp 102) 45 (by rfl) 0 29 i0 (.slice none 0 0) 1 24 Tryd.underlying45 hi hz0 hz1 hz2 rfl (by omega) (.slice ua u uc) u vs (by rfl) (owns_same HOw.out (fun g hg => Below.heap_alloc _ _ _ (rk_lt HOw.out hg))) ⟨w9.heap.size, 0, none⟩ 1 1 [.slice a m cc] (by rfl) rfl (World.news_of_block (heap_alloc_new w9.drew (.cells #[.slice a m cc] 29))) (by simp [Value.oneCell']) (by omega) (by unfold maxLen; omega) (by omega) (Nat.zero_le _) _ rfl ?_; intro g' cap' wa hown hgrow hat hltg; have hS : wa.ownsRow 0 47 4 (.slice (some ⟨gs, 0, none⟩) S'.length cg) S'.length (smV S') := (owns_same HSo.out (fun g hg => (hgrow.block g (by have := rk_lt HSo.out hg; simp; omega) (fun e => by have h1 := HKu.out g e.symm; rw [HKs.out g hg] at h1; cases h1)).trans (Below.heap_alloc _ _ _ (rk_lt HSo.out hg)))); have ya := (hS.cellAt (n * 4 + 3) (by omega)).trans HSv.out; have yfa := hS.frozenAt (n * 4 + 3); have hpa : wa.heap[pb]? = some (.cells (pkC W M l0 l1 b0 b1 sv (.slice (some ⟨gs, 0, none⟩) S'.length cg) s1) 41 (0, 0)) := ((hgrow.block pb (by simp; omega) (fun e => by have h1 := HKu.out pb e.symm; rw [HPm.out.pk.kind] at h1; cases h1)).trans ((Below.heap_alloc _ _ _ hpb).trans HPm.out.pk.blk)); have hpk : Pk wa K6 pb W M l0 l1 b0 b1 sv (.slice (some ⟨gs, 0, none⟩) S'.length cg) s1 := ⟨hpa, HPm.out.pk.kind⟩; obtain ⟨-, -, -, -, -, -, -, pa7, pa8, -, -⟩ := hpk.cells; have HO4 := hide hown; have HG4 := hide hgrow; have HA4 := hide hat; clear hown hgrow hat hltg hS hpa hpk))
          all_goals go_wp2_with fail
          all_goals go_meet
          all_goals
            have hb6 : Below w9.heap.size w9 (w9.drew.alloc (.cells #[.slice a m cc] 29)) := ((Below.refl _ _).drew).alloc (Nat.le_refl _) _
            have hpm6 := HPm.out.below hb6 (9, 9)
            have mk6 := kp_below hb6 (fun _ => False) K6 (9, 9)
            obtain ⟨hpm7, hkp7⟩ := hpm6.up0 (p := bo) (a := a) (c := cc) HX'.out (HRk9.out.kept mk6 (fun e => e)) (fun i p hp => by
              obtain ⟨sp2, c2, e1, e2⟩ := HEl.out i p hp
              exact ⟨sp2, c2, e1, e2.kp mk6 (fun e => e)⟩) (by rw [HUv.out, HU.out]; exact HG4.out) (by rw [HU.out, HNb.out]; exact HO4.out) (by
              rw [HUv.out, HU.out]
              rcases HA4.out with e | e
              · exact Or.inl e.symm
              · exact Or.inr ⟨g', rfl, by rw [e]; exact Nat.le_refl _⟩) (HY9.out.kp mk6 (fun e => e)) (by rw [HNb.out]; omega) rfl
            have hX7 := (hkp7.block hx (Nat.lt_of_lt_of_le (C.lt_of_block HX9.out) hb6.size) (by rw [ext_old _ _ (C.lt_of_block HX9.out), HKx9.out]; simp)).trans ((hb6.block hx (C.lt_of_block HX9.out)).trans HX9.out)
            exact ⟨_, _, hide ⟨hpm7, (HY9.out.kp mk6 (fun e => e)).kp hkp7 (by simp), hX7⟩⟩
        case rest =>
          obtain ⟨uv', K7, HR⟩ := hcut
          rename World => wb
          have HX7 : Hid ((S'.set n { x with uv := uv', up := x.up ++ [bo] })[n]? = some { x with uv := uv', up := x.up ++ [bo] }) := by show _ = _; rw [List.getElem?_set_self hnS]
          clear h0 h1 h2 h3 p0 p1 p2 p3 p4 p5 p6 p7 p8 pf hpb HSo HKs y3 HOw HKu yf hgs HSv HRk9 HEl HX9 HPm HY9 hi hz0 hz1 hz2
          obtain ⟨p0, p1, p2, p3, p4, p5, p6, p7, p8, pf, hpb⟩ := HR.out.1.pk.cells
          obtain ⟨h0, h1, h2, h3, -⟩ := blk4 HR.out.2.2
          obtain ⟨gs', cg', hv, hgs, y0, y1, y2, y3, yf⟩ := HR.out.1.ss0.cells HX7.out
          injection hv with hv1 hv2 hv3
          injection hv1 with hv1
          injection hv1 with hv1
          subst hv1
          obtain ⟨ua2, uc2, huv2⟩ := (HR.out.1.ss0.rows n _ HX7.out).2.form
          rw [huv2] at y3
          rw [List.length_append, HU.out] at y3
          simp only [List.length_cons, List.length_nil, Nat.zero_add] at y3
          have HHd7 := hide (handed0 wb K7 pb W M l0 l1 b0 b1 sv _ _ _ _ n _ HR.out.1.pk HR.out.1.ss0 HR.out.1.ss1 HX7.out (by have := HD.out.tl; omega))
          have HPd := hide (HHa.out uv' bo).1
          have HHs : Hid (HearS A S (S'.set n { x with uv := uv', up := x.up ++ [bo] }) l0 mine yours seq ack bo) := Or.inr ⟨HHd.out, S', n, x, uv', HNs.out, HX'.out, HQ1.out, HQ2.out, rfl⟩
          clear hv2 hv3 huv2 HHa y0 y1 y2 HX'
          go_upto_region 17 with (fail)
          go_wp2_with fail
          refine HHd7.out.mono ?_
          rintro e wd ⟨hbd, (⟨m2, y, hy, e1, e2, -, rfl⟩ | ⟨hno, rfl⟩)⟩
          rotate_left
          · exfalso
            have e1 : x.yours = mine := HXy.out
            have e2 : x.mine = yours := HQ1.out.trans HYo.out.symm
            have hno2 : NoSes T T.length x.yours x.mine := hno
            rw [e1, e2] at hno2
            exact fok_some HFo.out H0s.out hno2
          have e1' : y.mine = mine := e1.trans HXy.out
          have e2' : y.yours = yours := e2.trans (HQ1.out.trans HYo.out.symm)
          have hnx := fok_next HD.out.b HFo.out H0s.out hy e1' e2'
          have hu1 : seq - 1 = u := by have := HSq.out; omega
          rw [hu1] at hnx
          have hPd8 := HR.out.1.below hbd (9, 9)
          obtain ⟨vs2, hrk2, hel2⟩ := (hPd8.ss1.rows m2 y hy).1.ex
          obtain ⟨sp2, c2, hv2, hy2⟩ := hel2 u bo hnx
          obtain ⟨ia, ic, hiv, hil, him⟩ := hrk2.form
          have hul2 : u < y.inn.length := (List.getElem?_eq_some_iff.1 hnx).1
          have HPf := hide hPd8
          have HY2 := hide hy2
          have HY3 := hide (HR.out.2.1.kp (kp_below hbd (fun _ => False) K7 (9, 9)) (fun e => e))
          have hX8 := (hbd.block hx (C.lt_of_block HR.out.2.2)).trans HR.out.2.2
          have hown2 := hrk2.own
          rw [hiv] at hown2 ⊢
          have hcell : ∃ gi, ia = some ⟨gi, 0, none⟩ ∧ wd.cell? ⟨gi, u, none⟩ = some (.slice sp2 m c2) := by
            rcases hown2.2 with ⟨q, q2⟩ | ⟨gi, cap, cur, q, _⟩
            · omega
            · cases q
              refine ⟨gi, rfl, ?_⟩
              rw [hown2.cellAt u (by omega), hv2, HNb.out]
          obtain ⟨gi, hia, hce⟩ := hcell
          subst hia
          obtain ⟨q, hq⟩ : ∃ q, y.inn.length = q := ⟨_, rfl⟩
          rw [hq] at hul2 ⊢
          have t1 : (u : Int) + 1 ≤ (q : Int) := by omega
          have t2 : (u : Int) < (q : Int) := by omega
          have t3 : (0 : Int) ≤ (u : Int) := by omega
          have HEq := hide (fun q => eq_val (wd.drewN q) sp2 a m m c2 cc bo bo HNb.out HNb.out (by omega) (by omega) (HY2.out.by_.drewN q) (HY3.out.by_.drewN q))
          rw [decide_eq_true (rfl : bo = bo)] at HEq
          clear h0 h1 h2 h3 p0 p1 p2 p3 p4 p5 p6 p7 p8 pf hpb hPd8 hrk2 hel2 hy2 hy hiv hil him hown2 hv2 hq hbd HHd7 HR hgs y3 yf HY2 HY3 e1 e2 e1' e2' hnx hu1
          obtain ⟨h0, h1, h2, h3, -⟩ := blk4 hX8
          go_upto_region 18 with (fail)
          go_quiet (first | (go_at_call 41; exact Calls.quiet_of (HEq.out _)))
          go_wp2
          go_ret
          exact ⟨rfl, _, _, r', _, HPf.out.drewN nq, HPd.out, HHs.out⟩
end Go.Proofs.YtbcpoejpbhpcbaaDoor
