import Derived.Deep.CutRange
import Derived.Test.YtjcdnclfakmbpaaGreatDoorExI
import Derived.Deep.AppendLies
import Derived.BigQuiet
namespace Go.Proofs.YtjcdnclfakmbpaaGreatDoor
open Go.RowKit
set_option maxRecDepth 100000 in
set_option maxHeartbeats 8000000 in
set_option linter.unusedSimpArgs false in
theorem hearW1 (w0 w : World) (K : Knd) (wb : Nat) (Y : Pw.Wc) (A B : Lk) (es : List Fe) (xn bn st : Nat) (h : Wm w0 w K wb Y A A B B es xn bn st) (hr : Rn B st) (hst : st ≤ 100000) (hxn : xn ≤ 10000) (ht : Y.turn ≤ 100000) (f0 f1 : Int) (mine yours seq ack nb c : Nat) (sp : Option Addr) (bo : List Nat) (hnb : bo.length = nb) (hlen : nb ≤ 140737488351232) (hx : Sx w K sp bo) :
    Calls Tryz.prog 26 #[.pointer (some ⟨wb, 0, none⟩), .int .i64 1, .agg #[.int .i64 f0, .int .i64 f1, .int .u64 (mine : Int), .int .u64 (yours : Int), .int .u64 (seq : Int), .int .u64 (ack : Int), .slice sp nb c]] w fun e w' => e = .returned (.bool true) ∧ ∃ K' A2 xs t1 t2 t3, HrR B ⟨f0, f1, mine, yours, seq, ack, bo⟩ A2 xs t1 t2 t3 ∧ Wm w0 w' K' wb { Y with turn := Y.turn + 1 } A A A2 A2 es (xn + 1) bn st ∧ Kp (PH 1) K K' w w' := by
  obtain ⟨w1, hw1⟩ : ∃ w1, (w.alloc (.cells #[.int .i64 f0, .int .i64 f1, .int .u64 (mine : Int), .int .u64 (yours : Int), .int .u64 (seq : Int), .int .u64 (ack : Int), .slice sp nb c] 33)).alloc (.cells #[.int .i64 f0, .int .i64 f1, .int .u64 (mine : Int), .int .u64 (yours : Int), .int .u64 (seq : Int), .int .u64 (ack : Int), .slice sp nb c] 33) = w1 := ⟨_, rfl⟩
  obtain ⟨fb, hfb⟩ : ∃ fb, w.heap.size = fb := ⟨_, rfl⟩
  have hb1 : Below w.heap.size w w1 := by rw [← hw1]; exact ((Below.refl _ _).alloc (Nat.le_refl _) _).alloc (by simp) _
  have hk2 : w1.heap[fb + 1]? = some (.cells #[.int .i64 f0, .int .i64 f1, .int .u64 (mine : Int), .int .u64 (yours : Int), .int .u64 (seq : Int), .int .u64 (ack : Int), .slice sp nb c] 33 (0, 0)) := by rw [← hw1, ← hfb]; exact heap_alloc2_new w _ _
  have hk1 : w1.heap[fb]? = some (.cells #[.int .i64 f0, .int .i64 f1, .int .u64 (mine : Int), .int .u64 (yours : Int), .int .u64 (seq : Int), .int .u64 (ack : Int), .slice sp nb c] 33 (0, 0)) := by
    rw [← hw1, ← hfb, Below.heap_alloc _ _ _ (by simp)]; exact heap_alloc_new _ _
  have mb1 : Kp (fun _ => False) K (ext K w.heap.size (9, 9)) w w1 := kp_below hb1 _ _ _
  obtain ⟨K1, hK1⟩ : ∃ K1, ext K w.heap.size (9, 9) = K1 := ⟨_, rfl⟩
  have hBf : Bq w1 K1 fb #[.int .i64 f0, .int .i64 f1, .int .u64 (mine : Int), .int .u64 (yours : Int), .int .u64 (seq : Int), .int .u64 (ack : Int), .slice sp nb c] 33 := ⟨hk1, by rw [← hK1]; exact ext_new _ _ (by omega)⟩
  have hBg : Bq w1 K1 (fb + 1) #[.int .i64 f0, .int .i64 f1, .int .u64 (mine : Int), .int .u64 (yours : Int), .int .u64 (seq : Int), .int .u64 (ack : Int), .slice sp nb c] 33 := ⟨hk2, by rw [← hK1]; exact ext_new _ _ (by omega)⟩
  rw [hK1] at mb1
  have hW1 := h.k9 mb1 (fun _ e => e.elim)
  have hS1 := hx.kp mb1 (fun e => e) (fun e => e)
  have HKp1 := hide (mb1.mono (q := PH 1) (fun _ e => e.elim))
  have HSz1 := hide hb1.size
  have HC := hide (given_any w0 w1 K1 wb Y _ _ _ _ es xn bn st hW1 ht sp nb c bo hS1.by_ hnb hlen (fun q e hn => ⟨(hS1.kind q e hn).1, by rcases (hS1.kind q e hn).2 with r | r <;> rw [r] <;> simp⟩))
  have HBf := hide hBf
  have HBg := hide hBg
  have HS1 := hide hS1
  have HR := hide hr
  have HNb := hide hnb
  have HW := hide hw1
  have hFb := hide hfb
  obtain ⟨f0c, f1c, f2c, f3c, f4c, f5c, f6c, ffz⟩ := blk7 hk1
  obtain ⟨g0c, g1c, g2c, g3c, g4c, g5c, g6c, gfz⟩ := blk7 hk2
  have hgl := C.lt_of_block hk2
  clear hw1 hb1 hk1 hk2 mb1 hK1 hBf hBg hW1 hS1 h hr hx hnb
  go_enter Tryz.func26, Tryz.ntmps26
  go_upto_region 2 with (fail)
  rw [HW.out]
  go_wp2_with fail
  refine HC.out.mono ?_
  rintro e w2 ⟨K2, a5, c5, rfl, hW2, hG2, hkp2⟩
  obtain ⟨Y1, hY1⟩ : ∃ Y1 : Pw.Wc, { Y with turn := Y.turn + 1 } = Y1 := ⟨_, rfl⟩
  have ht1 : Y1.turn ≤ 200000 := by rw [← hY1]; show Y.turn + 1 ≤ 200000; omega
  rw [hY1] at hW2 hG2
  have HYe := hide hY1
  have HBf2 := hide (HBf.out.kp hkp2 (by simp [U.P8]))
  have HKp2 := hide (HKp1.out.trans (hkp2.mono (q := PH 1) (fun q e => Or.inl e)))
  have hBg2 := HBg.out.kp hkp2 (by simp [U.P8])
  have hS2 := HS1.out.kp hkp2 (by simp [U.P8]) (by simp [U.P8])
  clear f0c f1c f2c f3c f4c f5c f6c ffz g0c g1c g2c g3c g4c g5c g6c gfz hgl HC HW HBf HBg HS1 hkp2 hY1
  obtain ⟨-, -, -, -, -, -, g6c, gfz⟩ := blk7 hBg2.blk
  have hgl := hBg2.lt
  obtain ⟨w3, hw3⟩ : ∃ w3, w2.setCell ⟨fb + 1, 6, none⟩ (.slice a5 nb c5) = w3 := ⟨_, rfl⟩
  have m3 : Kp (fun q => q = (9, 9)) K2 K2 w2 w3 := by rw [← hw3]; exact kp99 hBg2.kind
  have HW3 := hide (hW2.k9 m3 (fun q e => by subst e; rfl))
  have HG3 := hide (hG2.kp m3 (by simp) (by simp))
  have HS3 := hide (hS2.kp m3 (by simp) (by simp))
  have HBf3 : Hid (Bq w3 K2 fb #[.int .i64 f0, .int .i64 f1, .int .u64 (mine : Int), .int .u64 (yours : Int), .int .u64 (seq : Int), .int .u64 (ack : Int), .slice sp nb c] 33) := by show Bq _ _ _ _ _; rw [← hw3]; exact HBf2.out.other (by omega)
  have HBg3 : Hid (Bq w3 K2 (fb + 1) #[.int .i64 f0, .int .i64 f1, .int .u64 (mine : Int), .int .u64 (yours : Int), .int .u64 (seq : Int), .int .u64 (ack : Int), .slice a5 nb c5] 33) := ⟨by rw [← hw3]; exact C.block_set hBg2.blk _, hBg2.kind⟩
  have HKp3 : Hid (Kp (PH 1) K K2 w w3) := by show Kp _ _ _ _ _; rw [← hw3]; exact HKp2.out.setCell (b := fb + 1) (Or.inl (by have := hFb.out; omega)) _ _
  have HWw := hide hw3
  clear hw3 m3 hW2 hG2 hS2 hBg2 HBf2
  go_upto_region 3 with (fail)
  rw [HWw.out]
  clear g6c gfz hgl HWw
  obtain ⟨O, I, hwb, -⟩ := HW3.out.blk
  obtain ⟨-, -, -, -, -, -, wc6, wc7, wc8, wc9, -, -, wc12, -, -⟩ := cellW hwb
  obtain ⟨ll, hll⟩ : ∃ ll, Y1.l1 = ll := ⟨_, rfl⟩
  obtain ⟨kk, hkk⟩ : ∃ kk, Y1.k1 = kk := ⟨_, rfl⟩
  rw [hll] at wc7
  have HLl := hide hll
  have HKk := hide hkk
  have hwl := C.lt_of_block hwb
  obtain ⟨g0, g1, g2, g3, g4, g5, g6, -⟩ := blk7 HBg3.out.blk
  have hgl := HBg3.out.lt
  obtain ⟨Kz, hKz⟩ : ∃ Kz, ext K2 w3.heap.size (9, 9) = Kz := ⟨_, rfl⟩
  have HZn : Hid (Kz w3.heap.size = (9, 9)) := by show _ = _; rw [← hKz]; exact ext_new _ _ (Nat.le_refl _)
  have ma : Kp (fun _ => False) K2 Kz w3 w3.drew := by rw [← hKz]; exact kp_below ((Below.refl _ _).drew) _ _ _
  have mb : ∀ bl, Kp (fun _ => False) K2 Kz w3 (w3.alloc bl).drew := fun bl => by rw [← hKz]; exact kp_below (((Below.refl _ _).alloc (Nat.le_refl _) bl).drew) _ _ _
  have HMa := hide ma
  have HMb := hide mb
  have HNa := hide (ma.mono (q := PH 1) (fun _ e => e.elim))
  have HNb2 : Hid (∀ bl, Kp (PH 1) K2 Kz w3 (w3.alloc bl).drew) := fun bl => (mb bl).mono (fun _ e => e.elim)
  have HZw : Hid (w.heap.size ≤ w3.heap.size) := HKp3.out.size
  have HH : Hid (∀ w' : World, Kp (fun _ => False) K2 Kz w3 w' → Calls Tryz.prog 58 #[.pointer (some ⟨ll, 0, none⟩), .agg #[.int .i64 f0, .int .i64 f1, .int .u64 (mine : Int), .int .u64 (yours : Int), .int .u64 (seq : Int), .int .u64 (ack : Int), .slice a5 nb c5]] w' fun e w'' => ∃ (a : Option Addr) (m cc : Nat) (A2 : Lk) (xs : List Nat) (t1 t2 t3 : Bool), e = .returned (.agg #[.slice a m cc, .bool t1, .bool t2, .bool t3]) ∧ Hid (HrR B ⟨f0, f1, mine, yours, seq, ack, bo⟩ A2 xs t1 t2 t3) ∧ Hid (Ax w'' (ext Kz w'.heap.size (7, xn)) xn a m cc xs) ∧ Hid (Wm w0 w'' (ext Kz w'.heap.size (7, xn)) wb Y1 A A A2 B es xn bn st) ∧ Kp (fun q => q = (1, 1)) Kz (ext Kz w'.heap.size (7, xn)) w' w'') := fun w' mw => by
    have hw' := HW3.out.k9 mw (fun _ e => e.elim)
    have hg' := HG3.out.kp mw (fun e => e) (fun _ e => e)
    obtain ⟨rv, hlx⟩ := hw'.lb
    rw [HLl.out] at hlx
    have hby := hg'.by
    refine (phear_x hlx HR.out (by omega) ⟨f0, f1, mine, yours, seq, ack, bo⟩ a5 nb c5 HNb.out hby.1 (fun q e => by rcases hby.2 q e with r | r <;> rw [r] <;> simp) (7, xn)).mono ?_
    rintro e w'' ⟨a, m, cc, A2, xs, t1, t2, t3, rfl, hh, hlm, hrow, hla, hkp⟩
    refine ⟨a, m, cc, A2, xs, t1, t2, t3, rfl, hh, ⟨Q.ownsQ_of (owns_bs2 hrow (Nat.zero_le _)), fun g e => ?_, hlm, (hh.small hby.1.small).1⟩, hw'.tlb hkp (by simp) (fun j => by simp) (by simp) (by simp) (by simp) (by simp) (by simp) (by simp) (by simp) (by simp) (fun j => by simp) (fun j => by simp) (by rw [HLl.out]; exact hla), hkp⟩
    rcases hrow.2 with ⟨e1, _⟩ | ⟨g', cap, cur, e1, e2, _⟩
    · rw [e1] at e; cases e
    · rw [e1] at e; cases e; exact ext_new _ _ e2
  have n1 : w3.heap.size ≠ wb := by omega
  have n2 : w3.heap.size ≠ fb + 1 := by omega
  clear hKz ma mb hwb hll hkk
  go_cut [8] from 17 to 24 (fun s8 wc => ∃ (hx : Nat) (a : Option Addr) (m cc : Nat) (A2 : Lk) (xs : List Nat) (t1 t2 t3 : Bool) (K5 : Knd), s8 = .pointer (some ⟨hx, 0, none⟩) ∧ Hid (Bq wc K5 hx #[.slice a m cc, .bool t1, .bool t2, .bool t3] 127) ∧ Hid (HrR B ⟨f0, f1, mine, yours, seq, ack, bo⟩ A2 xs t1 t2 t3) ∧ Hid (Ax wc K5 xn a m cc xs) ∧ Hid (Wm w0 wc K5 wb Y1 A A A2 B es xn bn st) ∧ Hid (Gd Y1 wc K5 wb a5 nb c5 bo) ∧ Hid (Sx wc K5 sp bo) ∧ Hid (Bq wc K5 fb #[.int .i64 f0, .int .i64 f1, .int .u64 (mine : Int), .int .u64 (yours : Int), .int .u64 (seq : Int), .int .u64 (ack : Int), .slice sp nb c] 33) ∧ Hid (Bq wc K5 (fb + 1) #[.int .i64 f0, .int .i64 f1, .int .u64 (mine : Int), .int .u64 (yours : Int), .int .u64 (seq : Int), .int .u64 (ack : Int), .slice a5 nb c5] 33) ∧ Hid (Kp (PH 1) K K5 w wc))
  case first =>
    go_region_held3 (fun w' => w'.cell? ⟨wb, 7, none⟩ = some (.pointer (some ⟨ll, 0, none⟩)) ∧ w'.cell? ⟨fb + 1, 0, none⟩ = some (.int .i64 f0) ∧ w'.cell? ⟨fb + 1, 1, none⟩ = some (.int .i64 f1) ∧ w'.cell? ⟨fb + 1, 2, none⟩ = some (.int .u64 (mine : Int)) ∧ w'.cell? ⟨fb + 1, 3, none⟩ = some (.int .u64 (yours : Int)) ∧ w'.cell? ⟨fb + 1, 4, none⟩ = some (.int .u64 (seq : Int)) ∧ w'.cell? ⟨fb + 1, 5, none⟩ = some (.int .u64 (ack : Int)) ∧ w'.cell? ⟨fb + 1, 6, none⟩ = some (.slice a5 nb c5)) (go_keep) (first | (go_at_call 58; refine (HH.out _ (by first | with_reducible exact HMa.out | exact HMb.out _)).mono ?_; rintro e w5 ⟨a, m, cc, A2, xs, t1, t2, t3, rfl, HHr, HAx, HW5, hkp5⟩; have mk5 := hkp5; have hG5 := ((HBg3.out.kp (by first | with_reducible exact HMa.out | exact HMb.out _) (fun e => e)).kp hkp5 (by simp)); have hF5 := ((HBf3.out.kp (by first | with_reducible exact HMa.out | exact HMb.out _) (fun e => e)).kp hkp5 (by simp)); have hGd5 := ((HG3.out.kp (by first | with_reducible exact HMa.out | exact HMb.out _) (fun e => e) (fun _ e => e)).kp hkp5 (by simp) (by simp)); have hS5 := ((HS3.out.kp (by first | with_reducible exact HMa.out | exact HMb.out _) (fun e => e) (fun e => e)).kp hkp5 (by simp) (by simp)); obtain ⟨g0n, g1n, g2n, g3n, g4n, g5n, g6n, -⟩ := blk7 hG5.blk; obtain ⟨O5, I5, hwb5, -⟩ := HW5.out.blk; obtain ⟨-, -, -, -, -, -, wn6, wn7, -⟩ := cellW hwb5; rw [HLl.out] at wn7; (first | (have hz5 := (hkp5.block w3.heap.size (by simp) (by rw [HZn.out]; simp)).trans (heap_alloc_new _ _); have hkz5 := ((hkp5.same w3.heap.size (by simp)).trans HZn.out); obtain ⟨zz0, zz1, zz2, zz3, zzf⟩ := blk4 hz5; have HZ5 := hide hz5; have HKz5 := hide hkz5; clear hz5 hkz5) | skip); have HKp5 := hide ((HKp3.out.trans (by first | with_reducible exact HNa.out | exact HNb2.out _)).trans (hkp5.mono (q := PH 1) (fun q e => Or.inr (Or.inr (Or.inl e))))); have HG5 := hide hG5; have HF5 := hide hF5; have HGd5 := hide hGd5; have HS5 := hide hS5; have hs5 : w3.heap.size ≤ w5.heap.size := (by have := hkp5.size; simp at this; omega); clear hkp5 mk5 hG5 hF5 hGd5 hS5 hwb5))
    all_goals go_wp2_with fail
    all_goals go_meet
    · have hb6 : Below w5.heap.size w5 (w5.alloc (.cells #[.slice a m cc, .bool t1, .bool t2, .bool t3] 127)) := (Below.refl _ _).alloc (Nat.le_refl _) _
      have m6 : ∀ KK : Knd, Kp (fun _ => False) KK (ext KK w5.heap.size (9, 9)) w5 (w5.alloc (.cells #[.slice a m cc, .bool t1, .bool t2, .bool t3] 127)) := fun KK => kp_below hb6 _ KK (9, 9)
      exact ⟨w5.heap.size, a, m, cc, A2, xs, t1, t2, t3, _, rfl, ⟨heap_alloc_new _ _, ext_new _ _ (Nat.le_refl _)⟩, HHr, HAx.out.kp (m6 _) (fun e => e), HW5.out.k9 (m6 _) (fun _ e => e.elim), HGd5.out.kp (m6 _) (fun e => e) (fun _ e => e), HS5.out.kp (m6 _) (fun e => e) (fun e => e), HF5.out.kp (m6 _) (fun e => e), HG5.out.kp (m6 _) (fun e => e), HKp5.out.trans ((m6 _).mono (fun _ e => e.elim))⟩
    · have hm6 := ((((Kp.refl (fun q => q = (9, 9)) _ w5).setCell (b := w3.heap.size) (Or.inr HKz5.out) 0 (.slice a m cc)).setCell (b := w3.heap.size) (Or.inr HKz5.out) 1 (.bool t1)).setCell (b := w3.heap.size) (Or.inr HKz5.out) 2 (.bool t2)).setCell (b := w3.heap.size) (Or.inr HKz5.out) 3 (.bool t3)
      have hfn : fb ≠ w3.heap.size := by have := HBf3.out.lt; omega
      exact ⟨w3.heap.size, a, m, cc, A2, xs, t1, t2, t3, _, rfl, ⟨put4z HZ5.out _ _ _ _, HKz5.out⟩, HHr, HAx.out.kp hm6 (by simp), HW5.out.k9 hm6 (fun q e => by subst e; rfl), HGd5.out.kp hm6 (by simp) (by simp), HS5.out.kp hm6 (by simp) (by simp), (((HF5.out.other hfn).other hfn).other hfn).other hfn, (((HG5.out.other n2.symm).other n2.symm).other n2.symm).other n2.symm, (((HKp5.out.setCell (b := w3.heap.size) (Or.inl HZw.out) _ _).setCell (b := w3.heap.size) (Or.inl HZw.out) _ _).setCell (b := w3.heap.size) (Or.inl HZw.out) _ _).setCell (b := w3.heap.size) (Or.inl HZw.out) _ _⟩
  case rest =>
    obtain ⟨hx, a, m, cc, A2, xs, t1, t2, t3, K5, rfl, HBh, HHr, HAx, HW5, HGd, HSx, HF5, HG5, HKp5⟩ := hcut
    have HLen : Hid (m ≤ 140737488351232) := by
      have q1 := (HHr.out.small HSx.out.by_.small).2
      have q2 := HAx.out.len
      have q3 : bo.length = nb := HNb.out
      have q4 : xs.length ≤ bo.length := q1
      show _ ≤ _
      omega
    clear HH HMa HMb HNa HNb2 HZw HKp1 HKp2 HKp3 HZn HBf3 HBg3 HG3 HS3 HW3 g0 g1 g2 g3 g4 g5 g6 hgl wc6 wc7 wc8 wc9 wc12 n1 n2 hwl
    obtain ⟨w5, hw5⟩ : ∃ w5, wc = w5 := ⟨_, rfl⟩
    rw [hw5] at HBh HAx HW5 HGd HSx HF5 HG5 HKp5 ⊢
    clear hw5
    obtain ⟨-, -, -, -, -, -, f6c, -⟩ := blk7 HF5.out.blk
    obtain ⟨-, -, -, -, -, -, g6c, -⟩ := blk7 HG5.out.blk
    have HKe := hide (kept_any w0 w5 K5 wb Y1 _ _ _ _ es xn bn st HW5.out ht1 a5 sp nb c5 c bo HGd.out HSx.out.by_ HNb.out hlen)
    go_wp2_with fail
    refine HKe.out.mono ?_
    rintro e w6 ⟨rfl, hW6, hkp6⟩
    have HW6 := hide hW6
    have HKp6 := hide (HKp5.out.trans (hkp6.mono (q := PH 1) (fun q e => e.elim Or.inl (fun e => Or.inr (Or.inl e)))))
    have HZw : Hid (w.heap.size ≤ w6.heap.size) := HKp6.out.size
    have HBh6 := hide (HBh.out.kp hkp6 (by simp [P89]))
    have HAx6 := hide (HAx.out.kp hkp6 (by simp [P89]))
    have HSx6 := hide (HSx.out.kp hkp6 (by simp [P89]) (by simp [P89]))
    have HF6 := hide (HF5.out.kp hkp6 (by simp [P89]))
    clear hW6 hkp6 HKe HBh HAx HW5 HGd HSx HF5 HG5 f6c g6c
    obtain ⟨O, I, hwb, -⟩ := HW6.out.blk
    obtain ⟨-, -, -, -, -, -, wc6, wc7, wc8, wc9, -, -, wc12, -, -⟩ := cellW hwb
    rw [HKk.out] at wc9
    have hwl := C.lt_of_block hwb
    obtain ⟨g0, g1, g2, g3, g4, g5, g6, -⟩ := blk7 HF6.out.blk
    have hgl := HF6.out.lt
    obtain ⟨Kz, hKz⟩ : ∃ Kz, ext K5 w6.heap.size (9, 9) = Kz := ⟨_, rfl⟩
    have HZn : Hid (Kz w6.heap.size = (9, 9)) := by show _ = _; rw [← hKz]; exact ext_new _ _ (Nat.le_refl _)
    have ma : Kp (fun _ => False) K5 Kz w6 w6.drew := by rw [← hKz]; exact kp_below ((Below.refl _ _).drew) _ _ _
    have mb : ∀ bl, Kp (fun _ => False) K5 Kz w6 (w6.alloc bl).drew := fun bl => by rw [← hKz]; exact kp_below (((Below.refl _ _).alloc (Nat.le_refl _) bl).drew) _ _ _
    have HMa := hide ma
    have HMb := hide mb
    have HNa := hide (ma.mono (q := PH 1) (fun _ e => e.elim))
    have HNb2 : Hid (∀ bl, Kp (PH 1) K5 Kz w6 (w6.alloc bl).drew) := fun bl => (mb bl).mono (fun _ e => e.elim)
    have HH : Hid (∀ w' : World, Kp (fun _ => False) K5 Kz w6 w' → Calls Tryz.prog 59 #[.pointer (some ⟨kk, 0, none⟩), .agg #[.int .i64 f0, .int .i64 f1, .int .u64 (mine : Int), .int .u64 (yours : Int), .int .u64 (seq : Int), .int .u64 (ack : Int), .slice sp nb c]] w' fun e w'' => ∃ (a6 : Option Addr) (cc6 : Nat), e = .returned (.agg #[.slice a6 m cc6, .bool t1, .bool t2, .bool t3]) ∧ Hid (Dx w'' (ext Kz w'.heap.size (3, 1)) a6 xs (3, 1)) ∧ Hid (Wm w0 w'' (ext Kz w'.heap.size (3, 1)) wb Y1 A A A2 A2 es xn bn st) ∧ Kp (fun q => q = (3, 1)) Kz (ext Kz w'.heap.size (3, 1)) w' w'') := fun w' mw => by
      have hw' := HW6.out.k9 mw (fun _ e => e.elim)
      have hs' := HSx6.out.kp mw (fun e => e) (fun e => e)
      obtain ⟨rv, t, hdk, htl⟩ := hw'.kb
      rw [HKk.out] at hdk
      refine (dhear_x (by simp) hdk HR.out (by omega) ⟨f0, f1, mine, yours, seq, ack, bo⟩ sp nb c HNb.out hs'.by_ (fun q e hn => by rcases (hs'.kind q e hn).2 with r | r <;> rw [r] <;> simp) htl).mono ?_
      rintro e w'' ⟨a6, m6, cc6, A6, xs6, u1, u2, u3, rfl, hh, hlm, hby, hlo, hda, hkp⟩
      obtain ⟨rfl, rfl, rfl, rfl, rfl⟩ := HHr.out.uni hh
      have hm6 : m6 = m := by rw [← hlm]; exact HAx6.out.len
      subst hm6
      exact ⟨a6, cc6, rfl, dx_new hby hlo, hw'.tkb hkp (by simp) (fun j => by simp) (by simp) (by simp) (by simp) (by simp) (by simp) (by simp) (by simp) (fun j => by simp) (fun j => by simp) (by rw [HKk.out]; exact hda), hkp⟩
    have n1 : w6.heap.size ≠ wb := by omega
    have n2 : w6.heap.size ≠ fb := by omega
    have n3 : hx ≠ w6.heap.size := by have := HBh6.out.lt; omega
    clear hKz ma mb hwb
    go_upto_region 5 with (fail)
    go_cut [10] from 31 to 38 (fun s10 wc => ∃ (xx : Nat) (a6 : Option Addr) (cc6 : Nat) (K7 : Knd), s10 = .pointer (some ⟨xx, 0, none⟩) ∧ Hid (Bq wc K7 xx #[.slice a6 m cc6, .bool t1, .bool t2, .bool t3] 129) ∧ Hid (Dx wc K7 a6 xs (3, 1)) ∧ Hid (Wm w0 wc K7 wb Y1 A A A2 A2 es xn bn st) ∧ Hid (Bq wc K7 hx #[.slice a m cc, .bool t1, .bool t2, .bool t3] 127) ∧ Hid (Ax wc K7 xn a m cc xs) ∧ Hid (Kp (PH 1) K K7 w wc))
    case first =>
      go_region_held3 (fun w' => w'.cell? ⟨wb, 9, none⟩ = some (.pointer (some ⟨kk, 0, none⟩)) ∧ w'.cell? ⟨fb, 0, none⟩ = some (.int .i64 f0) ∧ w'.cell? ⟨fb, 1, none⟩ = some (.int .i64 f1) ∧ w'.cell? ⟨fb, 2, none⟩ = some (.int .u64 (mine : Int)) ∧ w'.cell? ⟨fb, 3, none⟩ = some (.int .u64 (yours : Int)) ∧ w'.cell? ⟨fb, 4, none⟩ = some (.int .u64 (seq : Int)) ∧ w'.cell? ⟨fb, 5, none⟩ = some (.int .u64 (ack : Int)) ∧ w'.cell? ⟨fb, 6, none⟩ = some (.slice sp nb c)) (go_keep) (first | (go_at_call 59; refine (HH.out _ (by first | with_reducible exact HMa.out | exact HMb.out _)).mono ?_; rintro e w7 ⟨a6, cc6, rfl, HDx, HW7, hkp5⟩; have mk5 := hkp5; have hF5 := ((HF6.out.kp (by first | with_reducible exact HMa.out | exact HMb.out _) (fun e => e)).kp hkp5 (by simp)); have hB5 := ((HBh6.out.kp (by first | with_reducible exact HMa.out | exact HMb.out _) (fun e => e)).kp hkp5 (by simp)); have hA5 := ((HAx6.out.kp (by first | with_reducible exact HMa.out | exact HMb.out _) (fun e => e)).kp hkp5 (by simp)); obtain ⟨g0n, g1n, g2n, g3n, g4n, g5n, g6n, -⟩ := blk7 hF5.blk; obtain ⟨O5, I5, hwb5, -⟩ := HW7.out.blk; obtain ⟨-, -, -, -, -, -, -, -, wn8, wn9, -⟩ := cellW hwb5; rw [HKk.out] at wn9; (first | (have hz5 := (hkp5.block w6.heap.size (by simp) (by rw [HZn.out]; simp)).trans (heap_alloc_new _ _); have hkz5 := ((hkp5.same w6.heap.size (by simp)).trans HZn.out); obtain ⟨zz0, zz1, zz2, zz3, zzf⟩ := blk4 hz5; have HZ5 := hide hz5; have HKz5 := hide hkz5; clear hz5 hkz5) | skip); have HKp7 := hide ((HKp6.out.trans (by first | with_reducible exact HNa.out | exact HNb2.out _)).trans (hkp5.mono (q := PH 1) (fun q e => Or.inr (Or.inr (Or.inr (Or.inl e)))))); have HB5 := hide hB5; have HA5 := hide hA5; have hs5 : w6.heap.size ≤ w7.heap.size := (by have := hkp5.size; simp at this; omega); clear hkp5 mk5 hF5 hB5 hA5 hwb5))
      all_goals go_wp2_with fail
      all_goals go_meet
      · have hb6 : Below w7.heap.size w7 (w7.alloc (.cells #[.slice a6 m cc6, .bool t1, .bool t2, .bool t3] 129)) := (Below.refl _ _).alloc (Nat.le_refl _) _
        have m6 : ∀ KK : Knd, Kp (fun _ => False) KK (ext KK w7.heap.size (9, 9)) w7 (w7.alloc (.cells #[.slice a6 m cc6, .bool t1, .bool t2, .bool t3] 129)) := fun KK => kp_below hb6 _ KK (9, 9)
        exact ⟨w7.heap.size, a6, cc6, _, rfl, ⟨heap_alloc_new _ _, ext_new _ _ (Nat.le_refl _)⟩, HDx.out.kp (m6 _) (fun e => e), HW7.out.k9 (m6 _) (fun _ e => e.elim), HB5.out.kp (m6 _) (fun e => e), HA5.out.kp (m6 _) (fun e => e), HKp7.out.trans ((m6 _).mono (fun _ e => e.elim))⟩
      · have hm6 := ((((Kp.refl (fun q => q = (9, 9)) _ w7).setCell (b := w6.heap.size) (Or.inr HKz5.out) 0 (.slice a6 m cc6)).setCell (b := w6.heap.size) (Or.inr HKz5.out) 1 (.bool t1)).setCell (b := w6.heap.size) (Or.inr HKz5.out) 2 (.bool t2)).setCell (b := w6.heap.size) (Or.inr HKz5.out) 3 (.bool t3)
        exact ⟨w6.heap.size, a6, cc6, _, rfl, ⟨put4z HZ5.out _ _ _ _, HKz5.out⟩, HDx.out.kp hm6 (by simp), HW7.out.k9 hm6 (fun q e => by subst e; rfl), (((HB5.out.other n3).other n3).other n3).other n3, HA5.out.kp hm6 (by simp), (((HKp7.out.setCell (b := w6.heap.size) (Or.inl HZw.out) _ _).setCell (b := w6.heap.size) (Or.inl HZw.out) _ _).setCell (b := w6.heap.size) (Or.inl HZw.out) _ _).setCell (b := w6.heap.size) (Or.inl HZw.out) _ _⟩
    case rest =>
      obtain ⟨xx, a6, cc6, K7, rfl, HBx, HDx, HW7, HBh, HAx, HKp7⟩ := hcut
      clear HH HMa HMb HNa HNb2 HZn HZw HKp6 HKp5 HW6 HBh6 HAx6 HSx6 HF6 g0 g1 g2 g3 g4 g5 g6 hgl wc6 wc7 wc8 wc9 wc12 n1 n2 n3 hwl
      obtain ⟨w7, hw7⟩ : ∃ w7, wc = w7 := ⟨_, rfl⟩
      rw [hw7] at HBx HDx HW7 HBh HAx HKp7 ⊢
      clear hw7
      obtain ⟨G, V, xl, hlt, hxl⟩ := HW7.out.late
      obtain ⟨O, I, hwb, -⟩ := HW7.out.blk
      obtain ⟨-, -, -, -, -, -, -, -, -, -, -, -, wc12, -, -⟩ := cellW hwb
      obtain ⟨tt, htt⟩ : ∃ tt, Y1.lb = tt := ⟨_, rfl⟩
      rw [htt] at wc12 hlt
      have HTt := hide htt
      have hwl := C.lt_of_block hwb
      obtain ⟨h0, h1, h2, h3, -⟩ := blk4 HBh.out.blk
      obtain ⟨x0, x1, x2, x3, -⟩ := blk4 HBx.out.blk
      have hhl := HBh.out.lt
      have hxl9 := HBx.out.lt
      have HMa : Hid (Kp (fun _ => False) K7 K7 w7 w7.drew) := (Kp.refl _ _ _).drew
      have HLt := hide hlt
      have HXl := hide hxl
      have HL : Hid (∀ w' : World, Kp (fun _ => False) K7 K7 w7 w' → Calls Tryz.prog 60 #[.pointer (some ⟨tt, 0, none⟩), .slice a m cc, .slice a6 m cc6] w' fun e w'' => e = .returned (.tuple #[]) ∧ Hid (Wm w0 w'' (ext K7 w'.heap.size (6, 0)) wb Y1 A A A2 A2 es (xn + 1) bn st) ∧ Kp (fun q => q = (6, 0)) K7 (ext K7 w'.heap.size (6, 0)) w' w'') := fun w' mw => by
        have hlt' := HLt.out.keep mw (fun e => e) (fun _ _ e => e)
        have hax' := HAx.out.kp mw (fun e => e)
        have hdx' := HDx.out.kp mw (fun e => e)
        have hm2 := HLen.out
        refine (Q.late_add K7 w' tt G V xl a m cc xs a6 cc6 hlt' hax'.row (fun g e => by rw [HXl.out]; exact hax'.kind g e) (hdx'.bytesS (by simp)) (by omega) (by rw [HXl.out]; omega)).mono ?_
        rintro e w'' ⟨rfl, G', V', wp, wcc, hl', hkp⟩
        exact ⟨rfl, (HW7.out.k9 mw (fun _ e => e.elim)).tlate hkp (by simp) (fun j => by simp) (by simp) (by simp) (by simp) (by simp) (by simp) (by simp) (by simp) (by simp) (fun j => by simp) ⟨G', V', _, by rw [HTt.out]; exact hl', by simp [HXl.out]⟩, hkp⟩
      clear hlt hxl hwb htt
      go_upto_region 6 with (fail)
      go_region_held3 (fun w' => w'.cell? ⟨wb, 12, none⟩ = some (.pointer (some ⟨tt, 0, none⟩)) ∧ w'.cell? ⟨hx, 0, none⟩ = some (.slice a m cc) ∧ w'.cell? ⟨xx, 0, none⟩ = some (.slice a6 m cc6)) (go_keep) (first | (go_at_call 60; refine (HL.out _ HMa.out).mono ?_; rintro e w8 ⟨rfl, HW8, hkp8⟩; have hB8 := (HBh.out.kp HMa.out (fun e => e)).kp hkp8 (by simp); have hX8 := (HBx.out.kp HMa.out (fun e => e)).kp hkp8 (by simp); have hA8 := (HAx.out.kp HMa.out (fun e => e)).kp hkp8 (by simp); have hD8 := (HDx.out.kp HMa.out (fun e => e)).kp hkp8 (by simp); obtain ⟨O8, I8, hwb8, -⟩ := HW8.out.blk; obtain ⟨-, -, -, -, -, -, -, -, -, -, -, -, wn12, -, -⟩ := cellW hwb8; rw [HTt.out] at wn12; obtain ⟨y0, y1, y2, y3, -⟩ := blk4 hB8.blk; obtain ⟨z0, z1, z2, z3, -⟩ := blk4 hX8.blk; have HKp8 := hide ((HKp7.out.trans (HMa.out.mono (q := PH 1) (fun _ e => e.elim))).trans (hkp8.mono (q := PH 1) (fun q e => Or.inr (Or.inr (Or.inr (Or.inr e)))))); have HB8 := hide hB8; have HX8 := hide hX8; have HA8 := hide hA8; have HD8 := hide hD8; clear hkp8 hB8 hX8 hA8 hD8 hwb8))
      have HEq := hide (eq_val w8 a a6 m m cc cc6 xs xs HAx.out.len HAx.out.len (by have := HLen.out; omega) (by have := HLen.out; omega) HA8.out.bytes HD8.out.bytes)
      rw [decide_eq_true rfl] at HEq
      have q1 : (t1 == t1) = true := by simp
      have q2 : (t2 == t2) = true := by simp
      have q3 : (t3 == t3) = true := by simp
      go_wp2_with fail
      refine HEq.out.mono ?_
      rintro e w9 ⟨rfl, q, rfl⟩
      have y1' : (w8.drewN q).cell? ⟨hx, 1, none⟩ = some (.bool t1) := y1
      have y2' : (w8.drewN q).cell? ⟨hx, 2, none⟩ = some (.bool t2) := y2
      have y3' : (w8.drewN q).cell? ⟨hx, 3, none⟩ = some (.bool t3) := y3
      have z1' : (w8.drewN q).cell? ⟨xx, 1, none⟩ = some (.bool t1) := z1
      have z2' : (w8.drewN q).cell? ⟨xx, 2, none⟩ = some (.bool t2) := z2
      have z3' : (w8.drewN q).cell? ⟨xx, 3, none⟩ = some (.bool t3) := z3
      have HWf := hide (HW8.out.drewN q)
      go_wp2
      go_ret
      exact ⟨rfl, _, A2, xs, t1, t2, t3, HHr.out, by rw [HYe.out]; exact HWf.out, HKp8.out.trans ((drew_kq w8 _ q).mono (fun _ e => e.elim))⟩
end Go.Proofs.YtjcdnclfakmbpaaGreatDoor
namespace Go.Proofs.YtjcdnclfakmbpaaGreatDoor
open Go.RowKit
set_option maxRecDepth 100000 in
set_option maxHeartbeats 8000000 in
set_option linter.unusedSimpArgs false in
theorem tickW1 (w0 w : World) (K : Knd) (wb : Nat) (Y : Pw.Wc) (A B : Lk) (es : List Fe) (xn bn st : Nat) (h : Wm w0 w K wb Y A A B B es xn bn st) (hr : Rn B st) (hst : st ≤ 100000) (hbn : bn ≤ 1000000) (hes : es.length ≤ 1000000) (hwin : B.window ≤ 16) :
    Calls Tryz.prog 27 #[.pointer (some ⟨wb, 0, none⟩), .int .i64 1] w fun e w' => e = .returned (.bool true) ∧ ∃ K' sv' fs, Wm w0 w' K' wb { Y with sv := sv' } A A (tickL B) (tickL B) (es ++ fs) xn (bn + 18) (st + 1) ∧ fs.length ≤ 17 := by
  obtain ⟨XX, LL, MM, tn, us, ks, rs, hbz, htn⟩ := h.book
  have hksB : ∀ k ∈ ks, ∀ g, k.val.ownBlock = some g → g < w.heap.size := fun k hk g e => Q.owns_lt (hbz.z.bk.rows k hk) g e
  have hrsB : ∀ k ∈ rs, ∀ g, k.val.ownBlock = some g → g < w.heap.size := fun k hk g e => (hbz.z.rz.rows k hk).lt g e
  have HKs := hide hksB
  have HRs := hide hrsB
  obtain ⟨O, I, hwb, -⟩ := h.blk
  obtain ⟨-, -, -, -, -, -, wc6, wc7, wc8, wc9, -, -, -, -, -⟩ := cellW hwb
  obtain ⟨ll, hll⟩ : ∃ ll, Y.l1 = ll := ⟨_, rfl⟩
  obtain ⟨kk, hkk⟩ : ∃ kk, Y.k1 = kk := ⟨_, rfl⟩
  have hpos := h.pos.2
  obtain ⟨rv, hlx⟩ := h.lb
  rw [hll] at wc7 hpos hlx
  have HLl := hide hll
  have HKk := hide hkk
  have HT1 := hide (ptick_x hlx hr (by omega) h.tb hpos)
  have H := hide h
  have HR := hide hr
  have HBz := hide hbz
  have hml := mid_win B
  obtain ⟨ps, hps⟩ : ∃ ps, midO B = ps := ⟨_, rfl⟩
  have hw0 : 0 ≤ B.window := hr.win
  have hpl : ps.length ≤ 17 := by rw [← hps]; omega
  have HPs := hide hps
  rw [hps] at HT1
  obtain ⟨B0, hB0⟩ : ∃ B0, w.heap.size = B0 := ⟨_, rfl⟩
  rw [hB0] at HT1 HKs HRs
  clear h hr hbz hlx hwb hll hkk hml hksB hrsB hps hB0 hw0
  go_enter Tryz.func27, Tryz.ntmps27
  go_wp2_with fail
  refine HT1.out.mono ?_
  rintro e w1 ⟨a, q, c, vs, K1, rfl, hto, hla, hkp1⟩
  have hW1 := (H.out.tlb hkp1 (by simp) (fun j => by simp) (by simp) (by simp) (by simp) (by simp) (by simp) (by simp) (by simp) (by simp) (fun j => by simp) (fun j => by simp) (by rw [HLl.out]; exact hla)).up
  have HTo := hide hto
  have HBz1 := hide (HBz.out.keep hkp1 (by simp) (by simp) (by simp) (by simp) (fun x e => by rw [e]; simp) (by simp))
  obtain ⟨O1, I1, hwb1, -⟩ := hW1.blk
  clear wc6 wc7 wc8 wc9
  obtain ⟨-, -, -, -, -, -, wc6, wc7, wc8, wc9, -, -, -, -, -⟩ := cellW hwb1
  obtain ⟨rv2, t2, hdk, htl⟩ := H.out.kb
  have hdk1 := hdk.kp hkp1 (by simp) (by simp)
  rw [HKk.out] at wc9 hdk1
  have HT2 := hide (dtick_x (i := st) (by simp) hdk1 HR.out (by omega) htl (by omega) (by omega))
  rw [HPs.out] at HT2
  have HW1 := hide hW1
  have hql : ps.length = q := hto.len
  subst hql
  clear hto hla hkp1 hW1 hwb1 hdk hdk1 HT1 HBz H
  go_wp2_with fail
  refine HT2.out.mono ?_
  rintro e w2 ⟨a2, c2, vs2, rfl, htd, hda, hkp2⟩
  have HW2 := hide (HW1.out.tkb hkp2 (by simp) (fun j => by simp) (by simp) (by simp) (by simp) (by simp) (by simp) (by simp) (by simp) (fun j => by simp) (fun j => by simp) (by rw [HKk.out]; exact hda))
  have HTo2 := hide (HTo.out.kp hkp2 (by simp) (by simp))
  have HBz2 := hide (HBz1.out.keep hkp2 (by simp) (by simp) (by simp) (by simp) (fun x e => by rw [e]; simp) (by simp))
  have HTd2 := hide htd
  have hz : ((ps.length : Int) != (ps.length : Int)) = false := by simp
  generalize ext K1 w1.heap.size (3, 1) = K2 at *
  clear htd hda hkp2 HT2 HW1 HTo HBz1 wc6 wc7 wc8 wc9
  go_wp2_with fail
  go_loopw [7] (fun s7 wr => ∃ (n : Nat) (K3 : Knd) (sv : Value) (fs : List Fe), n ≤ ps.length ∧ s7 = .int .i64 n ∧ Hid (fs.length = n) ∧ Hid (Wm w0 wr K3 wb { Y with sv := sv } A A (tickL B) (tickL B) (es ++ fs) xn bn (st + 1)) ∧ Hid (V.Bz (fun q => q = (5, 2)) K3 wr Y.bb XX LL MM tn us ks rs) ∧ Hid (To wr K3 B0 a ps.length c vs ps) ∧ Hid (Td wr K3 (3, 1) a2 ps.length c2 vs2 ps)) (fun s7 _ => ps.length - (intOf s7).toNat)
  case atStart => exact ⟨0, K2, Y.sv, [], Nat.zero_le _, rfl, rfl, (by show Wm w0 w2 K2 wb { Y with sv := Y.sv } A A (tickL B) (tickL B) (es ++ []) xn bn (st + 1); rw [List.append_nil]; exact HW2.out), HBz2, HTo2, HTd2⟩
  case round =>
    clear HW2 HTo2 HBz2 HTd2
    obtain ⟨n, K3, sv, fs, hn, rfl, HFs, HW, HB, HT, HD⟩ := hrel
    have i0 : (0 : Int) ≤ (n : Int) := by omega
    by_cases hlt : n < ps.length
    · have i1 : (n : Int) < (ps.length : Int) := by omega
      obtain ⟨p, hp⟩ : ∃ p, ps[n]? = some p := ⟨_, List.getElem?_eq_getElem hlt⟩
      obtain ⟨sp, v1, v2, v3⟩ := HT.out.el n p hp
      obtain ⟨b2, k2, u1, u2, u3⟩ := HD.out.el n p hp
      obtain ⟨ga, ca, ea, ca0⟩ := Q.row_cell HT.out.row (k := n) v1
      obtain ⟨gb, cb, eb, cb0⟩ := Q.row_cell (Q.ownsQ_of (z := false) HD.out.row) (k := n) u1
      cases ea
      cases eb
      obtain ⟨pl, hpl2⟩ : ∃ pl, p.length = pl := ⟨_, rfl⟩
      have hpb : pl ≤ 140737488351232 := by
        rw [← hpl2]
        have hm : p ∈ midO B := by rw [HPs.out]; exact List.mem_of_getElem? hp
        have hf : ∃ f, p = encB f := by
          unfold midO at hm
          split at hm
          · split at hm
            · simp at hm; exact ⟨_, hm⟩
            · cases hm
          · unfold bodO outs at hm
            obtain ⟨x, _, hx⟩ := List.mem_map.1 hm
            exact ⟨_, hx.symm⟩
        obtain ⟨f, hf⟩ := hf
        rw [hf]; have := encB_len f; omega
      rw [hpl2] at ca0 cb0 v2 u2
      have HEq : Hid (∀ k, Calls Tryz.prog 49 #[.slice sp pl pl, .slice b2 pl k2] (wr.drewN k) fun e w' => e = .returned (.bool true) ∧ ∃ j, w' = (wr.drewN k).drewN j) := fun k => by
        have := eq_val (wr.drewN k) sp b2 pl pl pl k2 p p hpl2 hpl2 (by omega) (by omega) ((Q.owns_bytes v2 rfl v3).drewN k) ((owns_bytes u2 u3).drewN k)
        rw [decide_eq_true rfl] at this
        exact this
      have HU2 := hide u2
      have HU3 := hide u3
      have HPl := hide hpl2
      clear hp v1 v2 v3 u1 u2 u3 hpl2
      go_upto_region 8 with (fail)
      go_quiet (first | (go_at_call 49; exact Calls.quiet_of (HEq.out _)))
      obtain ⟨wq, hwq⟩ : ∃ wq, wr.drewN nq = wq := ⟨_, rfl⟩
      have mq : Kp (fun _ => False) K3 K3 wr wq := by rw [← hwq]; exact drew_kq wr K3 nq
      have HWq := hide (HW.out.k9 mq (fun _ e => e.elim))
      have HBq := hide (HB.out.keep mq (fun e => e) (fun e => e) (fun e => e) (fun e => e) (fun _ _ e => e) (by simp))
      have HTq := hide (HT.out.kp mq (fun e => e) (fun e => e))
      have HDq := hide (HD.out.kp rfl mq (fun e => e))
      have cb1 : wq.cell? ⟨gb, n, none⟩ = some (.slice b2 pl k2) := by rw [← hwq]; exact cb0
      have HDc := hide (rdec_x wq b2 pl k2 p HPl.out (by rw [← hwq]; exact HU2.out) HU3.out hpb)
      rw [hwq]
      clear hwq mq ca0 cb0 HEq HW HB HT HD HU2 HU3
      go_wp2_with fail
      refine HDc.out.mono ?_
      rintro e w3 ⟨⟨f0, f1, f2, f3, f4, f5, bo⟩, sq, k, bb, rfl, hfl, hby, hlo, hb3⟩
      obtain ⟨nb, hnb⟩ : ∃ nb, bo.length = nb := ⟨_, rfl⟩
      have hv : frV (⟨f0, f1, f2, f3, f4, f5, bo⟩ : Fr) sq k = .agg #[.int .i64 f0, .int .i64 f1, .int .u64 (f2 : Int), .int .u64 (f3 : Int), .int .u64 (f4 : Int), .int .u64 (f5 : Int), .slice sq nb k] := by unfold frV; rw [hnb]
      rw [hv]
      have HNb := hide hnb
      have HFl : Hid (bo.length ≤ 140737488351232) := hfl
      have HBy : Hid (Bytes w3 sq bo) := hby
      have HLo := hide hlo
      have HB3 := hide hb3
      clear hv hfl hby hlo hb3 HDc hnb cb1
      go_upto_region 11 with (fail)
      obtain ⟨w4, hw4⟩ : ∃ w4, w3.alloc (.cells #[.int .i64 f0, .int .i64 f1, .int .u64 (f2 : Int), .int .u64 (f3 : Int), .int .u64 (f4 : Int), .int .u64 (f5 : Int), .slice sq nb k] 33) = w4 := ⟨_, rfl⟩
      rw [hw4]
      obtain ⟨bx, hbx'⟩ : ∃ bx, w3.heap.size = bx := ⟨_, rfl⟩
      have hk4 : w4.heap[bx]? = some (.cells #[.int .i64 f0, .int .i64 f1, .int .u64 (f2 : Int), .int .u64 (f3 : Int), .int .u64 (f4 : Int), .int .u64 (f5 : Int), .slice sq nb k] 33 (0, 0)) := by rw [← hw4, ← hbx']; exact heap_alloc_new _ _
      have hb34 : Below w3.heap.size w3 w4 := by rw [← hw4]; exact (Below.refl _ _).alloc (Nat.le_refl _) _
      have hb4 : Below wq.heap.size wq w4 := HB3.out.trans (hb34.mono HB3.out.size)
      have m4 : Kp (fun _ => False) K3 (ext K3 wq.heap.size (2, 2)) wq w4 := kp_below hb4 _ _ _
      have hY4 : By2 w4 (ext K3 wq.heap.size (2, 2)) sq bo := by2_new HBy.out HLo.out hb34
      rw [hbx']
      obtain ⟨K4, hK4⟩ : ∃ K4, ext K3 wq.heap.size (2, 2) = K4 := ⟨_, rfl⟩
      rw [hK4] at m4 hY4
      have HW4 := hide (HWq.out.k9 m4 (fun _ e => e.elim))
      have HB4 := hide (HBq.out.keep m4 (fun e => e) (fun e => e) (fun e => e) (fun e => e) (fun _ _ e => e) (by simp))
      have HT4 := hide (HTq.out.kp m4 (fun e => e) (fun e => e))
      have HD4 := hide (HDq.out.kp rfl m4 (fun e => e))
      have HY4 := hide hY4
      have HK4 := hide hk4
      clear hw4 hbx' hb34 hb4 m4 hY4 hK4 HWq HBq HTq HDq HB3 HBy HLo
      obtain ⟨E, hE⟩ : ∃ E, es ++ fs = E := ⟨_, rfl⟩
      have hEl : E.length ≤ 1100000 := by rw [← hE, List.length_append, HFs.out]; omega
      have HEe := hide hE
      rw [hE] at HW4
      clear hE
      obtain ⟨sa, sc, hsv, hsl, hsc⟩ : ∃ sa sc, sv = .slice sa E.length sc ∧ E.length ≤ sc ∧ sc ≤ maxLen := owns_form HW4.out.sent.own
      subst hsv
      obtain ⟨O4, I4, hwb4, hkb4⟩ := HW4.out.blk
      obtain ⟨-, -, -, -, -, -, -, -, -, -, p10, -, -, -, pf⟩ := cellW hwb4
      have p10' : w4.cell? ⟨wb, 10, none⟩ = some (.slice sa E.length sc) := p10
      have hpb4 := C.lt_of_block hwb4
      have HWb4 := hide hwb4
      have HPn : Hid (some wb ≠ (Value.slice sa E.length sc).ownBlock) := fun e => by have := HW4.out.sent.kind wb e.symm; rw [hkb4] at this; cases this
      obtain ⟨x0, x1, x2, x3, x4, x5, x6, -⟩ := blk7 HK4.out
      have hbx := C.lt_of_block HK4.out
      obtain ⟨i0', hi, hz0, hz1, hz2⟩ := info_parts Tryz.infoFr
      clear p10 hwb4 hk4
      go_region_law (first | (refine step_append_lies _ (by rfl) (.tmp 57) (.tmp 59) 41 (by rfl) 0 33 i0' (.agg #[.int .i64 0, .int .i64 0, .int .u64 0, .int .u64 0, .int .u64 0, .int .u64 0, .slice none 0 0]) 7 72 Tryz.underlying41 hi hz0 hz1 hz2 rfl (by omega) (.slice sa E.length sc) E.length (sentC E) (by rfl) ((HW4.out.sent.own.alloc _).drew) ⟨w4.heap.size, 0, none⟩ 1 1 [.int .i64 f0, .int .i64 f1, .int .u64 (f2 : Int), .int .u64 (f3 : Int), .int .u64 (f4 : Int), .int .u64 (f5 : Int), .slice sq nb k] (by rfl) rfl (World.news_of_block (heap_alloc_new w4 (.cells #[.int .i64 f0, .int .i64 f1, .int .u64 (f2 : Int), .int .u64 (f3 : Int), .int .u64 (f4 : Int), .int .u64 (f5 : Int), .slice sq nb k] 33))) (by simp [Value.oneCell']) (by omega) (by unfold maxLen; omega) (by omega) (by simp) _ rfl ?_; intro g' cap' w6 hown hgrow hat hltg; have hp6 := (hgrow.block wb (by simp; omega) HPn.out); have hpr6 : w6.heap[wb]? = some (.cells (Pw.wkC { Y with sv := .slice sa E.length sc } O4 I4) 48 (0, 0)) := (hp6.trans ((Below.heap_alloc _ _ _ hpb4).trans HWb4.out)); obtain ⟨-, -, -, -, -, -, -, -, -, -, q10, -, -, -, qf⟩ := cellW hpr6; have q10' : w6.cell? ⟨wb, 10, none⟩ = some (.slice sa E.length sc) := q10; have hq6 := C.lt_of_block hpr6; have HO6 := hide hown; have HG6 := hide hgrow; have HA6 := hide hat; clear hown hgrow hat hp6 hpr6 q10))
      all_goals go_wp2
      all_goals
        have hb6 : Below w4.heap.size w4 (w4.alloc (.cells #[.int .i64 f0, .int .i64 f1, .int .u64 (f2 : Int), .int .u64 (f3 : Int), .int .u64 (f4 : Int), .int .u64 (f5 : Int), .slice sq nb k] 33)).drew := ((Below.refl _ _).alloc (Nat.le_refl _) _).drew
        have m6 : Kp (fun _ => False) K4 (ext K4 w4.heap.size (9, 9)) w4 (w4.alloc (.cells #[.int .i64 f0, .int .i64 f1, .int .u64 (f2 : Int), .int .u64 (f3 : Int), .int .u64 (f4 : Int), .int .u64 (f5 : Int), .slice sq nb k] 33)).drew := kp_below hb6 _ _ _
        obtain ⟨hpm, hkp⟩ := (HW4.out.k9 m6 (fun _ e => e.elim)).more (e := ⟨⟨f0, f1, f2, f3, f4, f5, bo⟩, sq, k⟩) HG6.out (by simpa [feC, HNb.out] using HO6.out) (by
          rcases HA6.out with e1 | e1
          · exact Or.inl e1.symm
          · exact Or.inr ⟨g', rfl, by rw [e1]; exact Nat.le_refl _⟩) (HY4.out.kp m6 (fun e => e)) HFl.out
        have hEa : ∀ x : Fe, E ++ [x] = es ++ (fs ++ [x]) := fun x => by rw [← HEe.out, List.append_assoc]
        rw [hEa] at hpm
        exact ⟨⟨n + 1, _, _, _, by omega, by go_num, hide (by rw [List.length_append, HFs.out]; rfl), hide hpm, hide ((HB4.out.keep m6 (fun e => e) (fun e => e) (fun e => e) (fun e => e) (fun _ _ e => e) (by simp)).keep hkp (by simp) (by simp) (by simp) (by simp) (fun x e => by rw [e]; simp) (by simp)), hide ((HT4.out.kp m6 (fun e => e) (fun e => e)).kp hkp (by simp) (by simp)), hide ((HD4.out.kp rfl m6 (fun e => e)).kp rfl hkp (by simp))⟩, by simp [intOf]; omega⟩
    · have i1 : ¬ (n : Int) < (ps.length : Int) := by omega
      have hnq : n = ps.length := by omega
      obtain ⟨O4, I4, hwb4, -⟩ := HW.out.blk
      obtain ⟨-, -, -, -, -, -, -, -, -, -, -, p11, -, -, -⟩ := cellW hwb4
      have p11' : wr.cell? ⟨wb, 11, none⟩ = some (.pointer (some ⟨Y.bb, 0, none⟩)) := p11
      have HRo := hide (V.bzk_rows K3 wr Y.bb XX LL MM tn us ks rs a ps.length c B0 vs HB.out (by omega) (by omega) HT.out.row (fun i u hu => by
        have hil := (List.getElem?_eq_some_iff.1 hu).1
        have hq : i < ps.length := by have := HT.out.row.1; omega
        obtain ⟨sp, q1, q2, _⟩ := HT.out.el i _ (List.getElem?_eq_getElem hq)
        rw [hu] at q1; injection q1 with q1
        have hpb : (ps[i]'hq).length ≤ 140737488355328 := by
          have hm : ps[i]'hq ∈ midO B := by rw [HPs.out]; exact List.getElem_mem hq
          have hf : ∃ f, ps[i]'hq = encB f := by
            unfold midO at hm
            split at hm
            · split at hm
              · simp at hm; exact ⟨_, hm⟩
              · cases hm
            · unfold bodO outs at hm
              obtain ⟨x, _, hx⟩ := List.mem_map.1 hm
              exact ⟨_, hx.symm⟩
          obtain ⟨f, hf⟩ := hf
          rw [hf]; have := encB_len f; omega
        exact ⟨sp, _, _, _, q1, q2, hpb⟩) HT.out.dis HKs.out HRs.out HT.out.vk HT.out.rk)
      clear hwb4 p11
      go_wp2_with fail
      refine HRo.out.mono ?_
      rintro e w5 ⟨rfl, K5, X5, L5, M5, us5, ks5, rs5, hbz5, hkp5⟩
      have HWf := hide (HW.out.tbook (bn2 := bn + 18) hkp5 (by simp) (fun j => by simp) (by simp) (by simp) (by simp) (by simp) (by simp) (by simp) (by simp) (by simp) (by simp) (fun j => by simp) ⟨X5, L5, M5, _, us5, ks5, rs5, hbz5, by omega⟩)
      clear hbz5 hkp5 HRo
      go_wp2
      go_ret
      exact ⟨rfl, K5, sv, fs, HWf.out, by rw [HFs.out]; omega⟩
end Go.Proofs.YtjcdnclfakmbpaaGreatDoor
namespace Go.Proofs.YtjcdnclfakmbpaaGreatDoor
open Go.RowKit
set_option maxRecDepth 100000 in
set_option maxHeartbeats 8000000 in
theorem sameW (w0 w : World) (K : Knd) (wb : Nat) (Y : Pw.Wc) (A B : Lk) (es : List Fe) (xn bn st : Nat) (h : Wm w0 w K wb Y A A B B es xn bn st) :
    Calls Tryz.prog 7 #[.pointer (some ⟨wb, 0, none⟩)] w fun e w' => e = .returned (.bool true) ∧ ∃ q, w' = w.drewN q := by
  obtain ⟨O, I, hwb, -⟩ := h.blk
  obtain ⟨-, -, -, -, -, -, c6, c7, c8, c9, -, -, -, -, -⟩ := cellW hwb
  obtain ⟨rva, hla⟩ := h.la
  obtain ⟨rvb, hlb⟩ := h.lb
  obtain ⟨rda, ta, hda, -⟩ := h.ka
  obtain ⟨rdb, tb, hdb, -⟩ := h.kb
  obtain ⟨aa, ca, hra⟩ := hla.lw.form
  obtain ⟨ab, cb, hrb⟩ := hlb.lw.form
  obtain ⟨vsa, hoa, -⟩ := hda.row
  obtain ⟨vsb, hob, -⟩ := hdb.row
  obtain ⟨pa, qa, hva, -, -⟩ := hoa.form
  obtain ⟨pb, qb, hvb, -, -⟩ := hob.form
  obtain ⟨-, -, -, d03, -, d05, -⟩ := blk14 hda.db
  obtain ⟨-, -, -, d13, -, d15, -⟩ := blk14 hdb.db
  rw [hva] at d05
  rw [hvb] at d15
  have hL0 := hla.lw.lb
  have hL1 := hlb.lw.lb
  rw [hra] at hL0
  rw [hrb] at hL1
  have HKn0 := hide (fun q => known_any (w.drewN q) Y.l0 A _ hL0)
  have HKn1 := hide (fun q => known_any (w.drewN q) Y.l1 B _ hL1)
  have HLi0 := hide (fun q => life_any (w.drewN q) Y.l0 A _ hL0)
  have HLi1 := hide (fun q => life_any (w.drewN q) Y.l1 B _ hL1)
  have HLe0 := hide (fun q => len_any (w.drewN q) Y.l0 A _ _ _ hL0)
  have HLe1 := hide (fun q => len_any (w.drewN q) Y.l1 B _ _ _ hL1)
  clear hwb hla hlb hda hdb hra hrb hoa hob hva hvb hL0 hL1 h
  generalize Y.l0 = l0 at *
  generalize Y.l1 = l1 at *
  generalize Y.k0 = k0 at *
  generalize Y.k1 = k1 at *
  generalize A.known = N0 at *
  generalize B.known = N1 at *
  generalize A.row.length = r0 at *
  generalize B.row.length = r1 at *
  go_enter Tryz.func7, Tryz.ntmps7
  go_wp2_with fail
  go_loopw [3] (fun s3 wr => (s3 = .int .i64 0 ∨ s3 = .int .i64 1 ∨ s3 = .int .i64 2) ∧ ∃ q, Hid (wr = w.drewN q)) (fun s3 _ => 3 - (intOf s3).toNat)
  case atStart => exact ⟨Or.inl rfl, 0, rfl⟩
  case round =>
    obtain ⟨hs, q, HW⟩ := hrel
    have e6 : wr.cell? ⟨wb, 6, none⟩ = some (.pointer (some ⟨l0, 0, none⟩)) := by rw [HW.out]; exact c6
    have e7 : wr.cell? ⟨wb, 7, none⟩ = some (.pointer (some ⟨l1, 0, none⟩)) := by rw [HW.out]; exact c7
    have e8 : wr.cell? ⟨wb, 8, none⟩ = some (.pointer (some ⟨k0, 0, none⟩)) := by rw [HW.out]; exact c8
    have e9 : wr.cell? ⟨wb, 9, none⟩ = some (.pointer (some ⟨k1, 0, none⟩)) := by rw [HW.out]; exact c9
    have g03 : wr.cell? ⟨k0, 3, none⟩ = some (.int .u64 (N0 : Int)) := by rw [HW.out]; exact d03
    have g05 : wr.cell? ⟨k0, 5, none⟩ = some (.slice pa r0 qa) := by rw [HW.out]; exact d05
    have g13 : wr.cell? ⟨k1, 3, none⟩ = some (.int .u64 (N1 : Int)) := by rw [HW.out]; exact d13
    have g15 : wr.cell? ⟨k1, 5, none⟩ = some (.slice pb r1 qb) := by rw [HW.out]; exact d15
    rcases hs with rfl | rfl | rfl
    · by_cases hk : N0 = 0
      · have f1 : ((N0 : Int) != 0) = false := by simp; omega
        have f2 : decide (0 < N0) = false := by simp; omega
        have HKn : Hid (∀ j, Calls Tryz.prog 14 #[.pointer (some ⟨l0, 0, none⟩)] (wr.drewN j) fun e w' => e = .returned (.bool false) ∧ w' = wr.drewN j) := fun j => by rw [HW.out]; have := HKn0.out (q + j); rw [f2, ← World.drewN_drewN] at this; exact this
        have HLi : Hid (∀ j, Calls Tryz.prog 28 #[.pointer (some ⟨l0, 0, none⟩)] (wr.drewN j) fun e w' => e = .returned (.int .u64 (N0 : Int)) ∧ w' = wr.drewN j) := fun j => by rw [HW.out]; have := HLi0.out (q + j); rw [← World.drewN_drewN] at this; exact this
        have HLe : Hid (∀ j, Calls Tryz.prog 15 #[.pointer (some ⟨l0, 0, none⟩)] (wr.drewN j) fun e w' => e = .returned (.int .i64 (r0 : Int)) ∧ w' = wr.drewN j) := fun j => by rw [HW.out]; have := HLe0.out (q + j); rw [← World.drewN_drewN] at this; exact this
        have f3 : ((N0 : Int) != (N0 : Int)) = false := by simp
        have f4 : ((r0 : Int) != (r0 : Int)) = false := by simp
        clear f2
        go_upto_region 4 with (fail)
        go_quiet (first | (go_at_call 14; exact Calls.quiet_of_same (HKn.out _)) | (go_at_call 28; exact Calls.quiet_of_same (HLi.out _)) | (go_at_call 15; exact Calls.quiet_of_same (HLe.out _)))
        go_wp2
        go_roundw
        case rel => exact ⟨Or.inr (Or.inl rfl), q + nq, by show _ = _; rw [HW.out, World.drewN_drewN]⟩
        case measure => simp [intOf]
      · have f1 : ((N0 : Int) != 0) = true := by simp; omega
        have f2 : decide (0 < N0) = true := by simp; omega
        have HKn : Hid (∀ j, Calls Tryz.prog 14 #[.pointer (some ⟨l0, 0, none⟩)] (wr.drewN j) fun e w' => e = .returned (.bool true) ∧ w' = wr.drewN j) := fun j => by rw [HW.out]; have := HKn0.out (q + j); rw [f2, ← World.drewN_drewN] at this; exact this
        have HLi : Hid (∀ j, Calls Tryz.prog 28 #[.pointer (some ⟨l0, 0, none⟩)] (wr.drewN j) fun e w' => e = .returned (.int .u64 (N0 : Int)) ∧ w' = wr.drewN j) := fun j => by rw [HW.out]; have := HLi0.out (q + j); rw [← World.drewN_drewN] at this; exact this
        have HLe : Hid (∀ j, Calls Tryz.prog 15 #[.pointer (some ⟨l0, 0, none⟩)] (wr.drewN j) fun e w' => e = .returned (.int .i64 (r0 : Int)) ∧ w' = wr.drewN j) := fun j => by rw [HW.out]; have := HLe0.out (q + j); rw [← World.drewN_drewN] at this; exact this
        have f3 : ((N0 : Int) != (N0 : Int)) = false := by simp
        have f4 : ((r0 : Int) != (r0 : Int)) = false := by simp
        clear f2
        go_upto_region 4 with (fail)
        go_quiet (first | (go_at_call 14; exact Calls.quiet_of_same (HKn.out _)) | (go_at_call 28; exact Calls.quiet_of_same (HLi.out _)) | (go_at_call 15; exact Calls.quiet_of_same (HLe.out _)))
        go_wp2
        go_roundw
        case rel => exact ⟨Or.inr (Or.inl rfl), q + nq, by show _ = _; rw [HW.out, World.drewN_drewN]⟩
        case measure => simp [intOf]
    · by_cases hk : N1 = 0
      · have f1 : ((N1 : Int) != 0) = false := by simp; omega
        have f2 : decide (0 < N1) = false := by simp; omega
        have HKn : Hid (∀ j, Calls Tryz.prog 14 #[.pointer (some ⟨l1, 0, none⟩)] (wr.drewN j) fun e w' => e = .returned (.bool false) ∧ w' = wr.drewN j) := fun j => by rw [HW.out]; have := HKn1.out (q + j); rw [f2, ← World.drewN_drewN] at this; exact this
        have HLi : Hid (∀ j, Calls Tryz.prog 28 #[.pointer (some ⟨l1, 0, none⟩)] (wr.drewN j) fun e w' => e = .returned (.int .u64 (N1 : Int)) ∧ w' = wr.drewN j) := fun j => by rw [HW.out]; have := HLi1.out (q + j); rw [← World.drewN_drewN] at this; exact this
        have HLe : Hid (∀ j, Calls Tryz.prog 15 #[.pointer (some ⟨l1, 0, none⟩)] (wr.drewN j) fun e w' => e = .returned (.int .i64 (r1 : Int)) ∧ w' = wr.drewN j) := fun j => by rw [HW.out]; have := HLe1.out (q + j); rw [← World.drewN_drewN] at this; exact this
        have f3 : ((N1 : Int) != (N1 : Int)) = false := by simp
        have f4 : ((r1 : Int) != (r1 : Int)) = false := by simp
        clear f2
        go_upto_region 4 with (fail)
        go_quiet (first | (go_at_call 14; exact Calls.quiet_of_same (HKn.out _)) | (go_at_call 28; exact Calls.quiet_of_same (HLi.out _)) | (go_at_call 15; exact Calls.quiet_of_same (HLe.out _)))
        go_wp2
        go_roundw
        case rel => exact ⟨Or.inr (Or.inr rfl), q + nq, by show _ = _; rw [HW.out, World.drewN_drewN]⟩
        case measure => simp [intOf]
      · have f1 : ((N1 : Int) != 0) = true := by simp; omega
        have f2 : decide (0 < N1) = true := by simp; omega
        have HKn : Hid (∀ j, Calls Tryz.prog 14 #[.pointer (some ⟨l1, 0, none⟩)] (wr.drewN j) fun e w' => e = .returned (.bool true) ∧ w' = wr.drewN j) := fun j => by rw [HW.out]; have := HKn1.out (q + j); rw [f2, ← World.drewN_drewN] at this; exact this
        have HLi : Hid (∀ j, Calls Tryz.prog 28 #[.pointer (some ⟨l1, 0, none⟩)] (wr.drewN j) fun e w' => e = .returned (.int .u64 (N1 : Int)) ∧ w' = wr.drewN j) := fun j => by rw [HW.out]; have := HLi1.out (q + j); rw [← World.drewN_drewN] at this; exact this
        have HLe : Hid (∀ j, Calls Tryz.prog 15 #[.pointer (some ⟨l1, 0, none⟩)] (wr.drewN j) fun e w' => e = .returned (.int .i64 (r1 : Int)) ∧ w' = wr.drewN j) := fun j => by rw [HW.out]; have := HLe1.out (q + j); rw [← World.drewN_drewN] at this; exact this
        have f3 : ((N1 : Int) != (N1 : Int)) = false := by simp
        have f4 : ((r1 : Int) != (r1 : Int)) = false := by simp
        clear f2
        go_upto_region 4 with (fail)
        go_quiet (first | (go_at_call 14; exact Calls.quiet_of_same (HKn.out _)) | (go_at_call 28; exact Calls.quiet_of_same (HLi.out _)) | (go_at_call 15; exact Calls.quiet_of_same (HLe.out _)))
        go_wp2
        go_roundw
        case rel => exact ⟨Or.inr (Or.inr rfl), q + nq, by show _ = _; rw [HW.out, World.drewN_drewN]⟩
        case measure => simp [intOf]
    · go_wp2
      go_ret
      exact ⟨rfl, q, HW.out⟩
end Go.Proofs.YtjcdnclfakmbpaaGreatDoor
