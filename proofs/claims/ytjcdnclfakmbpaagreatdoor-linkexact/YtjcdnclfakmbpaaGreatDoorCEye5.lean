import Derived.Test.YtjcdnclfakmbpaaGreatDoorCEyeP
import Derived.Test.YtjcdnclfakmbpaaGreatDoorCWrites
namespace Go.Proofs.YtjcdnclfakmbpaaGreatDoor.C
open Go.RowKit
set_option maxRecDepth 100000 in
set_option maxHeartbeats 400000 in
theorem copy_any (w : World) (sp : Option Addr) (m cap : Nat) (xs : List Nat) (hm : xs.length = m) (hx : Bytes w sp xs) (hlen : m ≤ 140737488355328) :
    Calls Tryz.prog 57 #[.slice sp m cap] w fun e w' => ∃ v, e = .returned v ∧ w'.ownsRow w.heap.size 5 1 v m (vals xs) ∧ Below w.heap.size w w' := by
  have HX := hide hx
  have HM := hide hm
  have HO : Hid (w.ownsRow 0 5 1 (.slice none 0 0) 0 []) := ⟨rfl, Or.inl ⟨rfl, rfl⟩⟩
  clear hx hm
  go_enter Tryz.func57, Tryz.ntmps57
  go_wp2_with (at_builtin; refine wpList_append_held rfl (.tmp 4) (.tmp 5) rfl (.slice none 0 0) 0 [] rfl HO.out sp m cap xs rfl HM.out HX.out (by omega) ?_; intro v w1 hown hgrow hat)
  have HV : Hid (w1.ownsRow w.heap.size 5 1 v m (vals xs)) := by
    have h : w1.ownsRow 0 5 1 v m (vals xs) := by simpa using hown
    refine ⟨h.1, h.2.elim Or.inl ?_⟩
    rintro ⟨g, cap, cur, h1, _, r⟩
    refine Or.inr ⟨g, cap, cur, h1, ?_, r⟩
    rcases hat with e | e
    · rw [h1] at e; simp [Value.ownBlock] at e
    · rw [h1] at e; simp [Value.ownBlock] at e; omega
  have HB : Hid (Below w.heap.size w w1) := (Below.refl _ _).grown hgrow (Nat.le_refl _) (fun k e => by cases e)
  clear hown hgrow hat
  obtain ⟨a, n, c, rfl⟩ : ∃ a n c, v = .slice a n c := by
    rcases HV.out.2 with ⟨h1, _⟩ | ⟨g, cap, cur, h1, _⟩
    · exact ⟨_, _, _, h1⟩
    · exact ⟨_, _, _, h1⟩
  go_wp2
  go_ret
  exact ⟨_, rfl, HV.out, HB.out⟩
structure Ey (w : World) (b : Nat) (sp : Option Addr) (c : Nat) (xs : List Nat) (a f : Nat) : Prop where
  blk : w.heap[b]? = some (.cells #[.slice sp xs.length c, .int .i64 (a : Int), .int .i64 (f : Int)] 155 (0, 0))
  held : Bytes w sp xs
  form : (c = 0 ∧ xs = []) ∨ ∃ g o, sp = some ⟨g, o, none⟩
  len : xs.length ≤ 140737488351232
  cap : xs.length ≤ c
  most : c ≤ 9223372036854775807
  le : a ≤ xs.length
theorem Ey.lt {w : World} {b : Nat} {sp : Option Addr} {c : Nat} {xs : List Nat} {a f : Nat} (r : Ey w b sp c xs a f) : b < w.heap.size := lt_of_block r.blk
theorem Ey.but {w w' : World} {b : Nat} {sp : Option Addr} {c : Nat} {xs : List Nat} {a f a2 f2 : Nat} (r : Ey w b sp c xs a f) (k : But b w w') (hle : a2 ≤ xs.length)
    (hb : w'.heap[b]? = some (.cells #[.slice sp xs.length c, .int .i64 (a2 : Int), .int .i64 (f2 : Int)] 155 (0, 0))) : Ey w' b sp c xs a2 f2 :=
  ⟨hb, r.held.kept b (fun i hi hl => k.block i hl hi) k.size (fun _ _ _ => not_bytes' r.blk), r.form, r.len, r.cap, r.most, hle⟩
theorem Ey.below {w w' : World} {b : Nat} {sp : Option Addr} {c : Nat} {xs : List Nat} {a f : Nat} (r : Ey w b sp c xs a f) (k : Below w.heap.size w w') : Ey w' b sp c xs a f :=
  ⟨(k.block b r.lt).trans r.blk, r.held.below k, r.form, r.len, r.cap, r.most, r.le⟩
theorem Ey.fault {w : World} {b : Nat} {sp : Option Addr} {c : Nat} {xs : List Nat} {a f : Nat} (r : Ey w b sp c xs a f) (f2 : Nat) : Ey (w.setCell ⟨b, 2, none⟩ (.int .i64 (f2 : Int))) b sp c xs a f2 :=
  r.but ((But.refl b w).setCell (Or.inl rfl) _) r.le (by rw [block_set r.blk]; rfl)
theorem Ey.place {w : World} {b : Nat} {sp : Option Addr} {c : Nat} {xs : List Nat} {a f : Nat} (r : Ey w b sp c xs a f) (a2 : Nat) (h : a2 ≤ xs.length) : Ey (w.setCell ⟨b, 1, none⟩ (.int .i64 (a2 : Int))) b sp c xs a2 f :=
  r.but ((But.refl b w).setCell (Or.inl rfl) _) h (by rw [block_set r.blk]; rfl)
def EyeNum (kd : IntKind) (w w' : World) (b : Nat) (sp : Option Addr) (c : Nat) (xs : List Nat) (x : It × Nat × Nat) (e : Ending) : Prop :=
  e = .returned (.int kd (x.1.num : Int)) ∧ Ey w' b sp c xs x.2.1 x.2.2 ∧ But b w w'
def EyeBytes (w w' : World) (b : Nat) (sp : Option Addr) (c : Nat) (xs : List Nat) (ys : List Nat) (a f : Nat) (e : Ending) : Prop :=
  ∃ s k, e = .returned (.slice s ys.length k) ∧ Bytes w' s ys ∧ (∀ p, s = some p → w.heap.size ≤ p.block) ∧ Ey w' b sp c xs a f ∧ But b w w'
theorem nil_bytes (w : World) : Bytes w none [] := ⟨by simp, Or.inl rfl⟩
theorem Bytes.sub {w : World} {g o : Nat} {xs : List Nat} (h : Bytes w (some ⟨g, o, none⟩) xs) (a n : Nat) : Bytes w (some ⟨g, o + a, none⟩) ((xs.drop a).take n) := by
  refine ⟨fun x hx => h.small x (List.mem_of_mem_drop (List.mem_of_mem_take hx)), ?_⟩
  rcases h.lie with h0 | ⟨g', o', e, hg, hc⟩
  · subst h0; exact Or.inl (by simp)
  · cases e
    refine Or.inr ⟨g, o + a, rfl, hg, fun j hj => ?_⟩
    simp at hj
    have hj1 : j < n := by omega
    have := hc (a + j) (by omega)
    rw [show o + a + j = o + (a + j) by omega, this]
    simp [List.getD, hj1]
set_option maxRecDepth 100000 in
set_option maxHeartbeats 400000 in
theorem eleft_any (w : World) (b : Nat) (sp : Option Addr) (c : Nat) (xs : List Nat) (a f : Nat) (hr : Ey w b sp c xs a f) :
    Calls Tryz.prog 138 #[.pointer (some ⟨b, 0, none⟩)] w fun e w' => e = .returned (.int .i64 ((xs.length - a : Nat) : Int)) ∧ w' = w.drew := by
  obtain ⟨q0, q1, q2, qf⟩ := blk3 hr.blk
  have h1 := hr.le
  have h2 := hr.len
  have he : Hid (((xs.length - a : Nat) : Int) = (xs.length : Int) - (a : Int)) := Int.ofNat_sub h1
  clear hr
  generalize xs.length = n at *
  go_enter Tryz.func138, Tryz.ntmps138
  go_wp2
  go_region
  go_wp2
  go_ret
  rw [he.out]
  exact ⟨rfl, rfl⟩
set_option maxRecDepth 100000 in
set_option maxHeartbeats 400000 in
theorem eraw_done (w : World) (b : Nat) (sp : Option Addr) (c : Nat) (xs : List Nat) (a f : Nat) (m : Int) (hf : f ≠ 0) (hr : Ey w b sp c xs a f) :
    Calls Tryz.prog 140 #[.pointer (some ⟨b, 0, none⟩), .int .i64 m] w fun e w' => EyeBytes w w' b sp c xs [] a f e := by
  obtain ⟨q0, q1, q2, qf⟩ := blk3 hr.blk
  have HR := hide hr
  clear hr
  have hb : ((f : Int) != 0) = true := by simp; omega
  go_enter Tryz.func140, Tryz.ntmps140
  go_wp2
  go_ret
  exact ⟨none, 0, rfl, nil_bytes _, fun p e => (by cases e), HR.out, But.refl _ _⟩
set_option maxRecDepth 100000 in
set_option maxHeartbeats 400000 in
theorem eraw_short (w : World) (b : Nat) (sp : Option Addr) (c : Nat) (xs : List Nat) (a m : Nat) (hm : xs.length - a < m) (_hm2 : m ≤ 9223372036854775807) (hr : Ey w b sp c xs a 0) :
    Calls Tryz.prog 140 #[.pointer (some ⟨b, 0, none⟩), .int .i64 m] w fun e w' => EyeBytes w w' b sp c xs [] a 10 e := by
  obtain ⟨q0, q1, q2, qf⟩ := blk3 hr.blk
  have HR := hide hr
  have HD := hide (hr.below (Below.refl _ _).drew)
  clear hr
  have h1 : ¬ (m : Int) < 0 := by omega
  have h2 : ((xs.length - a : Nat) : Int) < (m : Int) := by omega
  go_enter Tryz.func140, Tryz.ntmps140
  go_wp2_with fail
  refine (eleft_any _ b sp c xs a 0 HR.out).mono ?_
  rintro e w' ⟨rfl, rfl⟩
  generalize xs.length - a = L at *
  go_wp2
  go_ret
  exact ⟨none, 0, rfl, nil_bytes _, fun p e => (by cases e), HD.out.fault 10, ((But.refl b w).setCell (p := ⟨b, 2, none⟩) (Or.inl rfl) _).drew⟩
set_option maxRecDepth 100000 in
set_option maxHeartbeats 1000000 in
theorem eraw_far (w : World) (b : Nat) (g o : Nat) (c : Nat) (xs : List Nat) (a m : Nat) (hm : m ≤ xs.length - a) (hca : ¬ c = a) (hr : Ey w b (some ⟨g, o, none⟩) c xs a 0) (hby : Bytes w (some ⟨g, o + a, none⟩) ((xs.drop a).take m)) :
    Calls Tryz.prog 140 #[.pointer (some ⟨b, 0, none⟩), .int .i64 m] w fun e w' => EyeBytes w w' b (some ⟨g, o, none⟩) c xs ((xs.drop a).take m) (a + m) 0 e := by
  obtain ⟨q0, q1, q2, qf⟩ := blk3 hr.blk
  have HR := hide hr
  have h4 := hr.le
  have h5 := hr.len
  have h6 := hr.cap
  have h7 := hr.most
  have HD := hide (hr.below (Below.refl _ _).drew.drew)
  obtain ⟨p, hp, hpa, hpl⟩ : ∃ p : Nat, (a : Int) + (m : Int) = (p : Int) ∧ a + m = p ∧ p - a = m := ⟨a + m, by omega, rfl, by omega⟩
  have HY := hide (hby.below (Below.refl _ _).drew.drew)
  have HL : Hid (((xs.drop a).take m).length = p - a) := by show _ = _; simp; omega
  clear hr hby
  have h1 : ¬ (m : Int) < 0 := by omega
  have h2 : ¬ ((xs.length - a : Nat) : Int) < (m : Int) := by omega
  have hw : IntKind.i64.wrap ((a : Int) + (m : Int)) = (p : Int) := by rw [IntKind.wrap_i64]; omega
  have hw2 : IntKind.i64.wrap (p : Int) = (p : Int) := by rw [IntKind.wrap_i64]; omega
  have hple : p ≤ xs.length := by omega
  have h8 : (p : Int) ≤ (c : Int) := by omega
  have h9 : (a : Int) ≤ (p : Int) := by omega
  have h0 : (0 : Int) ≤ (a : Int) := by omega
  have h10 : (0 : Int) ≤ (p : Int) := by omega
  have hn1 : a ≤ p := by omega
  have hn2 : p ≤ c := by omega
  rw [hpa]
  clear hpa hpl
  generalize (xs.drop a).take m = ys at *
  go_enter Tryz.func140, Tryz.ntmps140
  go_wp2_with fail
  refine (eleft_any _ b _ c xs a 0 HR.out).mono ?_
  rintro e w' ⟨rfl, rfl⟩
  go_wp2
  go_region_held3 (fun w' => w'.cell? ⟨b, 0, none⟩ = some (.slice (some ⟨g, o, none⟩) xs.length c) ∧ w'.cell? ⟨b, 1, none⟩ = some (.int .i64 (a : Int))) (go_keep)
    (first | (go_at_call 57; refine (copy_any _ _ _ _ ys HL.out HY.out (by omega)).mono ?_; rintro e w5 ⟨v5, rfl, hown, hb5⟩; have HO := hide hown; have HB := hide hb5; have HE := hide (HD.out.below hb5); obtain ⟨r0, r1, r2, rf⟩ := blk3 HE.out.blk; clear hown hb5))
  obtain ⟨s5, k5, rfl⟩ : ∃ s k, v5 = .slice s (p - a) k := by
    rcases HO.out.2 with ⟨h1, h2⟩ | ⟨g, cap, cur, h1, _⟩
    · exact ⟨_, _, by rw [h1, h2]⟩
    · exact ⟨_, _, h1⟩
  have HE2 := hide (HE.out.place p hple)
  have HBu : Hid (But b w (w5.setCell ⟨b, 1, none⟩ (.int .i64 (p : Int)))) := (((but_of (Below.refl _ _) b).drew.drew).trans (but_of HB.out b)).setCell (p := ⟨b, 1, none⟩) (Or.inl rfl) _
  have HYs := hide (HY.out.small)
  go_wp2
  go_ret
  refine ⟨s5, k5, by rw [HL.out]; rfl, ?_, ?_, HE2.out, HBu.out⟩
  · have hb5 := owns_bytes HO.out HYs.out
    exact hb5.kept b (fun k hk hl => by rw [Below.heap_setCell _ _ _ _ hk]) (by simp) (fun _ _ _ => not_bytes' HE.out.blk)
  · intro q e
    subst e
    rcases HO.out.2 with ⟨h1, _⟩ | ⟨g, cap, cur, h1, h2, _⟩
    · cases h1
    · cases h1; exact h2
set_option maxRecDepth 100000 in
set_option maxHeartbeats 1000000 in
theorem eraw_end (w : World) (b g o : Nat) (xs : List Nat) (a : Nat) (hr : Ey w b (some ⟨g, o, none⟩) a xs a 0) :
    Calls Tryz.prog 140 #[.pointer (some ⟨b, 0, none⟩), .int .i64 0] w fun e w' => EyeBytes w w' b (some ⟨g, o, none⟩) a xs [] a 0 e := by
  obtain ⟨q0, q1, q2, qf⟩ := blk3 hr.blk
  have HR := hide hr
  have h4 := hr.le
  have h5 := hr.len
  have HD := hide (hr.below (Below.refl _ _).drew.drew)
  clear hr
  have h2 : ¬ ((xs.length - a : Nat) : Int) < 0 := by omega
  have hw0 : IntKind.i64.wrap ((a : Int) + 0) = (a : Int) := by rw [IntKind.wrap_i64]; omega
  have hw2 : IntKind.i64.wrap (a : Int) = (a : Int) := by rw [IntKind.wrap_i64]; omega
  have h0 : (0 : Int) ≤ (a : Int) := by omega
  go_enter Tryz.func140, Tryz.ntmps140
  go_wp2_with fail
  refine (eleft_any _ b _ a xs a 0 HR.out).mono ?_
  rintro e w' ⟨rfl, rfl⟩
  go_wp2
  go_region_held3 (fun w' => w'.cell? ⟨b, 0, none⟩ = some (.slice (some ⟨g, o, none⟩) xs.length a) ∧ w'.cell? ⟨b, 1, none⟩ = some (.int .i64 (a : Int))) (go_keep)
    (first | (go_at_call 57; refine (copy_any _ _ 0 0 [] rfl ⟨by simp, Or.inl rfl⟩ (by omega)).mono ?_; rintro e w5 ⟨v5, rfl, hown, hb5⟩; have HO := hide hown; have HB := hide hb5; have HE := hide (HD.out.below hb5); obtain ⟨r0, r1, r2, rf⟩ := blk3 HE.out.blk; clear hown hb5))
  obtain ⟨s5, k5, rfl⟩ : ∃ s k, v5 = .slice s 0 k := by
    rcases HO.out.2 with ⟨h1, h2⟩ | ⟨g, cap, cur, h1, _⟩
    · exact ⟨_, _, h1⟩
    · exact ⟨_, _, h1⟩
  have HE2 := hide (HE.out.place a h4)
  have HBu : Hid (But b w (w5.setCell ⟨b, 1, none⟩ (.int .i64 (a : Int)))) := (((but_of (Below.refl _ _) b).drew.drew).trans (but_of HB.out b)).setCell (p := ⟨b, 1, none⟩) (Or.inl rfl) _
  go_wp2
  go_ret
  refine ⟨s5, k5, rfl, ⟨by simp, Or.inl rfl⟩, ?_, HE2.out, HBu.out⟩
  intro q e
  subst e
  rcases HO.out.2 with ⟨h1, _⟩ | ⟨g, cap, cur, h1, h2, _⟩
  · cases h1
  · cases h1; exact h2
set_option maxRecDepth 100000 in
set_option maxHeartbeats 1000000 in
theorem eraw_nil (w : World) (b : Nat) (hr : Ey w b none 0 [] 0 0) :
    Calls Tryz.prog 140 #[.pointer (some ⟨b, 0, none⟩), .int .i64 0] w fun e w' => EyeBytes w w' b none 0 [] [] 0 0 e := by
  obtain ⟨q0, q1, q2, qf⟩ := blk3 hr.blk
  have HR := hide hr
  have HD := hide (hr.below (Below.refl _ _).drew.drew)
  clear hr
  have hw0 : IntKind.i64.wrap 0 = 0 := by decide
  go_enter Tryz.func140, Tryz.ntmps140
  go_wp2_with fail
  refine (eleft_any _ b _ 0 [] 0 0 HR.out).mono ?_
  rintro e w' ⟨rfl, rfl⟩
  go_wp2
  go_region_held3 (fun w' => w'.cell? ⟨b, 0, none⟩ = some (.slice none 0 0) ∧ w'.cell? ⟨b, 1, none⟩ = some (.int .i64 0)) (go_keep)
    (first | (go_at_call 57; refine (copy_any _ none 0 0 [] rfl (nil_bytes _) (by omega)).mono ?_; rintro e w5 ⟨v5, rfl, hown, hb5⟩; have HO := hide hown; have HB := hide hb5; have HE := hide (HD.out.below hb5); obtain ⟨r0, r1, r2, rf⟩ := blk3 HE.out.blk; clear hown hb5))
  obtain ⟨s5, k5, rfl⟩ : ∃ s k, v5 = .slice s 0 k := by
    rcases HO.out.2 with ⟨h1, h2⟩ | ⟨g, cap, cur, h1, _⟩
    · exact ⟨_, _, h1⟩
    · exact ⟨_, _, h1⟩
  have HE2 := hide (HE.out.place 0 (Nat.le_refl _))
  have HBu : Hid (But b w (w5.setCell ⟨b, 1, none⟩ (.int .i64 ((0 : Nat) : Int)))) := (((but_of (Below.refl _ _) b).drew.drew).trans (but_of HB.out b)).setCell (p := ⟨b, 1, none⟩) (Or.inl rfl) _
  go_wp2
  go_ret
  refine ⟨s5, k5, rfl, ⟨by simp, Or.inl rfl⟩, ?_, HE2.out, HBu.out⟩
  intro q e
  subst e
  rcases HO.out.2 with ⟨h1, _⟩ | ⟨g, cap, cur, h1, h2, _⟩
  · cases h1
  · cases h1; exact h2
set_option maxRecDepth 100000 in
set_option maxHeartbeats 1000000 in
theorem eraw_ad (w : World) (b : Nat) (ad : Addr) (hr : Ey w b (some ad) 0 [] 0 0) :
    Calls Tryz.prog 140 #[.pointer (some ⟨b, 0, none⟩), .int .i64 0] w fun e w' => EyeBytes w w' b (some ad) 0 [] [] 0 0 e := by
  obtain ⟨q0, q1, q2, qf⟩ := blk3 hr.blk
  have HR := hide hr
  have HD := hide (hr.below (Below.refl _ _).drew.drew)
  clear hr
  have hw0 : IntKind.i64.wrap 0 = 0 := by decide
  go_enter Tryz.func140, Tryz.ntmps140
  go_wp2_with fail
  refine (eleft_any _ b _ 0 [] 0 0 HR.out).mono ?_
  rintro e w' ⟨rfl, rfl⟩
  go_wp2
  go_region_held3 (fun w' => w'.cell? ⟨b, 0, none⟩ = some (.slice (some ad) 0 0) ∧ w'.cell? ⟨b, 1, none⟩ = some (.int .i64 0)) (go_keep)
    (first | (go_at_call 57; refine (copy_any _ _ 0 0 [] rfl ⟨by simp, Or.inl rfl⟩ (by omega)).mono ?_; rintro e w5 ⟨v5, rfl, hown, hb5⟩; have HO := hide hown; have HB := hide hb5; have HE := hide (HD.out.below hb5); obtain ⟨r0, r1, r2, rf⟩ := blk3 HE.out.blk; clear hown hb5))
  obtain ⟨s5, k5, rfl⟩ : ∃ s k, v5 = .slice s 0 k := by
    rcases HO.out.2 with ⟨h1, h2⟩ | ⟨g, cap, cur, h1, _⟩
    · exact ⟨_, _, h1⟩
    · exact ⟨_, _, h1⟩
  have HE2 := hide (HE.out.place 0 (Nat.le_refl _))
  have HBu : Hid (But b w (w5.setCell ⟨b, 1, none⟩ (.int .i64 ((0 : Nat) : Int)))) := (((but_of (Below.refl _ _) b).drew.drew).trans (but_of HB.out b)).setCell (p := ⟨b, 1, none⟩) (Or.inl rfl) _
  go_wp2
  go_ret
  refine ⟨s5, k5, rfl, ⟨by simp, Or.inl rfl⟩, ?_, HE2.out, HBu.out⟩
  intro q e
  subst e
  rcases HO.out.2 with ⟨h1, _⟩ | ⟨g, cap, cur, h1, h2, _⟩
  · cases h1
  · cases h1; exact h2
theorem eraw_ok (w : World) (b : Nat) (sp : Option Addr) (c : Nat) (xs : List Nat) (a m : Nat) (hm : m ≤ xs.length - a) (hr : Ey w b sp c xs a 0) :
    Calls Tryz.prog 140 #[.pointer (some ⟨b, 0, none⟩), .int .i64 m] w fun e w' => EyeBytes w w' b sp c xs ((xs.drop a).take m) (a + m) 0 e := by
  rcases hr.form with ⟨rfl, rfl⟩ | ⟨g, o, rfl⟩
  · have h1 := hr.le
    simp at hm h1
    subst hm
    subst h1
    match sp, hr with
    | none, hr => exact eraw_nil w b hr
    | some ad, hr => exact eraw_ad w b ad hr
  · by_cases h : c = a
    · have h6 := hr.cap
      have h7 := hr.le
      have : m = 0 := by omega
      subst this
      subst h
      simp only [List.take_zero, Nat.add_zero]
      exact eraw_end w b g o xs c hr
    · exact eraw_far w b g o c xs a m hm h hr (hr.held.sub a m)
theorem eraw_nat (w : World) (b : Nat) (sp : Option Addr) (c : Nat) (xs : List Nat) (a f m : Nat) (hm : m ≤ 9223372036854775807) (hr : Ey w b sp c xs a f) :
    Calls Tryz.prog 140 #[.pointer (some ⟨b, 0, none⟩), .int .i64 m] w fun e w' => EyeBytes w w' b sp c xs (got xs a (rNext 5 m xs a f)) (rNext 5 m xs a f).2.1 (rNext 5 m xs a f).2.2 e := by
  by_cases hf : f ≠ 0
  · rw [rn_done 5 m xs a f hf]
    have e : got xs a (no 0, a, f) = [] := by simp [got, no]
    rw [e]
    exact eraw_done w b sp c xs a f m hf hr
  · obtain rfl : f = 0 := by omega
    have hl : (xs.drop a).length = xs.length - a := List.length_drop
    by_cases hs : xs.length - a < m
    · have e : rNext 5 m xs a 0 = (no 0, a, 10) := by
        simp only [rNext, pFind, pRaw, hl, hs, no, if_true, if_false, ne_eq, not_true_eq_false, show (5 : Int) = 3 ↔ False by decide, show (5 : Int) = 4 ↔ False by decide]
        simp
      rw [e]
      have e2 : got xs a (no 0, a, 10) = [] := by simp [got, no]
      rw [e2]
      exact eraw_short w b sp c xs a m hs hm hr
    · have e : rNext 5 m xs a 0 = (⟨0, 0, m, m, 0⟩, a + m, 0) := by
        simp only [rNext, pFind, pRaw, hl, hs, no, if_true, if_false, ne_eq, not_true_eq_false, show (5 : Int) = 3 ↔ False by decide, show (5 : Int) = 4 ↔ False by decide]
      rw [e]
      have e2 : got xs a (⟨0, 0, m, m, 0⟩, a + m, 0) = (xs.drop a).take m := by simp [got]
      rw [e2]
      exact eraw_ok w b sp c xs a m (by omega) hr
end Go.Proofs.YtjcdnclfakmbpaaGreatDoor.C
namespace Go.Proofs.YtjcdnclfakmbpaaGreatDoor.C
open Go.RowKit
theorem fix_raw (k : Int) (s : Nat) (hk : width k = s) (h3 : k ≠ 3) (h4 : k ≠ 4) (h5 : k ≠ 5) (xs : List Nat) (a f : Nat) :
    (rNext k 0 xs a f).1.num = be (got xs a (rNext 5 s xs a f)) ∧ (rNext k 0 xs a f).2 = (rNext 5 s xs a f).2 ∧ (got xs a (rNext 5 s xs a f)).length ≤ s := by
  by_cases hf : f ≠ 0
  · rw [rn_done _ _ _ _ _ hf, rn_done _ _ _ _ _ hf]
    simp [got, no, be]
  · obtain rfl : f = 0 := by omega
    have hl : (xs.drop a).length = xs.length - a := List.length_drop
    have e1 : pFind k 0 (xs.drop a) = pFixed s (xs.drop a) := by simp [pFind, h3, h4, h5, hk]
    have e2 : pFind 5 s (xs.drop a) = pRaw s (xs.drop a) := by simp [pFind]
    by_cases hs : xs.length - a < s
    · simp [rNext, e1, e2, pFixed, pRaw, hs, no, got, be]
    · simp [rNext, e1, e2, pFixed, pRaw, hs, got]
      omega
set_option maxRecDepth 100000 in
set_option maxHeartbeats 1000000 in
theorem efixed_any (w : World) (b : Nat) (sp : Option Addr) (c : Nat) (xs : List Nat) (a f : Nat) (k : Int) (s : Nat) (hk : width k = s) (h3 : k ≠ 3) (h4 : k ≠ 4) (h5 : k ≠ 5) (hs8 : s ≤ 8) (hr : Ey w b sp c xs a f) :
    Calls Tryz.prog 136 #[.pointer (some ⟨b, 0, none⟩), .int .i64 s] w fun e w' => EyeNum .u64 w w' b sp c xs (rNext k 0 xs a f) e := by
  obtain ⟨f1, f2, f3⟩ := fix_raw k s hk h3 h4 h5 xs a f
  have HF1 := hide f1
  have HF2 := hide f2
  have HC := hide (eraw_nat w b sp c xs a f s (by omega) hr)
  clear hr f1 f2
  unfold EyeNum
  rw [HF2.out]
  generalize got xs a (rNext 5 s xs a f) = ys at *
  generalize rNext 5 s xs a f = x at *
  generalize rNext k 0 xs a f = z at *
  go_enter Tryz.func136, Tryz.ntmps136
  go_wp2_with fail
  refine HC.out.mono ?_
  rintro e w1 ⟨s1, k1, rfl, hby, _, hey, hbut⟩
  have HY := hide hby
  have HE := hide hey
  have HB := hide hbut
  clear hby hey hbut HC
  go_wp2
  go_loop [6, 7] (fun n i => ∃ (j N : Nat), j ≤ ys.length ∧ i = .int .i64 j ∧ n = .int .u64 (N : Int) ∧ Hid (N = be (ys.take j))) (fun _ i => ys.length - (intOf i).toNat)
  case atStart => exact ⟨0, 0, Nat.zero_le _, rfl, rfl, by simp [Hid, be]⟩
  case round =>
    obtain ⟨j, N, hj, rfl, rfl, HN⟩ := hrel
    by_cases hlt : j < ys.length
    · obtain ⟨g, o, rfl, hg, hc⟩ : ∃ g o, s1 = some ⟨g, o, none⟩ ∧ g < w1.heap.size ∧ ∀ j, j < ys.length → w1.cell? ⟨g, o + j, none⟩ = some (.int .u8 (ys.getD j 0)) := by
        rcases HY.out.lie with h | h
        · subst h; simp at hlt
        · exact h
      have hcx := hc j hlt
      have hx : ys.getD j 0 < 256 := getD_small HY.out.small j
      have hN : N < 72057594037927936 := by rw [HN.out]; exact be_take_lt ys HY.out.small j (by omega)
      have HN2 : Hid (N * 256 + ys.getD j 0 = be (ys.take (j + 1))) := by show _ = _; rw [take_snoc ys j hlt, be_snoc, HN.out]
      clear hc
      generalize ys.getD j 0 = y at *
      have l1 : (j : Int) < (ys.length : Int) := by omega
      have l2 : (0 : Int) ≤ (j : Int) := by omega
      have l3 : (N : Int) * 256 + (y : Int) = ((N * 256 + y : Nat) : Int) := by omega
      have hN3 : N * 256 + y < 18446744073709551616 := by omega
      generalize N * 256 + y = M at *
      go_wp2
      go_round
      case rel => exact ⟨j + 1, M, by omega, by go_num, rfl, HN2⟩
      case measure => simp [intOf]; omega
    · have HZ : Hid (N = z.1.num) := by show _ = _; rw [HN.out, HF1.out, List.take_of_length_le (by omega)]
      go_wp2
      go_ret
      exact ⟨by rw [← HZ.out]; rfl, HE.out, HB.out⟩
end Go.Proofs.YtjcdnclfakmbpaaGreatDoor.C
namespace Go.Proofs.YtjcdnclfakmbpaaGreatDoor.C
open Go.RowKit
theorem fix_lt (k : Int) (s : Nat) (hk : width k = s) (h3 : k ≠ 3) (h4 : k ≠ 4) (h5 : k ≠ 5) (xs : List Nat) (hs : ∀ x ∈ xs, x < 256) (a f : Nat) : (rNext k 0 xs a f).1.num < 256 ^ s := by
  obtain ⟨f1, _, f3⟩ := fix_raw k s hk h3 h4 h5 xs a f
  rw [f1]
  exact Nat.lt_of_lt_of_le (be_lt _ (got_small hs a _)) (Nat.pow_le_pow_right (by omega) f3)
set_option maxRecDepth 100000 in
theorem eu8_any (w : World) (b : Nat) (sp : Option Addr) (c : Nat) (xs : List Nat) (a f : Nat) (hr : Ey w b sp c xs a f) :
    Calls Tryz.prog 103 #[.pointer (some ⟨b, 0, none⟩)] w fun e w' => EyeNum .u8 w w' b sp c xs (rNext 0 0 xs a f) e := by
  have hl := fix_lt 0 1 rfl (by decide) (by decide) (by decide) xs hr.held.small a f
  have HC := hide (efixed_any w b sp c xs a f 0 1 rfl (by decide) (by decide) (by decide) (by omega) hr)
  clear hr
  generalize rNext 0 0 xs a f = x at *
  have hl2 : x.1.num < 256 := by simpa using hl
  have hm : (x.1.num : Int) % 256 = (x.1.num : Int) := by omega
  clear hl
  go_enter Tryz.func103, Tryz.ntmps103
  go_wp2_with fail
  refine HC.out.mono ?_
  rintro e w1 ⟨rfl, hey, hbut⟩
  have HE := hide hey
  have HB := hide hbut
  clear hey hbut HC
  go_wp2
  go_ret
  exact ⟨rfl, HE.out, HB.out⟩
def Last (xs : List Nat) (a : Nat) (r : Int) : Prop :=
  (r = -1 ∧ ∀ j, j < 10 → a + j < xs.length → 128 ≤ xs.getD (a + j) 0) ∨ ∃ k, k < 10 ∧ a + k < xs.length ∧ r = ((a + k : Nat) : Int) ∧ xs.getD (a + k) 0 < 128 ∧ ∀ j, j < k → 128 ≤ xs.getD (a + j) 0
set_option maxRecDepth 100000 in
set_option maxHeartbeats 1000000 in
theorem elast_any (w : World) (b : Nat) (sp : Option Addr) (c : Nat) (xs : List Nat) (a f : Nat) (hr : Ey w b sp c xs a f) :
    Calls Tryz.prog 137 #[.pointer (some ⟨b, 0, none⟩)] w fun e w' => ∃ r : Int, e = .returned (.int .i64 r) ∧ Last xs a r ∧ ∃ q, w' = w.drewN q := by
  obtain ⟨q0, q1, q2, qf⟩ := blk3 hr.blk
  have HR := hide hr
  have h4 := hr.le
  have h5 := hr.len
  have HS := hide hr.held.small
  have HC : Hid (∀ j, j < xs.length → ∃ g o, sp = some ⟨g, o, none⟩ ∧ w.cell? ⟨g, o + j, none⟩ = some (.int .u8 (xs.getD j 0))) := fun j hj => by
    rcases hr.held.lie with h | ⟨g, o, e, _, hc⟩
    · subst h; simp at hj
    · exact ⟨g, o, e, hc j hj⟩
  clear hr
  go_enter Tryz.func137, Tryz.ntmps137
  go_wp2
  go_loopw [3] (fun i wr => ∃ (k q : Nat), k ≤ 10 ∧ a + k ≤ xs.length ∧ i = .int .i64 k ∧ Hid (wr = w.drewN q) ∧ Hid (∀ j, j < k → 128 ≤ xs.getD (a + j) 0)) (fun i _ => 10 - (intOf i).toNat)
  case atStart => exact ⟨0, 0, by omega, by omega, rfl, rfl, fun j hj => by omega⟩
  case round =>
    obtain ⟨k, q, hk, hka, rfl, HW, HA⟩ := hrel
    have e0 : wr.cell? ⟨b, 0, none⟩ = some (.slice sp xs.length c) := by rw [HW.out]; exact q0
    have e1 : wr.cell? ⟨b, 1, none⟩ = some (.int .i64 (a : Int)) := by rw [HW.out]; exact q1
    by_cases hk10 : k < 10
    · have l1 : (k : Int) < 10 := by omega
      have hwr : IntKind.i64.wrap ((a : Int) + (k : Int)) = ((a + k : Nat) : Int) := by rw [IntKind.wrap_i64]; omega
      have hw3 : (a : Int) + (k : Int) = ((a + k : Nat) : Int) := by omega
      have hw4 : IntKind.i64.wrap ((a + k : Nat) : Int) = ((a + k : Nat) : Int) := by rw [IntKind.wrap_i64]; omega
      by_cases hlt : a + k < xs.length
      · obtain ⟨g, o, rfl, hcx0⟩ := HC.out (a + k) hlt
        have hcx : wr.cell? ⟨g, o + (a + k), none⟩ = some (.int .u8 (xs.getD (a + k) 0)) := by rw [HW.out]; exact hcx0
        clear hcx0
        have hx := getD_small HS.out (a + k)
        have HFin : Hid (xs.getD (a + k) 0 < 128 → Last xs a ((a + k : Nat) : Int)) := fun h => Or.inr ⟨k, hk10, hlt, rfl, h, HA.out⟩
        have HA2 : Hid (128 ≤ xs.getD (a + k) 0 → ∀ j, j < k + 1 → 128 ≤ xs.getD (a + j) 0) := fun h j hj => by
          by_cases e : j = k
          · subst e; exact h
          · exact HA.out j (by omega)
        have hp2 : a + (k + 1) ≤ xs.length := by omega
        generalize xs.getD (a + k) 0 = x at *
        generalize a + k = p at *
        have l2 : (p : Int) < (xs.length : Int) := by omega
        have l3 : (0 : Int) ≤ (p : Int) := by omega
        by_cases hx8 : x < 128
        · have l4 : (x : Int) < 128 := by omega
          go_wp2
          go_quiet (fail)
          go_wp2
          go_quiet (fail)
          go_wp2
          go_ret
          exact ⟨_, rfl, HFin.out hx8, _, by rw [HW.out, World.drewN_drewN]⟩
        · have l4 : ¬ (x : Int) < 128 := by omega
          go_wp2
          go_quiet (fail)
          go_wp2
          go_quiet (fail)
          go_wp2
          go_roundw
          case rel => exact ⟨k + 1, _, by omega, hp2, by go_num, by show _ = _; rw [HW.out, World.drewN_drewN], HA2.out (by omega)⟩
          case measure => simp [intOf]; omega
      · have hE : Last xs a (-1) := Or.inl ⟨rfl, fun j hj hja => HA.out j (by omega)⟩
        have HE := hide hE
        clear hE
        generalize a + k = p at *
        have l2 : ¬ (p : Int) < (xs.length : Int) := by omega
        go_wp2
        go_quiet (fail)
        go_wp2
        go_ret
        exact ⟨_, rfl, HE.out, q + nq, by rw [HW.out, World.drewN_drewN]⟩
    · obtain rfl : k = 10 := by omega
      have HE : Hid (Last xs a (-1)) := Or.inl ⟨rfl, fun j hj _ => HA.out j hj⟩
      go_wp2
      go_quiet (fail)
      go_wp2
      go_ret
      exact ⟨_, rfl, HE.out, q + nq, by rw [HW.out, World.drewN_drewN]⟩
end Go.Proofs.YtjcdnclfakmbpaaGreatDoor.C
namespace Go.Proofs.YtjcdnclfakmbpaaGreatDoor.C
open Go.RowKit
theorem getD_drop (xs : List Nat) (a j : Nat) : (xs.drop a).getD j 0 = xs.getD (a + j) 0 := by simp [List.getD]
theorem ext_getD {xs ys : List Nat} (h : xs.length = ys.length) (he : ∀ j, j < xs.length → xs.getD j 0 = ys.getD j 0) : xs = ys := by
  apply List.ext_getElem h
  intro j h1 h2
  have := he j h1
  simpa [List.getD, h1, h2] using this
set_option maxRecDepth 100000 in
set_option maxHeartbeats 400000 in
theorem eq_dec (w : World) (sp sq : Option Addr) (n m c1 c2 : Nat) (xs ys : List Nat) (hl : xs.length = n) (hm : ys.length = m) (hn : n ≤ 140737488355328) (hn2 : m ≤ 140737488355328) (h1 : Bytes w sp xs) (h2 : Bytes w sq ys) :
    Calls Tryz.prog 49 #[.slice sp n c1, .slice sq m c2] w fun e w' => ∃ r, e = .returned (.bool r) ∧ (r = true ↔ xs = ys) ∧ ∃ q, w' = w.drewN q := by
  by_cases hnm : n = m
  · subst hnm
    by_cases h0 : n = 0
    · subst h0
      have hx : xs = [] := List.eq_nil_of_length_eq_zero hl
      have hy : ys = [] := List.eq_nil_of_length_eq_zero hm
      go_enter Tryz.func49, Tryz.ntmps49
      go_wp2
      refine wp_loop_rounds 1 ?_
      rw [rounds_succ]
      go_wp2
      go_ret
      exact ⟨true, rfl, by simp [hx, hy], 0, rfl⟩
    · obtain ⟨g, o, rfl, hg, hc⟩ : ∃ g o, sp = some ⟨g, o, none⟩ ∧ g < w.heap.size ∧ ∀ j, j < xs.length → w.cell? ⟨g, o + j, none⟩ = some (.int .u8 (xs.getD j 0)) := by
        rcases h1.lie with h | h
        · subst h; simp at hl; omega
        · exact h
      obtain ⟨g', o', rfl, hg', hc'⟩ : ∃ g o, sq = some ⟨g, o, none⟩ ∧ g < w.heap.size ∧ ∀ j, j < ys.length → w.cell? ⟨g, o + j, none⟩ = some (.int .u8 (ys.getD j 0)) := by
        rcases h2.lie with h | h
        · subst h; simp at hm; omega
        · exact h
      rw [hl] at hc
      rw [hm] at hc'
      have HC := hide hc
      have HC' := hide hc'
      have HL : Hid (xs.length = n ∧ ys.length = n) := ⟨hl, hm⟩
      clear hc hc' h1 h2 hl hm
      go_enter Tryz.func49, Tryz.ntmps49
      go_wp2
      go_loopw [5] (fun i wr => ∃ k q : Nat, k ≤ n ∧ i = .int .i64 k ∧ Hid (wr = w.drewN q) ∧ Hid (∀ j, j < k → xs.getD j 0 = ys.getD j 0)) (fun i _ => n - (intOf i).toNat)
      case atStart => exact ⟨0, 0, Nat.zero_le _, rfl, rfl, fun j hj => by omega⟩
      case round =>
        obtain ⟨k, q, hk, rfl, HW, HA⟩ := hrel
        by_cases hlt : k < n
        · have d1 : wr.cell? ⟨g, o + k, none⟩ = some (.int .u8 (xs.getD k 0)) := by rw [HW.out]; exact HC.out k hlt
          have d2 : wr.cell? ⟨g', o' + k, none⟩ = some (.int .u8 (ys.getD k 0)) := by rw [HW.out]; exact HC'.out k hlt
          have i1 : (0 : Int) ≤ (k : Int) := by omega
          have i2 : (k : Int) < (n : Int) := by omega
          have HE : Hid (xs = ys → xs.getD k 0 = ys.getD k 0) := fun e => by rw [e]
          have HA2 : Hid (xs.getD k 0 = ys.getD k 0 → ∀ j, j < k + 1 → xs.getD j 0 = ys.getD j 0) := fun h j hj => by
            by_cases e : j = k
            · subst e; exact h
            · exact HA.out j (by omega)
          generalize xs.getD k 0 = x at *
          generalize ys.getD k 0 = y at *
          by_cases hxy : x = y
          · subst hxy
            have HA3 := hide (HA2.out rfl)
            clear HA2 HE
            go_wp2
            go_quiet (fail)
            go_wp2
            go_roundw
            case rel => exact ⟨k + 1, q + nq, by omega, by go_num, by show _ = _; rw [HW.out, World.drewN_drewN], HA3⟩
            case measure => simp [intOf]; omega
          · have hb : ((x : Int) != (y : Int)) = true := by simp; omega
            have HX := hide hxy
            clear hxy
            go_wp2
            go_quiet (fail)
            go_wp2
            go_ret
            exact ⟨false, rfl, ⟨fun e => (by cases e), fun e => absurd (HE.out e) HX.out⟩, q + nq, by rw [HW.out, World.drewN_drewN]⟩
        · obtain rfl : k = n := by omega
          have HY : Hid (xs = ys) := ext_getD (by rw [HL.out.1, HL.out.2]) (fun j hj => HA.out j (by rw [HL.out.1] at hj; exact hj))
          go_wp2
          go_ret
          exact ⟨true, rfl, ⟨fun _ => HY.out, fun _ => rfl⟩, q, HW.out⟩
  · have hb : ((n : Int) != (m : Int)) = true := by simp; omega
    have HX : Hid (xs ≠ ys) := fun e => hnm (by rw [← hl, ← hm, e])
    clear h1 h2 hl hm hnm
    go_enter Tryz.func49, Tryz.ntmps49
    go_wp2
    go_ret
    exact ⟨false, rfl, ⟨fun e => (by cases e), fun e => absurd e HX.out⟩, 0, rfl⟩
theorem hv_step (ys : List Nat) (k j : Nat) (hk : k < ys.length) (hj : j ≤ k) : hv ((ys.take (k + 1)).drop j) = hv ((ys.take (k + 1)).drop (j + 1)) * 128 + ys.getD j 0 % 128 := by
  rw [drop_cons (ys.take (k + 1)) j (by rw [List.length_take]; omega), hv]
  have : (ys.take (k + 1)).getD j 0 = ys.getD j 0 := by simp [List.getD, show j < k + 1 by omega]
  rw [this]
theorem rn_var (most : Nat) (xs : List Nat) (a : Nat) : rNext 3 most xs a 0 = if (pVar most (xs.drop a) 0 0).fault ≠ 0 then (no 0, a, (pVar most (xs.drop a) 0 0).fault) else (pVar most (xs.drop a) 0 0, a + (pVar most (xs.drop a) 0 0).size, 0) := by
  simp [rNext, pFind]
theorem rn_var_bad (most : Nat) (xs : List Nat) (a f : Nat) (hf : f ≠ 0) (h : pVar most (xs.drop a) 0 0 = no f) : rNext 3 most xs a 0 = (no 0, a, f) := by
  rw [rn_var, h, if_pos (by simpa [no] using hf)]
  rfl
set_option maxRecDepth 100000 in
set_option maxHeartbeats 400000 in
theorem evar_done (w : World) (b : Nat) (sp : Option Addr) (c : Nat) (xs : List Nat) (a f most : Nat) (hf : f ≠ 0) (hr : Ey w b sp c xs a f) :
    Calls Tryz.prog 104 #[.pointer (some ⟨b, 0, none⟩), .int .u64 most] w fun e w' => EyeNum .u64 w w' b sp c xs (no 0, a, f) e := by
  obtain ⟨q0, q1, q2, qf⟩ := blk3 hr.blk
  have HR := hide hr
  clear hr
  have hb : ((f : Int) != 0) = true := by simp; omega
  go_enter Tryz.func104, Tryz.ntmps104
  go_wp2
  go_ret
  exact ⟨rfl, HR.out, But.refl _ _⟩
theorem bad_drews (w : World) (n : Nat) : Below w.heap.size w (w.drewN n) := below_draws2 (Below.refl _ _) n
set_option maxRecDepth 100000 in
set_option maxHeartbeats 1000000 in
theorem evar_open (w : World) (b : Nat) (sp : Option Addr) (c : Nat) (xs : List Nat) (a most : Nat) (_hm : most < 18446744073709551616) (hr : Ey w b sp c xs a 0) :
    Calls Tryz.prog 104 #[.pointer (some ⟨b, 0, none⟩), .int .u64 most] w fun e w' => EyeNum .u64 w w' b sp c xs (rNext 3 most xs a 0) e := by
  obtain ⟨q0, q1, q2, qf⟩ := blk3 hr.blk
  have HR := hide hr
  have h4 := hr.le
  have h5 := hr.len
  have h6 := hr.cap
  have h7 := hr.most
  have HS : Hid (∀ x ∈ xs.drop a, x < 256) := fun x hx => hr.held.small x (List.mem_of_mem_drop hx)
  have HSx := hide hr.held.small
  have HC := hide (elast_any w b sp c xs a 0 hr)
  have HDl : Hid ((xs.drop a).length = xs.length - a) := List.length_drop
  clear hr
  go_enter Tryz.func104, Tryz.ntmps104
  go_wp2_with fail
  refine HC.out.mono ?_
  rintro e w1 ⟨r, rfl, hlast, q, rfl⟩
  have HE := hide (HR.out.below (bad_drews w q))
  have HB := hide (but_of (bad_drews w q) b)
  clear HC HR q0 q1 q2 qf
  generalize w.drewN q = w1 at *
  obtain ⟨q0, q1, q2, qf⟩ := blk3 HE.out.blk
  rcases hlast with ⟨rfl, hall⟩ | ⟨k, hk, hka, rfl, hc8, hall⟩
  · by_cases hsh : xs.length - a < 10
    · have HN : Hid (rNext 3 most xs a 0 = (no 0, a, 10)) := rn_var_bad most xs a 10 (by omega) (eye_short most _ HS.out (by rw [HDl.out]; exact hsh) (fun j hj => by rw [getD_drop]; rw [HDl.out] at hj; exact hall j (by omega) (by omega)))
      clear hall
      have h8 : ((xs.length - a : Nat) : Int) < 10 := by omega
      have HE2 := hide (HE.out.fault 11)
      go_wp2_with fail
      refine (eleft_any _ b sp c xs a 11 HE2.out).mono ?_
      rintro e w2 ⟨rfl, rfl⟩
      have HE3 := hide ((HE2.out.below (Below.refl _ _).drew).fault 10)
      obtain ⟨s0, s1, s2, sf⟩ := blk3 (HE2.out.below (Below.refl _ _).drew).blk
      generalize xs.length - a = L at *
      go_wp2
      go_ret
      refine ⟨by rw [HN.out]; rfl, by rw [HN.out]; exact HE3.out, ?_⟩
      exact (((HB.out.setCell (p := ⟨b, 2, none⟩) (Or.inl rfl) _).drew).setCell (p := ⟨b, 2, none⟩) (Or.inl rfl) _)
    · have HN : Hid (rNext 3 most xs a 0 = (no 0, a, 11)) := rn_var_bad most xs a 11 (by omega) (eye_long most _ HS.out (by rw [HDl.out]; omega) (fun j hj => by rw [getD_drop]; exact hall j hj (by omega)))
      clear hall
      have h8 : ¬ ((xs.length - a : Nat) : Int) < 10 := by omega
      have HE2 := hide (HE.out.fault 11)
      go_wp2_with fail
      refine (eleft_any _ b sp c xs a 11 HE2.out).mono ?_
      rintro e w2 ⟨rfl, rfl⟩
      generalize xs.length - a = L at *
      go_wp2
      go_ret
      refine ⟨by rw [HN.out]; rfl, by rw [HN.out]; exact HE2.out.below (Below.refl _ _).drew, ?_⟩
      exact ((HB.out.setCell (p := ⟨b, 2, none⟩) (Or.inl rfl) _).drew)
  · obtain ⟨g, o, rfl⟩ : ∃ g o, sp = some ⟨g, o, none⟩ := by
      rcases HE.out.form with ⟨_, h⟩ | h
      · subst h; simp at hka
      · exact h
    have HCell : Hid (∀ j, j < k + 1 → w1.cell? ⟨g, o + (a + j), none⟩ = some (.int .u8 (xs.getD (a + j) 0))) := fun j hj => by
      rcases HE.out.held.lie with h | ⟨g', o', e, _, hc⟩
      · subst h; simp at hka
      · cases e; exact hc (a + j) (by omega)
    have HK : Hid (k < (xs.drop a).length) := by show _ < _; rw [HDl.out]; omega
    have HFo := hide (eye_form (xs.drop a) HS.out k hk HK.out (fun j hj => by rw [getD_drop]; exact hall j hj) (by rw [getD_drop]; exact hc8))
    have HFd := hide (eye_found most (xs.drop a) HS.out k hk HK.out (fun j hj => by rw [getD_drop]; exact hall j hj) (by rw [getD_drop]; exact hc8))
    have HFi := hide (eye_fits (xs.drop a) HS.out k hk HK.out)
    clear hall
    obtain ⟨P, hP, hPn⟩ : ∃ P : Nat, ((a + k : Nat) : Int) = (P : Int) ∧ P = a + k := ⟨a + k, rfl, rfl⟩
    have HPn := hide hPn
    have hP0 : ¬ (P : Int) < 0 := by omega
    have hPx : P + 1 ≤ xs.length := by omega
    rw [hP]
    clear hP hPn
    go_wp2
    go_loop [6, 7] (fun n i => ∃ (j N : Nat), j ≤ k + 1 ∧ i = .int .i64 ((a : Int) + (j : Int) - 1) ∧ n = .int .u64 (N : Int) ∧ Hid (N = hv (((xs.drop a).take (k + 1)).drop j) % 18446744073709551616)) (fun _ i => (intOf i - (a : Int) + 1).toNat)
    case atStart => exact ⟨k + 1, 0, Nat.le_refl _, by rw [HPn.out]; go_num, rfl, by show _ = _; rw [List.drop_of_length_le (by rw [List.length_take]; omega)]; rfl⟩
    case round =>
      obtain ⟨j, N, hj, rfl, rfl, HN⟩ := hrel
      by_cases hj0 : 0 < j
      · obtain ⟨i, rfl⟩ : ∃ i, j = i + 1 := ⟨j - 1, by omega⟩
        have hcx := HCell.out i (by omega)
        have hx : xs.getD (a + i) 0 < 256 := getD_small HSx.out _
        have HN2 : Hid ((N * 128 + xs.getD (a + i) 0 % 128) % 18446744073709551616 = hv (((xs.drop a).take (k + 1)).drop i) % 18446744073709551616) := by
          show _ = _
          rw [hv_step (xs.drop a) k i HK.out (by omega), getD_drop, HN.out]
          omega
        have hN64 : N < 18446744073709551616 := by rw [HN.out]; exact Nat.mod_lt _ (by omega)
        generalize xs.getD (a + i) 0 = x at *
        have hi1 : (a : Int) + ((i + 1 : Nat) : Int) - 1 = ((a + i : Nat) : Int) := by omega
        rw [hi1]
        clear hi1
        have hpm : ((a + i : Nat) : Int) - 1 = (a : Int) + (i : Int) - 1 := by omega
        have HPm := hide hpm
        clear hpm
        have l1 : (a : Int) ≤ ((a + i : Nat) : Int) := by omega
        have l2 : ((a + i : Nat) : Int) < (xs.length : Int) := by omega
        have l3 : (0 : Int) ≤ ((a + i : Nat) : Int) := by omega
        have HM : Hid (IntKind.u64.wrap (IntKind.u64.wrap ((N : Int) * 128) + (x : Int) % 128) = (((N * 128 + x % 128) % 18446744073709551616 : Nat) : Int)) := by show _ = _; rw [IntKind.wrap_u64, IntKind.wrap_u64]; omega
        generalize (N * 128 + x % 128) % 18446744073709551616 = M at *
        generalize a + i = p at *
        go_wp2
        go_round
        case rel => exact ⟨i, M, by omega, by rw [HPm.out], by rw [HM.out], HN2⟩
        case measure => simp [intOf]; omega
      · obtain rfl : j = 0 := by omega
        rw [List.drop_zero] at HN
        clear HCell
        have hN64 : N < 18446744073709551616 := by rw [HN.out]; exact Nat.mod_lt _ (by omega)
        rw [← HN.out] at HFo
        have HSub := hide (HE.out.held.sub a (k + 1))
        have HTl : Hid (((xs.drop a).take (k + 1)).length = P + 1 - a) := by show _ = _; rw [List.length_take, HDl.out, HPn.out]; omega
        have hwP : IntKind.i64.wrap ((P : Int) + 1) = ((P + 1 : Nat) : Int) := by rw [IntKind.wrap_i64]; omega
        have hwP2 : (P : Int) + 1 = ((P + 1 : Nat) : Int) := by omega
        have hwP3 : IntKind.i64.wrap ((P + 1 : Nat) : Int) = ((P + 1 : Nat) : Int) := by rw [IntKind.wrap_i64]; omega
        have hca : ¬ c = a := by omega
        have h0 : (0 : Int) ≤ (a : Int) := by omega
        have h8 : ((P + 1 : Nat) : Int) ≤ (c : Int) := by omega
        have h9 : (a : Int) ≤ ((P + 1 : Nat) : Int) := by have := HPn.out; omega
        have h11 : a ≤ P + 1 := by have := HPn.out; omega
        have h12 : P + 1 ≤ c := by omega
        have HPa : Hid (P + 1 = a + (k + 1)) := by show _ = _; rw [HPn.out]; omega
        have hvs := vs_bounds N hN64
        have HVl : Hid ((varOf N (vs N - 1)).length = vs N) := by show _ = _; rw [varOf_length]; omega
        have HVs := hide (var_small N hN64)
        have HRv := hide (fun w => ref_var_any N hN64 w)
        unfold Vared at HRv
        have HJ1 : Hid (Bad k ((xs.drop a).getD k 0) → rNext 3 most xs a 0 = (no 0, a, 11)) := fun hb => rn_var_bad most xs a 11 (by omega) (by rw [HFd.out, if_pos hb])
        have HJ2 : Hid (¬ Bad k ((xs.drop a).getD k 0) → most < N → rNext 3 most xs a 0 = (no 0, a, 12)) := fun hb hmn => rn_var_bad most xs a 12 (by omega) (by
          rw [HN.out, Nat.mod_eq_of_lt (HFi.out hb)] at hmn
          rw [HFd.out, if_neg hb, if_pos hmn])
        have HJ3 : Hid (¬ Bad k ((xs.drop a).getD k 0) → ¬ most < N → rNext 3 most xs a 0 = (⟨N, 0, 0, k + 1, 0⟩, P + 1, 0)) := fun hb hmn => by
          have hfit := HFi.out hb
          have e : N = hv ((xs.drop a).take (k + 1)) := by rw [HN.out, Nat.mod_eq_of_lt hfit]
          rw [rn_var, HFd.out, if_neg hb, ← e, if_neg hmn]
          simp [HPa.out]
        clear HFd HFi HN
        generalize (xs.drop a).take (k + 1) = ys at *
        generalize varOf N (vs N - 1) = zs at *
        generalize vs N = s at *
        generalize P + 1 = P1 at *
        go_wp2
        go_region_held3 (fun w' => w'.cell? ⟨b, 0, none⟩ = some (.slice (some ⟨g, o, none⟩) xs.length c) ∧ w'.cell? ⟨b, 1, none⟩ = some (.int .i64 (a : Int))) (go_keep)
          (first
            | (go_at_call 139; refine (HRv.out _).mono ?_; rintro e w3 ⟨g3, k3, rfl, hown3, hb3⟩; have HE3 := hide ((HE.out.below (Below.refl _ _).drew).below hb3); have HO3 := hide (owns_bytes hown3 HVs.out); have HB3 : Hid (But b w w3) := HB.out.drew.trans (but_of hb3 b); have HSub3 := hide ((HSub.out.below (Below.refl _ _).drew).below hb3); clear hown3 hb3; obtain ⟨s0, s1, s2, sf⟩ := blk3 HE3.out.blk)
            | (go_at_call 49; refine (eq_dec _ _ _ s _ _ _ zs ys HVl.out HTl.out (by omega) (by omega) HO3.out HSub3.out).mono ?_; rintro e w4 ⟨rr, rfl, hrr, q4, rfl⟩; have HRR := hide hrr; have HE4 := hide (HE3.out.below (bad_drews w3 q4)); have HB4 : Hid (But b w (w3.drewN q4)) := HB3.out.trans (but_of (bad_drews w3 q4) b); generalize w3.drewN q4 = w4 at *; clear hrr; obtain ⟨s0, s1, s2, sf⟩ := blk3 HE4.out.blk))
        by_cases hbad : Bad k ((xs.drop a).getD k 0)
        · obtain rfl : rr = false := by
            cases rr
            · rfl
            · exact absurd hbad (HFo.out.1 (HRR.out.1 rfl))
          have HN1 := hide (HJ1.out hbad)
          have HE5 := hide (HE4.out.fault 11)
          clear HJ1 HJ2 HJ3 hbad HFo HRR
          go_wp2
          go_ret
          exact ⟨by rw [HN1.out]; rfl, by rw [HN1.out]; exact HE5.out, HB4.out.setCell (p := ⟨b, 2, none⟩) (Or.inl rfl) _⟩
        · obtain rfl : rr = true := HRR.out.2 (HFo.out.2 hbad)
          by_cases hmn : most < N
          · have HN1 := hide (HJ2.out hbad hmn)
            have HE5 := hide (HE4.out.fault 12)
            have l1 : (most : Int) < (N : Int) := by omega
            clear HJ1 HJ2 HJ3 hbad HFo HRR
            go_wp2
            go_ret
            exact ⟨by rw [HN1.out]; rfl, by rw [HN1.out]; exact HE5.out, HB4.out.setCell (p := ⟨b, 2, none⟩) (Or.inl rfl) _⟩
          · have HN1 := hide (HJ3.out hbad hmn)
            have HE5 := hide (HE4.out.place P1 (by omega))
            have l1 : ¬ (most : Int) < (N : Int) := by omega
            clear HJ1 HJ2 HJ3 hbad HFo HRR
            go_wp2
            go_ret
            exact ⟨by rw [HN1.out]; rfl, by rw [HN1.out]; exact HE5.out, HB4.out.setCell (p := ⟨b, 1, none⟩) (Or.inl rfl) _⟩
theorem evar_any (w : World) (b : Nat) (sp : Option Addr) (c : Nat) (xs : List Nat) (a f most : Nat) (hm : most < 18446744073709551616) (hr : Ey w b sp c xs a f) :
    Calls Tryz.prog 104 #[.pointer (some ⟨b, 0, none⟩), .int .u64 most] w fun e w' => EyeNum .u64 w w' b sp c xs (rNext 3 most xs a f) e := by
  by_cases hf : f ≠ 0
  · rw [rn_done _ _ _ _ _ hf]
    exact evar_done w b sp c xs a f most hf hr
  · obtain rfl : f = 0 := by omega
    exact evar_open w b sp c xs a most hm hr
end Go.Proofs.YtjcdnclfakmbpaaGreatDoor.C
namespace Go.Proofs.YtjcdnclfakmbpaaGreatDoor.C
open Go.RowKit
theorem text_parts (M : Nat) (xs : List Nat) (a f : Nat) :
    ((rNext 5 (rNext 3 M xs a f).1.num xs (rNext 3 M xs a f).2.1 (rNext 3 M xs a f).2.2).2.2 ≠ 0 → rNext 4 M xs a f = (no 0, a, (rNext 5 (rNext 3 M xs a f).1.num xs (rNext 3 M xs a f).2.1 (rNext 3 M xs a f).2.2).2.2)) ∧
    ((rNext 5 (rNext 3 M xs a f).1.num xs (rNext 3 M xs a f).2.1 (rNext 3 M xs a f).2.2).2.2 = 0 → (rNext 4 M xs a f).2 = (rNext 5 (rNext 3 M xs a f).1.num xs (rNext 3 M xs a f).2.1 (rNext 3 M xs a f).2.2).2 ∧ got xs a (rNext 4 M xs a f) = got xs (rNext 3 M xs a f).2.1 (rNext 5 (rNext 3 M xs a f).1.num xs (rNext 3 M xs a f).2.1 (rNext 3 M xs a f).2.2)) ∧
    (rNext 3 M xs a f).1.num ≤ M := by
  by_cases hf : f ≠ 0
  · simp only [rn_done _ _ _ _ _ hf]
    exact ⟨fun _ => trivial, fun h => absurd h hf, Nat.zero_le _⟩
  · obtain rfl : f = 0 := by omega
    have hl : (xs.drop a).length = xs.length - a := List.length_drop
    by_cases hv : (pVar M (xs.drop a) 0 0).fault ≠ 0
    · have e3 : rNext 3 M xs a 0 = (no 0, a, (pVar M (xs.drop a) 0 0).fault) := by rw [rn_var, if_pos hv]
      have e4 : rNext 4 M xs a 0 = (no 0, a, (pVar M (xs.drop a) 0 0).fault) := by
        simp only [rNext, pFind, pBytes, if_pos hv, no, ne_eq, not_true_eq_false, if_false, show (4 : Int) = 3 ↔ False by decide, if_true]
      rw [e3, e4]
      simp only [rn_done _ _ _ _ _ hv]
      exact ⟨fun _ => trivial, fun h => absurd h hv, Nat.zero_le _⟩
    · have hv0 : (pVar M (xs.drop a) 0 0).fault = 0 := by omega
      have hz := pv_size M (xs.drop a) 0 0 hv0
      have e3 : rNext 3 M xs a 0 = (pVar M (xs.drop a) 0 0, a + (pVar M (xs.drop a) 0 0).size, 0) := by rw [rn_var, if_neg hv]
      rw [e3]
      generalize hV : pVar M (xs.drop a) 0 0 = V at *
      rw [hl] at hz
      have hl2 : (xs.drop (a + V.size)).length = xs.length - (a + V.size) := List.length_drop
      by_cases hs : xs.length - a - V.size < V.num
      · have hs2 : xs.length - (a + V.size) < V.num := by omega
        have e5 : rNext 5 V.num xs (a + V.size) 0 = (no 0, a + V.size, 10) := by
          simp only [rNext, pFind, pRaw, hl2, hs2, no, ne_eq, not_true_eq_false, if_false, if_true, show (5 : Int) = 3 ↔ False by decide, show (5 : Int) = 4 ↔ False by decide]
          simp
        have e4 : rNext 4 M xs a 0 = (no 0, a, 10) := by
          simp only [rNext, pFind, pBytes, hV, hv0, hl, hs, no, ne_eq, not_true_eq_false, if_false, if_true, show (4 : Int) = 3 ↔ False by decide]
          simp
        simp only [e5, e4]
        exact ⟨fun _ => trivial, fun h => absurd h (by decide), hz.2.2.1⟩
      · have hs2 : ¬ xs.length - (a + V.size) < V.num := by omega
        have e5 : rNext 5 V.num xs (a + V.size) 0 = (⟨0, 0, V.num, V.num, 0⟩, a + V.size + V.num, 0) := by
          simp only [rNext, pFind, pRaw, hl2, hs2, ne_eq, not_true_eq_false, if_false, if_true, show (5 : Int) = 3 ↔ False by decide, show (5 : Int) = 4 ↔ False by decide]
        have e4 : rNext 4 M xs a 0 = (⟨0, V.size, V.num, V.size + V.num, 0⟩, a + (V.size + V.num), 0) := by
          simp only [rNext, pFind, pBytes, hV, hv0, hl, hs, ne_eq, not_true_eq_false, if_false, if_true, show (4 : Int) = 3 ↔ False by decide]
        simp only [e5, e4]
        refine ⟨fun h => absurd rfl h, fun _ => ⟨by rw [Nat.add_assoc], ?_⟩, hz.2.2.1⟩
        simp [got, List.drop_drop]
set_option maxRecDepth 100000 in
set_option maxHeartbeats 1000000 in
theorem etext_at (w : World) (b : Nat) (sp : Option Addr) (c : Nat) (xs : List Nat) (a f : Nat) (m : Int) (M : Nat) (hM : M ≤ 9223372036854775807) (hmM : (m < 0 ∧ M = 0) ∨ (¬ m < 0 ∧ m = (M : Int))) (hr : Ey w b sp c xs a f) :
    Calls Tryz.prog 105 #[.pointer (some ⟨b, 0, none⟩), .int .i64 m] w fun e w' => EyeBytes w w' b sp c xs (got xs a (rNext 4 M xs a f)) (rNext 4 M xs a f).2.1 (rNext 4 M xs a f).2.2 e := by
  obtain ⟨q0, q1, q2, qf⟩ := blk3 hr.blk
  obtain ⟨p1, p2, p3⟩ := text_parts M xs a f
  have HP1 := hide p1
  have HP2 := hide p2
  have HC := hide (evar_any w b sp c xs a f M (by omega) hr)
  have h4 := hr.le
  clear hr p1 p2
  generalize rNext 4 M xs a f = x4 at *
  generalize rNext 3 M xs a f = x3 at *
  have HC5 := hide (fun w (h : Ey w b sp c xs x3.2.1 x3.2.2) => eraw_nat w b sp c xs x3.2.1 x3.2.2 x3.1.num (by omega) h)
  generalize rNext 5 x3.1.num xs x3.2.1 x3.2.2 = x5 at *
  have hN : x3.1.num ≤ 9223372036854775807 := by omega
  obtain ⟨N, hNe⟩ : ∃ N, N = x3.1.num := ⟨_, rfl⟩
  rw [← hNe] at HC5 hN
  unfold EyeNum at HC
  rw [← hNe] at HC
  clear hNe p3
  generalize got xs x3.2.1 x5 = ys at *
  rcases hmM with ⟨hm0, rfl⟩ | ⟨hm0, rfl⟩
  all_goals
    go_enter Tryz.func105, Tryz.ntmps105
    go_wp2_with fail
    refine HC.out.mono ?_
    rintro e w1 ⟨rfl, hey1, hbut1⟩
    have HE1 := hide hey1
    have HB1 := hide hbut1
    clear hey1 hbut1 HC
    go_wp2_with fail
    refine (HC5.out _ HE1.out).mono ?_
    rintro e w2 ⟨s2, k2, rfl, hby2, hfar2, hey2, hbut2⟩
    have HE2 := hide hey2
    have HB2 : Hid (But b w w2) := HB1.out.trans hbut2
    have HY2 := hide hby2
    have HF2 : Hid (∀ p, s2 = some p → w.heap.size ≤ p.block) := fun p e => Nat.le_trans HB1.out.size (hfar2 p e)
    clear hey2 hbut2 hby2 hfar2 HC5 HE1 HB1 q0 q1 q2 qf
    obtain ⟨q0, q1, q2, qf⟩ := blk3 HE2.out.blk
    by_cases h5 : x5.2.2 ≠ 0
    · have HX := hide (HP1.out h5)
      have hb : ((x5.2.2 : Int) != 0) = true := by simp; omega
      have HE3 := hide (HE2.out.place a h4)
      go_wp2
      go_ret
      rw [HX.out]
      refine ⟨none, 0, by simp [got, no], by simpa [got, no] using nil_bytes _, fun p e => (by cases e), HE3.out, HB2.out.setCell (p := ⟨b, 1, none⟩) (Or.inl rfl) _⟩
    · have h50 : x5.2.2 = 0 := by omega
      have HX := hide (HP2.out h50)
      have hb : ((x5.2.2 : Int) != 0) = false := by simp; omega
      go_wp2
      go_ret
      rw [HX.out.1, HX.out.2]
      exact ⟨s2, k2, rfl, HY2.out, HF2.out, HE2.out, HB2.out⟩
theorem etext_any (w : World) (b : Nat) (sp : Option Addr) (c : Nat) (xs : List Nat) (a f : Nat) (m : Int) (hm : m ≤ 9223372036854775807) (hr : Ey w b sp c xs a f) :
    Calls Tryz.prog 105 #[.pointer (some ⟨b, 0, none⟩), .int .i64 m] w fun e w' => EyeBytes w w' b sp c xs (got xs a (rText m xs a f)) (rText m xs a f).2.1 (rText m xs a f).2.2 e := by
  unfold rText
  exact etext_at w b sp c xs a f m (max 0 m).toNat (by omega) (by omega) hr
end Go.Proofs.YtjcdnclfakmbpaaGreatDoor.C
