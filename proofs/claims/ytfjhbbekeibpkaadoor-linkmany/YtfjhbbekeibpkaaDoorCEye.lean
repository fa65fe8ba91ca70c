import Derived.Test.YtfjhbbekeibpkaaDoorCEyeP
import Derived.Test.YtfjhbbekeibpkaaDoorCWrites
namespace Go.Proofs.YtfjhbbekeibpkaaDoor.C
open Go.RowKit

set_option maxRecDepth 100000 in
set_option maxHeartbeats 400000 in
theorem copy_any (w : World) (sp : Option Addr) (m cap : Nat) (xs : List Nat) (hm : xs.length = m) (hx : Bytes w sp xs) (hlen : m ≤ 140737488355328) :
    Calls Tryd.prog 61 #[.slice sp m cap] w fun e w' => ∃ v, e = .returned v ∧ w'.ownsRow w.heap.size 5 1 v m (vals xs) ∧ Below w.heap.size w w' := by
  have HX := hide hx
  have HM := hide hm
  have HO : Hid (w.ownsRow 0 5 1 (.slice none 0 0) 0 []) := ⟨rfl, Or.inl ⟨rfl, rfl⟩⟩
  clear hx hm
  go_enter Tryd.func61, Tryd.ntmps61
  go_wp2_with (at_builtin; refine wpList_append_held rfl (.tmp 4) (.tmp 5) rfl (.slice none 0 0) 0 [] rfl HO.out sp m cap xs rfl HM.out HX.out (by omega) ?_; intro v w1 hown hgrow hat)
  have HV : Hid (w1.ownsRow w.heap.size 5 1 v m (vals xs)) := by
    have h : w1.ownsRow 0 5 1 v m (vals xs) := by simpa using hown
    refine ⟨h.1, h.2.elim Or.inl ?_⟩
    rintro ⟨g, cap, cur, h1, _, r⟩
    refine Or.inr ⟨g, cap, cur, h1, ?_, r⟩
    rcases hat with e | e
    · rw [h1] at e; simp [Value.ownBlock] at e
    · rw [h1] at e; simp [Value.ownBlock] at e; omega
  have HB : Hid (Below w.heap.size w w1) := (Below.refl _ _).grown hgrow (Nat.le_refl _) (fun k e => by cases e)
  clear hown hgrow hat
  obtain ⟨a, n, c, rfl⟩ : ∃ a n c, v = .slice a n c := by
    rcases HV.out.2 with ⟨h1, _⟩ | ⟨g, cap, cur, h1, _⟩
    · exact ⟨_, _, _, h1⟩
    · exact ⟨_, _, _, h1⟩
  go_wp2
  go_ret
  exact ⟨_, rfl, HV.out, HB.out⟩

/-- THE DOCUMENT's READER: its block, what it reads, its place, its fault. -/
structure Ey (w : World) (b : Nat) (sp : Option Addr) (c : Nat) (xs : List Nat) (a f : Nat) : Prop where
  blk : w.heap[b]? = some (.cells #[.slice sp xs.length c, .int .i64 (a : Int), .int .i64 (f : Int)] 68 (0, 0))
  held : Bytes w sp xs
  form : (c = 0 ∧ xs = []) ∨ ∃ g o, sp = some ⟨g, o, none⟩
  len : xs.length ≤ 140737488351232
  cap : xs.length ≤ c
  most : c ≤ 9223372036854775807
  le : a ≤ xs.length

theorem Ey.lt {w : World} {b : Nat} {sp : Option Addr} {c : Nat} {xs : List Nat} {a f : Nat} (r : Ey w b sp c xs a f) : b < w.heap.size := lt_of_block r.blk
theorem Ey.but {w w' : World} {b : Nat} {sp : Option Addr} {c : Nat} {xs : List Nat} {a f a2 f2 : Nat} (r : Ey w b sp c xs a f) (k : But b w w') (hle : a2 ≤ xs.length)
    (hb : w'.heap[b]? = some (.cells #[.slice sp xs.length c, .int .i64 (a2 : Int), .int .i64 (f2 : Int)] 68 (0, 0))) : Ey w' b sp c xs a2 f2 :=
  ⟨hb, r.held.kept b (fun i hi hl => k.block i hl hi) k.size (fun _ _ _ => not_bytes' r.blk), r.form, r.len, r.cap, r.most, hle⟩
theorem Ey.below {w w' : World} {b : Nat} {sp : Option Addr} {c : Nat} {xs : List Nat} {a f : Nat} (r : Ey w b sp c xs a f) (k : Below w.heap.size w w') : Ey w' b sp c xs a f :=
  ⟨(k.block b r.lt).trans r.blk, r.held.below k, r.form, r.len, r.cap, r.most, r.le⟩
/-- Its fault, or its place, is set. -/
theorem Ey.fault {w : World} {b : Nat} {sp : Option Addr} {c : Nat} {xs : List Nat} {a f : Nat} (r : Ey w b sp c xs a f) (f2 : Nat) : Ey (w.setCell ⟨b, 2, none⟩ (.int .i64 (f2 : Int))) b sp c xs a f2 :=
  r.but ((But.refl b w).setCell (Or.inl rfl) _) r.le (by rw [block_set r.blk]; rfl)
theorem Ey.place {w : World} {b : Nat} {sp : Option Addr} {c : Nat} {xs : List Nat} {a f : Nat} (r : Ey w b sp c xs a f) (a2 : Nat) (h : a2 ≤ xs.length) : Ey (w.setCell ⟨b, 1, none⟩ (.int .i64 (a2 : Int))) b sp c xs a2 f :=
  r.but ((But.refl b w).setCell (Or.inl rfl) _) h (by rw [block_set r.blk]; rfl)

def EyeNum (kd : IntKind) (w w' : World) (b : Nat) (sp : Option Addr) (c : Nat) (xs : List Nat) (x : It × Nat × Nat) (e : Ending) : Prop :=
  e = .returned (.int kd (x.1.num : Int)) ∧ Ey w' b sp c xs x.2.1 x.2.2 ∧ But b w w'
def EyeBytes (w w' : World) (b : Nat) (sp : Option Addr) (c : Nat) (xs : List Nat) (ys : List Nat) (a f : Nat) (e : Ending) : Prop :=
  ∃ s k, e = .returned (.slice s ys.length k) ∧ Bytes w' s ys ∧ (∀ p, s = some p → w.heap.size ≤ p.block) ∧ Ey w' b sp c xs a f ∧ But b w w'

theorem nil_bytes (w : World) : Bytes w none [] := ⟨by simp, Or.inl rfl⟩
theorem Bytes.sub {w : World} {g o : Nat} {xs : List Nat} (h : Bytes w (some ⟨g, o, none⟩) xs) (a n : Nat) : Bytes w (some ⟨g, o + a, none⟩) ((xs.drop a).take n) := by
  refine ⟨fun x hx => h.small x (List.mem_of_mem_drop (List.mem_of_mem_take hx)), ?_⟩
  rcases h.lie with h0 | ⟨g', o', e, hg, hc⟩
  · subst h0; exact Or.inl (by simp)
  · cases e
    refine Or.inr ⟨g, o + a, rfl, hg, fun j hj => ?_⟩
    simp at hj
    have hj1 : j < n := by omega
    have := hc (a + j) (by omega)
    rw [show o + a + j = o + (a + j) by omega, this]
    simp [List.getD, hj1]

set_option maxRecDepth 100000 in
set_option maxHeartbeats 400000 in
theorem eleft_any (w : World) (b : Nat) (sp : Option Addr) (c : Nat) (xs : List Nat) (a f : Nat) (hr : Ey w b sp c xs a f) :
    Calls Tryd.prog 41 #[.pointer (some ⟨b, 0, none⟩)] w fun e w' => e = .returned (.int .i64 ((xs.length - a : Nat) : Int)) ∧ w' = w.drew := by
  obtain ⟨q0, q1, q2, qf⟩ := blk3 hr.blk
  have h1 := hr.le
  have h2 := hr.len
  have he : Hid (((xs.length - a : Nat) : Int) = (xs.length : Int) - (a : Int)) := Int.ofNat_sub h1
  clear hr
  generalize xs.length = n at *
  go_enter Tryd.func41, Tryd.ntmps41
  go_wp2
  go_region
  go_wp2
  go_ret
  rw [he.out]
  exact ⟨rfl, rfl⟩

set_option maxRecDepth 100000 in
set_option maxHeartbeats 400000 in
theorem eraw_done (w : World) (b : Nat) (sp : Option Addr) (c : Nat) (xs : List Nat) (a f : Nat) (m : Int) (hf : f ≠ 0) (hr : Ey w b sp c xs a f) :
    Calls Tryd.prog 43 #[.pointer (some ⟨b, 0, none⟩), .int .i64 m] w fun e w' => EyeBytes w w' b sp c xs [] a f e := by
  obtain ⟨q0, q1, q2, qf⟩ := blk3 hr.blk
  have HR := hide hr
  clear hr
  have hb : ((f : Int) != 0) = true := by simp; omega
  go_enter Tryd.func43, Tryd.ntmps43
  go_wp2
  go_ret
  exact ⟨none, 0, rfl, nil_bytes _, fun p e => (by cases e), HR.out, But.refl _ _⟩

set_option maxRecDepth 100000 in
set_option maxHeartbeats 400000 in
theorem eraw_neg (w : World) (b : Nat) (sp : Option Addr) (c : Nat) (xs : List Nat) (a : Nat) (m : Int) (hm : m < 0) (hr : Ey w b sp c xs a 0) :
    Calls Tryd.prog 43 #[.pointer (some ⟨b, 0, none⟩), .int .i64 m] w fun e w' => EyeBytes w w' b sp c xs [] a 14 e := by
  obtain ⟨q0, q1, q2, qf⟩ := blk3 hr.blk
  have HR := hide hr
  clear hr
  go_enter Tryd.func43, Tryd.ntmps43
  go_wp2
  go_ret
  exact ⟨none, 0, rfl, nil_bytes _, fun p e => (by cases e), HR.out.fault 14, (But.refl b w).setCell (p := ⟨b, 2, none⟩) (Or.inl rfl) _⟩

set_option maxRecDepth 100000 in
set_option maxHeartbeats 400000 in
theorem eraw_short (w : World) (b : Nat) (sp : Option Addr) (c : Nat) (xs : List Nat) (a m : Nat) (hm : xs.length - a < m) (_hm2 : m ≤ 9223372036854775807) (hr : Ey w b sp c xs a 0) :
    Calls Tryd.prog 43 #[.pointer (some ⟨b, 0, none⟩), .int .i64 m] w fun e w' => EyeBytes w w' b sp c xs [] a 10 e := by
  obtain ⟨q0, q1, q2, qf⟩ := blk3 hr.blk
  have HR := hide hr
  have HD := hide (hr.below (Below.refl _ _).drew)
  clear hr
  have h1 : ¬ (m : Int) < 0 := by omega
  have h2 : ((xs.length - a : Nat) : Int) < (m : Int) := by omega
  go_enter Tryd.func43, Tryd.ntmps43
  go_wp2_with fail
  refine (eleft_any _ b sp c xs a 0 HR.out).mono ?_
  rintro e w' ⟨rfl, rfl⟩
  generalize xs.length - a = L at *
  go_wp2
  go_ret
  exact ⟨none, 0, rfl, nil_bytes _, fun p e => (by cases e), HD.out.fault 10, ((But.refl b w).setCell (p := ⟨b, 2, none⟩) (Or.inl rfl) _).drew⟩

theorem Tryd.elemB : Tryd.prog.elem 27 = 5 := by kernel_rfl
theorem add_one (g o n : Nat) : (⟨g, o, none⟩ : Addr).add (n * 1) = ⟨g, o + n, none⟩ := by
  unfold Addr.add
  by_cases h : n = 0
  · subst h; simp
  · simp [h]

/-- 'b[a:p]'. -/
theorem sub_slice {w : World} {sp : Option Addr} {c : Nat} {xs : List Nat} (hx : Bytes w sp xs) (hf : (sp = none ∧ c = 0 ∧ xs = []) ∨ ∃ g o, sp = some ⟨g, o, none⟩) (hc : xs.length ≤ c) (a m p : Nat) (hp : a + m = p) (hle : p ≤ xs.length) :
    ∃ s' : Option Addr, (∀ wx : World, (Instr.slice 27 (.slice sp xs.length c) (some (.int .i64 (a : Int))) (some (.int .i64 (p : Int))) none).run Tryd.prog wx = .ok (.slice s' (p - a) (c - a)) wx) ∧ Bytes w s' ((xs.drop a).take m) := by
  obtain ⟨i0, hi, hz0, hz1, hz2⟩ := info_parts Tryd.info5'
  have hr : ∀ wx : World, (Instr.slice 27 (.slice sp xs.length c) (some (.int .i64 (a : Int))) (some (.int .i64 (p : Int))) none).run Tryd.prog wx = .ok (.slice (if c = a then sp else sp.map (·.add (a * 1))) (p - a) (c - a)) wx := fun wx => by
    rw [run_slice_lh (P := Tryd.prog) wx 27 sp xs.length c (by rw [Tryd.elemB]; exact Tryd.underlying27) .i64 .i64 a p (by omega) (by omega) (by omega), Tryd.elemB]
    simp [sizeOf, typeInfo, hi, hz1, sliced, Result.andThen]
  refine ⟨_, hr, ?_⟩
  rcases hf with ⟨rfl, rfl, rfl⟩ | ⟨g, o, rfl⟩
  · simp at hle
    have : m = 0 := by omega
    subst this
    have : a = 0 := by omega
    subst this
    exact ⟨by simp, Or.inl (by simp)⟩
  · by_cases h : c = a
    · rw [if_pos h]
      have : m = 0 := by omega
      subst this
      exact ⟨by simp, Or.inl (by simp)⟩
    · rw [if_neg h]
      simp only [Option.map_some, add_one]
      exact hx.sub a m

set_option maxRecDepth 100000 in
set_option maxHeartbeats 1000000 in
theorem eraw_far (w : World) (b : Nat) (g o : Nat) (c : Nat) (xs : List Nat) (a m : Nat) (hm : m ≤ xs.length - a) (hca : ¬ c = a) (hr : Ey w b (some ⟨g, o, none⟩) c xs a 0) (hby : Bytes w (some ⟨g, o + a, none⟩) ((xs.drop a).take m)) :
    Calls Tryd.prog 43 #[.pointer (some ⟨b, 0, none⟩), .int .i64 m] w fun e w' => EyeBytes w w' b (some ⟨g, o, none⟩) c xs ((xs.drop a).take m) (a + m) 0 e := by
  obtain ⟨q0, q1, q2, qf⟩ := blk3 hr.blk
  have HR := hide hr
  have h4 := hr.le
  have h5 := hr.len
  have h6 := hr.cap
  have h7 := hr.most
  have HD := hide (hr.below (Below.refl _ _).drew.drew)
  obtain ⟨p, hp, hpa, hpl⟩ : ∃ p : Nat, (a : Int) + (m : Int) = (p : Int) ∧ a + m = p ∧ p - a = m := ⟨a + m, by omega, rfl, by omega⟩
  have HY := hide (hby.below (Below.refl _ _).drew.drew)
  have HL : Hid (((xs.drop a).take m).length = p - a) := by show _ = _; simp; omega
  clear hr hby
  have h1 : ¬ (m : Int) < 0 := by omega
  have h2 : ¬ ((xs.length - a : Nat) : Int) < (m : Int) := by omega
  have hw : IntKind.i64.wrap ((a : Int) + (m : Int)) = (p : Int) := by rw [IntKind.wrap_i64]; omega
  have hw2 : IntKind.i64.wrap (p : Int) = (p : Int) := by rw [IntKind.wrap_i64]; omega
  have hple : p ≤ xs.length := by omega
  have h8 : (p : Int) ≤ (c : Int) := by omega
  have h9 : (a : Int) ≤ (p : Int) := by omega
  have h0 : (0 : Int) ≤ (a : Int) := by omega
  have h10 : (0 : Int) ≤ (p : Int) := by omega
  have hn1 : a ≤ p := by omega
  have hn2 : p ≤ c := by omega
  rw [hpa]
  clear hpa hpl
  generalize (xs.drop a).take m = ys at *
  go_enter Tryd.func43, Tryd.ntmps43
  go_wp2_with fail
  refine (eleft_any _ b _ c xs a 0 HR.out).mono ?_
  rintro e w' ⟨rfl, rfl⟩
  go_wp2
  go_region_held3 (fun w' => w'.cell? ⟨b, 0, none⟩ = some (.slice (some ⟨g, o, none⟩) xs.length c) ∧ w'.cell? ⟨b, 1, none⟩ = some (.int .i64 (a : Int))) (go_keep)
    (first | (go_at_call 61; refine (copy_any _ _ _ _ ys HL.out HY.out (by omega)).mono ?_; rintro e w5 ⟨v5, rfl, hown, hb5⟩; have HO := hide hown; have HB := hide hb5; have HE := hide (HD.out.below hb5); obtain ⟨r0, r1, r2, rf⟩ := blk3 HE.out.blk; clear hown hb5))
  obtain ⟨s5, k5, rfl⟩ : ∃ s k, v5 = .slice s (p - a) k := by
    rcases HO.out.2 with ⟨h1, h2⟩ | ⟨g, cap, cur, h1, _⟩
    · exact ⟨_, _, by rw [h1, h2]⟩
    · exact ⟨_, _, h1⟩
  have HE2 := hide (HE.out.place p hple)
  have HBu : Hid (But b w (w5.setCell ⟨b, 1, none⟩ (.int .i64 (p : Int)))) := (((but_of (Below.refl _ _) b).drew.drew).trans (but_of HB.out b)).setCell (p := ⟨b, 1, none⟩) (Or.inl rfl) _
  have HYs := hide (HY.out.small)
  go_wp2
  go_ret
  refine ⟨s5, k5, by rw [HL.out]; rfl, ?_, ?_, HE2.out, HBu.out⟩
  · have hb5 := owns_bytes HO.out HYs.out
    exact hb5.kept b (fun k hk hl => by rw [Below.heap_setCell _ _ _ _ hk]) (by simp) (fun _ _ _ => not_bytes' HE.out.blk)
  · intro q e
    subst e
    rcases HO.out.2 with ⟨h1, _⟩ | ⟨g, cap, cur, h1, h2, _⟩
    · cases h1
    · cases h1; exact h2

set_option maxRecDepth 100000 in
set_option maxHeartbeats 1000000 in
theorem eraw_end (w : World) (b g o : Nat) (xs : List Nat) (a : Nat) (hr : Ey w b (some ⟨g, o, none⟩) a xs a 0) :
    Calls Tryd.prog 43 #[.pointer (some ⟨b, 0, none⟩), .int .i64 0] w fun e w' => EyeBytes w w' b (some ⟨g, o, none⟩) a xs [] a 0 e := by
  obtain ⟨q0, q1, q2, qf⟩ := blk3 hr.blk
  have HR := hide hr
  have h4 := hr.le
  have h5 := hr.len
  have HD := hide (hr.below (Below.refl _ _).drew.drew)
  clear hr
  have h2 : ¬ ((xs.length - a : Nat) : Int) < 0 := by omega
  have hw0 : IntKind.i64.wrap ((a : Int) + 0) = (a : Int) := by rw [IntKind.wrap_i64]; omega
  have hw2 : IntKind.i64.wrap (a : Int) = (a : Int) := by rw [IntKind.wrap_i64]; omega
  have h0 : (0 : Int) ≤ (a : Int) := by omega
  go_enter Tryd.func43, Tryd.ntmps43
  go_wp2_with fail
  refine (eleft_any _ b _ a xs a 0 HR.out).mono ?_
  rintro e w' ⟨rfl, rfl⟩
  go_wp2
  go_region_held3 (fun w' => w'.cell? ⟨b, 0, none⟩ = some (.slice (some ⟨g, o, none⟩) xs.length a) ∧ w'.cell? ⟨b, 1, none⟩ = some (.int .i64 (a : Int))) (go_keep)
    (first | (go_at_call 61; refine (copy_any _ _ 0 0 [] rfl ⟨by simp, Or.inl rfl⟩ (by omega)).mono ?_; rintro e w5 ⟨v5, rfl, hown, hb5⟩; have HO := hide hown; have HB := hide hb5; have HE := hide (HD.out.below hb5); obtain ⟨r0, r1, r2, rf⟩ := blk3 HE.out.blk; clear hown hb5))
  obtain ⟨s5, k5, rfl⟩ : ∃ s k, v5 = .slice s 0 k := by
    rcases HO.out.2 with ⟨h1, h2⟩ | ⟨g, cap, cur, h1, _⟩
    · exact ⟨_, _, h1⟩
    · exact ⟨_, _, h1⟩
  have HE2 := hide (HE.out.place a h4)
  have HBu : Hid (But b w (w5.setCell ⟨b, 1, none⟩ (.int .i64 (a : Int)))) := (((but_of (Below.refl _ _) b).drew.drew).trans (but_of HB.out b)).setCell (p := ⟨b, 1, none⟩) (Or.inl rfl) _
  go_wp2
  go_ret
  refine ⟨s5, k5, rfl, ⟨by simp, Or.inl rfl⟩, ?_, HE2.out, HBu.out⟩
  intro q e
  subst e
  rcases HO.out.2 with ⟨h1, _⟩ | ⟨g, cap, cur, h1, h2, _⟩
  · cases h1
  · cases h1; exact h2

set_option maxRecDepth 100000 in
set_option maxHeartbeats 1000000 in
theorem eraw_nil (w : World) (b : Nat) (hr : Ey w b none 0 [] 0 0) :
    Calls Tryd.prog 43 #[.pointer (some ⟨b, 0, none⟩), .int .i64 0] w fun e w' => EyeBytes w w' b none 0 [] [] 0 0 e := by
  obtain ⟨q0, q1, q2, qf⟩ := blk3 hr.blk
  have HR := hide hr
  have HD := hide (hr.below (Below.refl _ _).drew.drew)
  clear hr
  have hw0 : IntKind.i64.wrap 0 = 0 := by decide
  go_enter Tryd.func43, Tryd.ntmps43
  go_wp2_with fail
  refine (eleft_any _ b _ 0 [] 0 0 HR.out).mono ?_
  rintro e w' ⟨rfl, rfl⟩
  go_wp2
  go_region_held3 (fun w' => w'.cell? ⟨b, 0, none⟩ = some (.slice none 0 0) ∧ w'.cell? ⟨b, 1, none⟩ = some (.int .i64 0)) (go_keep)
    (first | (go_at_call 61; refine (copy_any _ none 0 0 [] rfl (nil_bytes _) (by omega)).mono ?_; rintro e w5 ⟨v5, rfl, hown, hb5⟩; have HO := hide hown; have HB := hide hb5; have HE := hide (HD.out.below hb5); obtain ⟨r0, r1, r2, rf⟩ := blk3 HE.out.blk; clear hown hb5))
  obtain ⟨s5, k5, rfl⟩ : ∃ s k, v5 = .slice s 0 k := by
    rcases HO.out.2 with ⟨h1, h2⟩ | ⟨g, cap, cur, h1, _⟩
    · exact ⟨_, _, h1⟩
    · exact ⟨_, _, h1⟩
  have HE2 := hide (HE.out.place 0 (Nat.le_refl _))
  have HBu : Hid (But b w (w5.setCell ⟨b, 1, none⟩ (.int .i64 ((0 : Nat) : Int)))) := (((but_of (Below.refl _ _) b).drew.drew).trans (but_of HB.out b)).setCell (p := ⟨b, 1, none⟩) (Or.inl rfl) _
  go_wp2
  go_ret
  refine ⟨s5, k5, rfl, ⟨by simp, Or.inl rfl⟩, ?_, HE2.out, HBu.out⟩
  intro q e
  subst e
  rcases HO.out.2 with ⟨h1, _⟩ | ⟨g, cap, cur, h1, h2, _⟩
  · cases h1
  · cases h1; exact h2

set_option maxRecDepth 100000 in
set_option maxHeartbeats 1000000 in
theorem eraw_ad (w : World) (b : Nat) (ad : Addr) (hr : Ey w b (some ad) 0 [] 0 0) :
    Calls Tryd.prog 43 #[.pointer (some ⟨b, 0, none⟩), .int .i64 0] w fun e w' => EyeBytes w w' b (some ad) 0 [] [] 0 0 e := by
  obtain ⟨q0, q1, q2, qf⟩ := blk3 hr.blk
  have HR := hide hr
  have HD := hide (hr.below (Below.refl _ _).drew.drew)
  clear hr
  have hw0 : IntKind.i64.wrap 0 = 0 := by decide
  go_enter Tryd.func43, Tryd.ntmps43
  go_wp2_with fail
  refine (eleft_any _ b _ 0 [] 0 0 HR.out).mono ?_
  rintro e w' ⟨rfl, rfl⟩
  go_wp2
  go_region_held3 (fun w' => w'.cell? ⟨b, 0, none⟩ = some (.slice (some ad) 0 0) ∧ w'.cell? ⟨b, 1, none⟩ = some (.int .i64 0)) (go_keep)
    (first | (go_at_call 61; refine (copy_any _ _ 0 0 [] rfl ⟨by simp, Or.inl rfl⟩ (by omega)).mono ?_; rintro e w5 ⟨v5, rfl, hown, hb5⟩; have HO := hide hown; have HB := hide hb5; have HE := hide (HD.out.below hb5); obtain ⟨r0, r1, r2, rf⟩ := blk3 HE.out.blk; clear hown hb5))
  obtain ⟨s5, k5, rfl⟩ : ∃ s k, v5 = .slice s 0 k := by
    rcases HO.out.2 with ⟨h1, h2⟩ | ⟨g, cap, cur, h1, _⟩
    · exact ⟨_, _, h1⟩
    · exact ⟨_, _, h1⟩
  have HE2 := hide (HE.out.place 0 (Nat.le_refl _))
  have HBu : Hid (But b w (w5.setCell ⟨b, 1, none⟩ (.int .i64 ((0 : Nat) : Int)))) := (((but_of (Below.refl _ _) b).drew.drew).trans (but_of HB.out b)).setCell (p := ⟨b, 1, none⟩) (Or.inl rfl) _
  go_wp2
  go_ret
  refine ⟨s5, k5, rfl, ⟨by simp, Or.inl rfl⟩, ?_, HE2.out, HBu.out⟩
  intro q e
  subst e
  rcases HO.out.2 with ⟨h1, _⟩ | ⟨g, cap, cur, h1, h2, _⟩
  · cases h1
  · cases h1; exact h2

/-- Raw, by the document. -/
theorem eraw_ok (w : World) (b : Nat) (sp : Option Addr) (c : Nat) (xs : List Nat) (a m : Nat) (hm : m ≤ xs.length - a) (hr : Ey w b sp c xs a 0) :
    Calls Tryd.prog 43 #[.pointer (some ⟨b, 0, none⟩), .int .i64 m] w fun e w' => EyeBytes w w' b sp c xs ((xs.drop a).take m) (a + m) 0 e := by
  rcases hr.form with ⟨rfl, rfl⟩ | ⟨g, o, rfl⟩
  · have h1 := hr.le
    simp at hm h1
    subst hm
    subst h1
    match sp, hr with
    | none, hr => exact eraw_nil w b hr
    | some ad, hr => exact eraw_ad w b ad hr
  · by_cases h : c = a
    · have h6 := hr.cap
      have h7 := hr.le
      have : m = 0 := by omega
      subst this
      subst h
      simp only [List.take_zero, Nat.add_zero]
      exact eraw_end w b g o xs c hr
    · exact eraw_far w b g o c xs a m hm h hr (hr.held.sub a m)

theorem eraw_nat (w : World) (b : Nat) (sp : Option Addr) (c : Nat) (xs : List Nat) (a f m : Nat) (hm : m ≤ 9223372036854775807) (hr : Ey w b sp c xs a f) :
    Calls Tryd.prog 43 #[.pointer (some ⟨b, 0, none⟩), .int .i64 m] w fun e w' => EyeBytes w w' b sp c xs (got xs a (rNext 5 m xs a f)) (rNext 5 m xs a f).2.1 (rNext 5 m xs a f).2.2 e := by
  by_cases hf : f ≠ 0
  · rw [rn_done 5 m xs a f hf]
    have e : got xs a (no 0, a, f) = [] := by simp [got, no]
    rw [e]
    exact eraw_done w b sp c xs a f m hf hr
  · obtain rfl : f = 0 := by omega
    have hl : (xs.drop a).length = xs.length - a := List.length_drop
    by_cases hs : xs.length - a < m
    · have e : rNext 5 m xs a 0 = (no 0, a, 10) := by
        simp only [rNext, pFind, pRaw, hl, hs, no, if_true, if_false, ne_eq, not_true_eq_false, show (5 : Int) = 3 ↔ False by decide, show (5 : Int) = 4 ↔ False by decide]
        simp
      rw [e]
      have e2 : got xs a (no 0, a, 10) = [] := by simp [got, no]
      rw [e2]
      exact eraw_short w b sp c xs a m hs hm hr
    · have e : rNext 5 m xs a 0 = (⟨0, 0, m, m, 0⟩, a + m, 0) := by
        simp only [rNext, pFind, pRaw, hl, hs, no, if_true, if_false, ne_eq, not_true_eq_false, show (5 : Int) = 3 ↔ False by decide, show (5 : Int) = 4 ↔ False by decide]
      rw [e]
      have e2 : got xs a (⟨0, 0, m, m, 0⟩, a + m, 0) = (xs.drop a).take m := by simp [got]
      rw [e2]
      exact eraw_ok w b sp c xs a m (by omega) hr

theorem eraw_any (w : World) (b : Nat) (sp : Option Addr) (c : Nat) (xs : List Nat) (a f : Nat) (m : Int) (hm : m ≤ 9223372036854775807) (hr : Ey w b sp c xs a f) :
    Calls Tryd.prog 43 #[.pointer (some ⟨b, 0, none⟩), .int .i64 m] w fun e w' => EyeBytes w w' b sp c xs (got xs a (rRaw m xs a f)) (rRaw m xs a f).2.1 (rRaw m xs a f).2.2 e := by
  by_cases h0 : m < 0
  · rw [rRaw, if_pos h0]
    have e2 : got xs a (no 0, a, if f ≠ 0 then f else 14) = [] := by simp [got, no]
    rw [e2]
    by_cases hf : f ≠ 0
    · simp only [if_pos hf]
      exact eraw_done w b sp c xs a f m hf hr
    · simp only [if_neg hf]
      obtain rfl : f = 0 := by omega
      exact eraw_neg w b sp c xs a m h0 hr
  · rw [rRaw, if_neg h0]
    obtain ⟨n, rfl⟩ := Int.eq_ofNat_of_zero_le (show 0 ≤ m by omega)
    rw [Int.toNat_natCast]
    exact eraw_nat w b sp c xs a f n (by omega) hr

end Go.Proofs.YtfjhbbekeibpkaaDoor.C
