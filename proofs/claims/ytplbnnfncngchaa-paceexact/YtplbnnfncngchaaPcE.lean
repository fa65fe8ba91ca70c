import Derived.Test.YtplbnnfncngchaaPcD
namespace Go.Proofs.Ytplbnnfncngchaa
open Go.RowKit

/-- Numbers that came in. -/
structure Nums (w : World) (sp : Option Addr) (xs : List Int) : Prop where
  lie : xs = [] ∨ ∃ g o, sp = some ⟨g, o, none⟩ ∧ g < w.heap.size ∧ ∀ j z, xs[j]? = some z → w.cell? ⟨g, o + j, none⟩ = some (.int .i64 z)
/-- What PaceBounded and PaceAnew hold: the argument's box, the pace. -/
structure Pb (w wr : World) (bx : Obj) : Prop where
  box : wr.heap[w.heap.size]? = some bx
  bel : Below w.heap.size w wr
  size : w.heap.size + 2 ≤ wr.heap.size
def Pd (w wr : World) (m : Nat) (P : Pc) : Prop := Pk wr (w.heap.size + 1) P ∧ P.Ok ∧ P.most = m
theorem Pb.onl {w wr w' : World} {bx : Obj} (h : Pb w wr bx) (ho : Onl (w.heap.size + 1) wr w') : Pb w w' bx :=
  ⟨(ho.block _ (by omega)).trans h.box, ho.below h.bel (by omega), by rw [ho.size]; exact h.size⟩
theorem box3 {w : World} {b : Nat} {x0 x1 x2 : Value} {t : TypeId} (h : w.heap[b]? = some (.cells #[x0, x1, x2] t (0, 0))) :
    w.cell? ⟨b, 0, none⟩ = some x0 ∧ w.cell? ⟨b, 1, none⟩ = some x1 ∧ w.cell? ⟨b, 2, none⟩ = some x2 :=
  ⟨by simp [World.cell?, h], by simp [World.cell?, h], by simp [World.cell?, h]⟩
theorem Pb.start {w w2 : World} {bx : Obj} (hb : Below (w.alloc bx).heap.size (w.alloc bx) w2) (hs : w2.heap.size = (w.alloc bx).heap.size + 1) : Pb w w2 bx := by
  have e : (w.alloc bx).heap.size = w.heap.size + 1 := by unfold World.alloc; exact Array.size_push _
  refine ⟨(hb.block _ (by rw [e]; omega)).trans (heap_alloc_new _ _), ((Below.refl _ _).alloc (Nat.le_refl _) _).trans (hb.mono (by rw [e]; omega)), by rw [hs, e]; exact Nat.le_refl _⟩
theorem cast1 (m : Nat) : ((1 + m : Nat) : Int) = 1 + (m : Int) := by omega
theorem Nums.cell {w wr : World} {sp : Option Addr} {xs : List Int} (h : Nums w sp xs) (hb : Below w.heap.size w wr) {k : Nat} {z : Int} (hz : xs[k]? = some z) : ∃ g o, sp = some ⟨g, o, none⟩ ∧ wr.cell? ⟨g, o + k, none⟩ = some (.int .i64 z) := by
  rcases h.lie with e | ⟨g, o, e, hg, hc⟩
  · rw [e] at hz; cases hz
  · exact ⟨g, o, e, (hb.cell (p := ⟨g, o + k, none⟩) hg).trans (hc k z hz)⟩
theorem bounded_one (w : World) (b m n : Nat) (P : Pc) (h : Pk w b P) (hp : P = .new (1 + m)) (h2 : m < 64) (hn : n < 50000) :
    Calls Try.prog 15 #[.pointer (some ⟨b, 0, none⟩), .int .i64 (1 + (m : Int)), .int .i64 (1 + (n : Int))] w fun e w' => e = .returned (.bool true) ∧ ∃ P, Pk w' b P ∧ P.Ok ∧ P.most = 1 + m ∧ Onl b w w' := by
  subst hp
  have := bounded_any w b (1 + m) (1 + n) h (by omega) (by omega) (by omega)
  rw [cast1, cast1] at this
  exact this
set_option maxRecDepth 100000 in
set_option maxHeartbeats 1000000 in
theorem paceb_all (w : World) (cz : Int) (sp : Option Addr) (l c : Nat) (tz : Int) (xs : List Int) (hl : xs.length = l) (hb : l ≤ 140737488355328) (hx : Nums w sp xs) :
    Calls Try.prog 4 #[.agg #[.int .i64 cz, .slice sp l c, .int .i64 tz]] w fun e w' => e = .returned (.bool true) ∧ Below w.heap.size w w' := by
  have HI := hide (into_any (w.alloc (.cells #[.int .i64 cz, .slice sp l c, .int .i64 tz] 40)) cz 64 (by omega) (by omega))
  have hm1 := into_lt cz 64 (by omega)
  obtain ⟨m, hm⟩ : ∃ m, (cz % ((64 : Nat) : Int)).toNat = m := ⟨_, rfl⟩
  rw [hm] at hm1 HI
  have HNw := hide (New_any (w.alloc (.cells #[.int .i64 cz, .slice sp l c, .int .i64 tz] 40)) (1 + (m : Int)))
  clear hm
  have HX := hide hx
  have HL := hide hl
  clear hx hl
  go_enter Try.func4, Try.ntmps4
  go_wp2_with (first
    | (go_at_call 7; refine HI.out.mono ?_; rintro e w2 ⟨rfl, h⟩; obtain rfl := h.symm; clear h)
    | (go_at_call 14; refine HNw.out.mono ?_; rintro e w2 (⟨_, rfl, hp, hbl, hsz⟩ | ⟨hno, _, _⟩); rotate_left; exact absurd (And.intro (by omega) (by omega)) hno))
  have HB := hide (Pb.start hbl hsz)
  have HD : Hid (Pd w w2 (1 + m) (.new (1 + m))) := by
    refine ⟨?_, Pc.new_ok (by omega) (by omega), rfl⟩
    rw [show (1 + (m : Int)).toNat = 1 + m by omega] at hp
    unfold World.alloc at hp
    rw [Array.size_push] at hp
    exact hp
  clear hp hbl hsz HNw HI
  go_loopw [6] (fun iv wr => ∃ (i : Nat), i ≤ l ∧ i ≤ 30 ∧ iv = .int .i64 (i : Int) ∧ Hid (Pb w wr (.cells #[.int .i64 cz, .slice sp l c, .int .i64 tz] 40)) ∧ Hid (Pd w wr (1 + m) (.new (1 + m)))) (fun i _ => 30 - (intOf i).toNat)
  case atStart => exact ⟨0, by omega, by omega, rfl, HB, HD⟩
  case round =>
    obtain ⟨i, hi, hi3, rfl, HB1, HD1⟩ := hrel
    obtain ⟨x0, x1, x2⟩ := box3 HB1.out.box
    clear HB HD
    by_cases hlt : i < l ∧ i < 30
    · obtain ⟨hlt, hlt3⟩ := hlt
      obtain ⟨z, hz⟩ : ∃ z, xs[i]? = some z := ⟨_, List.getElem?_eq_getElem (by have := HL.out; omega)⟩
      obtain ⟨g, o, rfl, hc⟩ := HX.out.cell HB1.out.bel hz
      have HI := hide (into_any wr z 500 (by omega) (by omega))
      have hk := into_lt z 500 (by omega)
      generalize (z % ((500 : Nat) : Int)).toNat = k at *
      have HBd := hide (bounded_one wr (w.heap.size + 1) m k _ HD1.out.1 rfl hm1 (by omega))
      have i1 : (0 : Int) ≤ (i : Int) := by omega
      have i2 : (i : Int) < (l : Int) := by omega
      have i3 : (i : Int) < 30 := by omega
      clear hz
      go_wp2_with (first
        | (go_at_call 7; refine HI.out.mono ?_; rintro e w3 ⟨rfl, h⟩; obtain rfl := h.symm; clear h)
        | (go_at_call 15; refine HBd.out.mono ?_; rintro e w3 ⟨rfl, P, hp3, ho3, hm3, hl3⟩; have HB3 := hide (HB1.out.onl hl3); have HR := hide (Reset_any w3 _ P hp3); have HM3 := hide hm3; clear hp3 ho3 hm3 hl3)
        | (go_at_call 10; refine HR.out.mono ?_; rintro e w4 ⟨rfl, hp4, hl4⟩; have HB4 := hide (HB3.out.onl hl4); have HP4 := hide hp4; clear hp4 hl4))
      go_roundw
      case rel => exact ⟨i + 1, by omega, by omega, by go_num, HB4, hide ⟨by have h := HP4.out; rw [HM3.out] at h; exact h, Pc.new_ok (by omega) (by omega), rfl⟩⟩
      case measure => simp [intOf]; omega
    · have HI := hide (into_any wr tz 2000 (by omega) (by omega))
      have hk := into_lt tz 2000 (by omega)
      generalize (tz % ((2000 : Nat) : Int)).toNat = k at *
      have HBd := hide (bounded_one wr (w.heap.size + 1) m k _ HD1.out.1 rfl hm1 (by omega))
      have ht : (decide ((i : Int) < (l : Int)) = false) ∨ (decide ((i : Int) < (l : Int)) = true ∧ decide ((i : Int) < 30) = false) := by
        by_cases h : i < l
        · exact Or.inr ⟨by simp; omega, by simp; omega⟩
        · exact Or.inl (by simp; omega)
      rcases ht with ht | ⟨ht, ht2⟩
      all_goals go_wp2_with (first
        | (go_at_call 7; refine HI.out.mono ?_; rintro e w3 ⟨rfl, h⟩; obtain rfl := h.symm; clear h)
        | (go_at_call 15; refine HBd.out.mono ?_; rintro e w3 ⟨rfl, P, hp3, ho3, hm3, hl3⟩; have HB3 := hide (HB1.out.onl hl3); clear hp3 ho3 hm3 hl3))
      all_goals go_ret
      all_goals exact ⟨rfl, HB3.out.bel⟩
end Go.Proofs.Ytplbnnfncngchaa
