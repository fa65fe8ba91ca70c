import Derived.Test.YtajadmkacnfbgaaGreatNdR
namespace Go.Proofs.YtajadmkacnfbgaaGreat
open Go.RowKit

theorem rcells_len (l : List Tri) : (rcells l).length = l.length * 3 := by
  induction l with
  | nil => rfl
  | cons x l ih =>
    have : rcells (x :: l) = tric x ++ rcells l := rfl
    rw [this, List.length_append, ih, List.length_cons]
    simp [tric]
    omega
theorem rcells_get (l : List Tri) : ∀ (i : Nat) (x : Tri), l[i]? = some x → ∀ (j : Nat) (v : Value), (tric x)[j]? = some v → (rcells l)[i * 3 + j]? = some v := by
  induction l with
  | nil => intro i x h; simp at h
  | cons y l ih =>
    intro i x h j v hv
    have e : rcells (y :: l) = .int .i64 y.a :: .int .i64 y.b :: .int .i64 y.n :: rcells l := rfl
    cases i with
    | zero =>
      simp at h
      subst h
      rw [e, Nat.zero_mul, Nat.zero_add]
      match j, hv with
      | 0, hv => exact hv
      | 1, hv => exact hv
      | 2, hv => exact hv
      | j + 3, hv => simp [tric] at hv
    | succ i =>
      have := ih i x (by simpa using h) j v hv
      rw [e, show (i + 1) * 3 + j = i * 3 + j + 1 + 1 + 1 by omega]
      rw [List.getElem?_cons_succ, List.getElem?_cons_succ, List.getElem?_cons_succ]
      exact this
theorem cel_row {w : World} {B n c : Nat} {a : Option Addr} {l : List Tri} {e : TypeId} (h : w.ownsRow B e 3 (.slice a n c) n (rcells l)) : Cel w a 3 (l.map tric) := by
  cases l with
  | nil => exact Or.inl rfl
  | cons y l =>
    obtain ⟨g, e1, hg, _⟩ := row_cell h (i := 0) (u := .int .i64 y.a) rfl
    refine Or.inr ⟨g, 0, e1, hg, fun i r hr j v hv => ?_⟩
    rw [List.getElem?_map] at hr
    cases hx : (y :: l)[i]? with
    | none => rw [hx] at hr; simp at hr
    | some x =>
      rw [hx] at hr
      simp at hr
      subst hr
      obtain ⟨g', e2, _, hc⟩ := row_cell h (rcells_get _ i x hx j v hv)
      rw [e1] at e2
      cases e2
      rw [Nat.zero_add]
      exact hc
theorem row_len {w : World} {B n c : Nat} {a : Option Addr} {l : List Tri} {e : TypeId} (h : w.ownsRow B e 3 (.slice a n c) n (rcells l)) : l.length = n := by
  have := h.1
  rw [rcells_len] at this
  omega
theorem putT_len (l : List Tri) (r : Tri) : (putT l r).length ≤ l.length + 1 := by
  induction l with
  | nil => simp [putT]
  | cons x l ih =>
    unfold putT
    split
    · simp
    · split
      · simp
      · simp; omega
theorem needT_len (xs : List Lin) : (needT xs).length ≤ xs.length := by
  suffices h : ∀ l : List Tri, (xs.foldl (fun l x => putT l (triOf x)) l).length ≤ l.length + xs.length by have := h []; rw [List.length_nil, Nat.zero_add] at this; exact this
  induction xs with
  | nil => intro l; simp
  | cons x xs ih => intro l; have h1 := ih (putT l (triOf x)); have h2 := putT_len l (triOf x); simp only [List.foldl_cons, List.length_cons]; omega
theorem needT_take {xs : List Lin} {j : Nat} {x : Lin} (h : xs[j]? = some x) : needT (xs.take (j + 1)) = putT (needT (xs.take j)) (triOf x) := by rw [take_snoc h, needT_snoc]

set_option maxRecDepth 100000 in
set_option maxHeartbeats 4000000 in
theorem rneeds_any (w : World) (p : Option Addr) (len cap : Nat) (xs : List Lin) (hlen : xs.length = len) (hreach : len ≤ 1099511627776) (hxs : ∀ x ∈ xs, LinWf x) (hL : Lins w.heap.size w p xs) :
    Calls Tryz.prog 7 #[.slice p len cap] w fun e w' => ∃ v, e = .returned v ∧ w'.ownsRow w.heap.size 70 3 v (needT xs).length (rcells (needT xs)) ∧ Below w.heap.size w w' := by
  have HL := hide hL
  have HX := hide hxs
  clear hL hxs
  go_enter Tryz.func7, Tryz.ntmps7
  go_wp2
  go_loopw [3, 4] (fun ov i wr => ∃ j : Nat, j ≤ len ∧ i = .int .i64 j ∧ Hid (wr.ownsRow w.heap.size 70 3 ov (needT (xs.take j)).length (rcells (needT (xs.take j)))) ∧ Hid (Below w.heap.size w wr)) (fun _ i _ => len - (intOf i).toNat)
  case atStart => exact ⟨0, Nat.zero_le _, rfl, World.ownsRow_nil _ _ _ _, Below.refl _ _⟩
  case round =>
    obtain ⟨j, hj, rfl, HR, HB⟩ := hrel
    obtain ⟨oa, oc, rfl⟩ := slice_form HR.out
    by_cases hlt : j < len
    · have hlt' : (j : Int) < (len : Int) := by omega
      have i0' : (0 : Int) ≤ (j : Int) := by omega
      obtain ⟨x, hx⟩ : ∃ x, xs[j]? = some x := ⟨_, List.getElem?_eq_getElem (by omega)⟩
      obtain ⟨b, o, rfl, hb, hcl⟩ := (HL.out.below HB.out).resolve_left (by intro e; rw [e] at hx; simp at hx)
      obtain ⟨a0, a1⟩ := hcl j x hx
      have hwf := HX.out x (List.mem_of_getElem? hx)
      have HT := hide (needT_take hx)
      obtain ⟨xc, xn⟩ := x
      simp only at a0 a1
      have HWy := hide (fun W' => way_any xn W')
      have HAm := hide (fun W' => amt3_any xn hwf.2 W')
      have HCv := hide (amt_conv xn hwf.2)
      have hbw := Nat.lt_of_lt_of_le hb HB.out.size
      have hn1 := World.new_ne wr _ a0
      have hn2 := World.new_ne wr _ a1
      obtain ⟨w6, hw6⟩ : ∃ w6, (wr.alloc (.cells #[.int .i64 xc, .int .i64 (wayOf xn), .int .i64 (amtOf xn)] 70)).drew = w6 := ⟨_, rfl⟩
      have hb6 : w6.heap[wr.heap.size]? = some (.cells #[.int .i64 xc, .int .i64 (wayOf xn), .int .i64 (amtOf xn)] 70 (0, 0)) := by rw [← hw6]; exact heap_alloc_new wr _
      have hB6 : Below w.heap.size w w6 := by rw [← hw6]; exact (HB.out.alloc HB.out.size _).drew
      have hr6 : w6.ownsRow w.heap.size 70 3 (.slice oa (needT (xs.take j)).length oc) (needT (xs.take j)).length (rcells (needT (xs.take j))) := by rw [← hw6]; exact HR.out.alloc _
      obtain ⟨c0, c1, c2⟩ := ac3 hb6
      have hnl : (needT (xs.take j)).length ≤ j := Nat.le_trans (needT_len _) (by rw [List.length_take]; omega)
      have HPut := hide (put_any w6 oa (needT (xs.take j)).length oc (needT (xs.take j)) xc (wayOf xn) (amtOf xn) rfl (by omega) (cel_row hr6))
      have HB6 := hide hB6
      have HW6 := hide hw6
      clear hcl hx hwf hb6 hr6 hB6 hw6
      go_upto_region 5 with (fail)
      go_region_held3 (fun w' => w'.cell? ⟨b, o + j * 2, none⟩ = some (.int .i64 xc) ∧ w'.cell? ⟨b, o + j * 2 + 1, none⟩ = some (.int .i64 xn)) (go_keep) (first | (go_at_call 16; refine (HWy.out _).mono ?_; rintro e w3 ⟨rfl, rfl⟩) | (go_at_call 17; refine (HAm.out _).mono ?_; rintro e w3 ⟨rfl, rfl⟩) | fail)
      all_goals (
        rw [HCv.out, HW6.out]
        go_wp2_with (go_at_call 18; refine HPut.out.mono ?_; rintro e w7 ⟨v, rfl, hr7, hb7⟩; have HR7 := hide (owns_mono hr7 HB6.out.size); have HB7 := hide (HB6.out.trans (hb7.mono HB6.out.size)); clear hr7 hb7)
        go_roundw
        case rel => exact ⟨j + 1, by omega, by go_num, by rw [HT.out]; exact HR7, HB7⟩
        case measure => simp [intOf]; omega)
    · have e1 : ¬ (j : Int) < (len : Int) := by omega
      obtain rfl : j = len := by omega
      go_wp2
      go_ret
      have h := HR.out
      rw [List.take_of_length_le (by omega)] at h
      exact ⟨_, rfl, by rw [List.take_of_length_le (by omega)]; exact h, HB.out⟩
end Go.Proofs.YtajadmkacnfbgaaGreat
