import Derived.Test.YtecbidaljchmoaaRpB
import Derived.Test.YtecbidaljchmoaaRpD
import Derived.RangeFuncBox
import Derived.RangeFuncWrites
namespace Go.Proofs.Ytecbidaljchmoaa
open Go.RowKit Go.Shelf
attribute [local go_sem] Oper.semAt_some

set_option maxHeartbeats 1000000 in
theorem ofTill_in (n : Nat) (p : Option Addr) (len cap : Nat) (till : Int) (w : World) :
    CallsIn Fence.wide n Try.prog 33 #[.slice p len cap, .int .i64 till] w fun e w' => e = .returned (.func (.func 44) #[] #[.pointer (some ⟨w.heap.size, 0, none⟩), .pointer (some ⟨w.heap.size + 1, 0, none⟩)]) ∧ w' = (w.alloc (.cells #[.slice p len cap] 26)).alloc (.cells #[.int .i64 till] 3) := by
  refine callsIn_of_wp Try.func33 rfl trivial ?_ rfl
  simp only [Try.ntmps33, List.size_toArray, List.length_cons, List.length_nil, Nat.reduceAdd, Nat.reduceSub, Array.replicate_succ, Array.replicate_zero, List.push_toArray, List.append_toArray, List.nil_append, List.cons_append]
  gi_wp2
  go_ret
  exact ⟨rfl, rfl⟩

/-- Entries that lie well in a world. -/
abbrev EdO (w : World) := { e : Eda // EdaOk w e }
def edsOf {w : World} : (xs : List Eda) → (∀ e ∈ xs, EdaOk w e) → List (EdO w)
  | [], _ => []
  | x :: xs, h => ⟨x, h x (List.mem_cons_self ..)⟩ :: edsOf xs (fun y hy => h y (List.mem_cons_of_mem _ hy))
theorem edsOf_val {w : World} (xs : List Eda) (h : ∀ e ∈ xs, EdaOk w e) : (edsOf xs h).map (·.1) = xs := by
  induction xs with
  | nil => rfl
  | cons x xs ih => simp [edsOf, ih]
theorem edsOf_filter {w : World} (xs : List Eda) (h : ∀ e ∈ xs, EdaOk w e) (q : Eda → Bool) : ((edsOf xs h).filter (fun x => q x.1)).map (·.1) = xs.filter q := by
  induction xs with
  | nil => rfl
  | cons x xs ih =>
    simp only [edsOf, List.filter_cons]
    by_cases hx : q x = true
    · simp [hx, ih]
    · simp [hx, ih]
def edS {w : World} (s : Sli Eda) (h : Ents w s) : Sli (EdO w) := ⟨s.p, s.n, s.c, edsOf s.xs h.each⟩
theorem edS_ok {w : World} (s : Sli Eda) (h : Ents w s) : SlOk w 22 (fun x : EdO w => x.1.list) (edS s h) := by
  have e : (edsOf s.xs h.each).map (fun x : EdO w => x.1.list) = s.xs.map Eda.list := by
    have := congrArg (List.map Eda.list) (edsOf_val s.xs h.each)
    rw [List.map_map] at this
    exact this
  refine ⟨?_, h.row.most, ?_⟩
  · have := congrArg List.length (edsOf_val s.xs h.each)
    rw [List.length_map] at this
    exact this.trans h.row.len
  · show Cel w s.p 22 ((edsOf s.xs h.each).map (fun x : EdO w => x.1.list))
    rw [e]; exact h.row.cel

theorem ofTill_stops (n : Nat) (hn : 2 ≤ n) (Bs Bt : Nat) (s : Sli Eda) (till : Int) (w0 w : World) (hs : Ents w0 s) (hb : Below w0.heap.size w0 w) (hBs : w.heap[Bs]? = some (.cells #[.slice s.p s.n s.c] 26 (0, 0))) (hBt : w.heap[Bt]? = some (.cells #[.int .i64 till] 3 (0, 0))) :
    SeqStopsK Fence.wide n Try.prog 44 #[.pointer (some ⟨Bs, 0, none⟩), .pointer (some ⟨Bt, 0, none⟩)] (fun x : EdO w0 => encE x.1) (KB w0.heap.size Bt) (fun ys => ys = (edsOf s.xs hs.each).filter (fun x => ownB till x.1)) (fun pre => pre <+: (edsOf s.xs hs.each).filter (fun x => ownB till x.1)) s.n w := fun l J Jx W hW hJ _ hY h0 =>
  ofTill1_in n hn l Bs Bt w0.heap.size (fun x : EdO w0 => x.1) (edS s hs) till J Jx hY W w0 rfl (hb.trans (hW.mono hb.size)) hJ (Nat.le_trans hb.size hW.size) (by
    have := (hW.block Bs (ac_lt hBs)).trans hBs
    simp [World.cell?, this, edS]) ((hW.block Bt (ac_lt hBt)).trans hBt) (edS_ok s hs) h0

/-- A row of one's own stays where no cells have turned. -/
theorem owns_far {W W' : World} {B n s : Nat} {t : TypeId} {v : Value} {xs : List Value} {row : Option Nat} (h : W.ownsRow B t s v n xs) (hg : W.grownBy W' row) (hr : ∀ r, row = some r → ∃ o : Obj, W.heap[r]? = some o ∧ o.isCells = false) : W'.ownsRow B t s v n xs :=
  owns_grown h hg (fun g e e' => by
    obtain ⟨o, ho, hc⟩ := hr g e'.symm
    rcases h.2 with ⟨rfl, _⟩ | ⟨g', cap, cur, rfl, _, hgb, _⟩
    · simp [Value.ownBlock] at e
    · obtain rfl : g' = g := by simpa [Value.ownBlock] using e
      rw [hgb] at ho; cases ho; cases hc)
theorem Its.far {W W' : World} {B : Nat} {v : Value} {its : List Itm} {row : Option Nat} (h : Its B W v its) (hg : W.grownBy W' row) (hr : ∀ r, row = some r → ∃ o : Obj, W.heap[r]? = some o ∧ o.isCells = false) : Its B W' v its :=
  ⟨owns_far h.row hg hr, fun x hx => owns_far (h.each.made x hx) hg hr, fun x hx => owns_far (h.each.sets x hx) hg hr, h.each.risem, h.each.rises⟩
theorem Boxed.far {W W' : World} {B : Nat} {t : TypeId} {v : Value} {row : Option Nat} (h : Boxed W B t v) (hg : W.grownBy W' row) (hr : ∀ r, row = some r → ∃ o : Obj, W.heap[r]? = some o ∧ o.isCells = false) : Boxed W' B t v :=
  (hg.block B h.lt (fun e => by obtain ⟨o, ho, hc⟩ := hr B e.symm; rw [h] at ho; cases ho; cases hc)).trans h
theorem cells_far {W W' : World} {B : Nat} {t : TypeId} {cs : Array Value} {fr : Nat × Nat} {row : Option Nat} (h : W.heap[B]? = some (.cells cs t fr)) (hg : W.grownBy W' row) (hr : ∀ r, row = some r → ∃ o : Obj, W.heap[r]? = some o ∧ o.isCells = false) : W'.heap[B]? = some (.cells cs t fr) :=
  (hg.block B (ac_lt h) (fun e => by obtain ⟨o, ho, hc⟩ := hr B e.symm; rw [h] at ho; cases ho; cases hc)).trans h
theorem set_grown (w : World) (B i : Nat) (v : Value) : w.grownBy (w.setCell ⟨B, i, none⟩ v) (some B) :=
  ⟨rfl, rfl, rfl, by simp [World.setCell], fun k _ hne => heap_setCell_other w ⟨B, i, none⟩ k v (fun e => hne (by rw [e]))⟩
theorem owns_set {w : World} {B n s k i : Nat} {t t' : TypeId} {v u : Value} {xs : List Value} {C : Array Value} {fr : Nat × Nat} (h : w.ownsRow B t s v n xs) (hk : w.heap[k]? = some (.cells C t' fr)) (ht : t' ≠ t) : (w.setCell ⟨k, i, none⟩ u).ownsRow B t s v n xs :=
  owns_grown h (set_grown w k i u) (fun g e e' => owns_ne h hk ht (by rw [← e', e]))
theorem owns_low_set {w : World} {B n s k i : Nat} {t : TypeId} {v u : Value} {xs : List Value} (h : w.ownsRow B t s v n xs) (hk : k < B) : (w.setCell ⟨k, i, none⟩ u).ownsRow B t s v n xs :=
  owns_grown h (set_grown w k i u) (fun g e e' => by have := owns_base h g e; cases e'; omega)
theorem Its.set {w : World} {B k i : Nat} {v u : Value} {its : List Itm} (h : Its B w v its) (hk : k < B) : Its B (w.setCell ⟨k, i, none⟩ u) v its :=
  ⟨owns_low_set h.row hk, fun x hx => owns_low_set (h.each.made x hx) hk, fun x hx => owns_low_set (h.each.sets x hx) hk, h.each.risem, h.each.rises⟩
/-- What committed holds between two rounds. -/
def Cm (w : World) (N : Nat) (pre : List (EdO w)) (W : World) : Prop :=
  ∃ v its, Boxed W w.heap.size 62 v ∧ Its (w.heap.size + 3) W v its ∧ its.map Itm.d = (pre.filter (fun x => decide (x.1.ac.kind = 1))).map (fun x => itE x.1) ∧ its.length ≤ pre.length ∧ pre.length ≤ N ∧ Below w.heap.size w W ∧ w.heap.size + 3 ≤ W.heap.size
theorem cm_own (w : World) (N B : Nat) (hB : w.heap.size ≤ B) : OwnFrom B (Cm w N) := fun s A C row hs hg hr => by
  obtain ⟨v, its, h1, h2, h3, h4, h5, h6, h7⟩ := hs
  have hr' : ∀ r, row = some r → ∃ o : Obj, A.heap[r]? = some o ∧ o.isCells = false := fun r e => (hr r e).2
  exact ⟨v, its, Boxed.far h1 hg hr', h2.far hg hr', h3, h4, h5, h6.grown hg h6.size (fun k e => Nat.le_trans hB (hr k e).1), Nat.le_trans h7 hg.size⟩
end Go.Proofs.Ytecbidaljchmoaa
