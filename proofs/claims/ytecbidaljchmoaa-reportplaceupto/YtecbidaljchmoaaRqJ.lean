import Derived.Test.YtecbidaljchmoaaRqG
import Derived.Test.YtecbidaljchmoaaRpL
namespace Go.Proofs.Ytecbidaljchmoaa
open Go.RowKit

theorem flat_set {α : Type} {f : α → List Value} {sz : Nat} (hf : ∀ x, (f x).length = sz) : ∀ (xs : List α) (i j : Nat) (x x' : α) (u : Value), xs[i]? = some x → j < sz → f x' = (f x).set j u → (flat f xs).set (i * sz + j) u = flat f (xs.set i x')
  | [], i, j, x, x', u, h, _, _ => by simp at h
  | y :: xs, 0, j, x, x', u, h, hj, e => by
    simp at h
    subst h
    have e1 : flat f (y :: xs) = f y ++ flat f xs := rfl
    rw [Nat.zero_mul, Nat.zero_add, e1, List.set_append_left _ _ (by rw [hf]; exact hj), ← e]
    rfl
  | y :: xs, i + 1, j, x, x', u, h, hj, e => by
    have e1 : flat f (y :: xs) = f y ++ flat f xs := rfl
    rw [e1, List.set_append_right _ _ (by rw [hf, Nat.add_mul]; omega), hf, Nat.add_mul]
    rw [show i * sz + 1 * sz + j - sz = i * sz + j by omega, flat_set hf xs i j x x' u (by simpa using h) hj e]
    rfl
theorem flat_set_off {α : Type} {f : α → List Value} {sz : Nat} (hf : ∀ x, (f x).length = sz) (xs : List α) (i j : Nat) (u : Value) (h : xs.length ≤ i) : (flat f xs).set (i * sz + j) u = flat f xs := by
  refine List.set_eq_of_length_le ?_
  rw [flat_len hf]
  have := Nat.mul_le_mul_right sz h
  omega
theorem modify_set {α : Type} {xs : List α} {k : Nat} {x : α} {f : α → α} (h : xs[k]? = some x) : xs.modify k f = xs.set k (f x) := by
  apply List.ext_getElem?
  intro q
  rw [List.getElem?_modify, List.getElem?_set]
  by_cases e : k = q
  · subst e
    obtain ⟨h1, h2⟩ := List.getElem?_eq_some_iff.1 h
    simp [h1, h2]
  · simp [e]
/-- A line's change, set in the block g: what a list of lines says then. -/
def updL (g k : Nat) (v : Int) (s : Sli Lin) : Sli Lin := if (Value.slice s.p s.n s.c).ownBlock = some g then ⟨s.p, s.n, s.c, s.xs.modify k (fun x => ⟨x.c, v⟩)⟩ else s
theorem updL_v (g k : Nat) (v : Int) (s : Sli Lin) : (updL g k v s).p = s.p ∧ (updL g k v s).n = s.n ∧ (updL g k v s).c = s.c := by unfold updL; split <;> exact ⟨rfl, rfl, rfl⟩
theorem updL_len (g k : Nat) (v : Int) (s : Sli Lin) : (updL g k v s).xs.length = s.xs.length := by unfold updL; split <;> simp
theorem updL_wf (g k : Nat) (v : Int) (s : Sli Lin) (hv : (Lit.int .i64 v).wf = true) (h : ∀ x ∈ s.xs, LinWf x) : ∀ x ∈ (updL g k v s).xs, LinWf x := by
  unfold updL
  split
  · intro x hx
    obtain ⟨i, hi⟩ := List.mem_iff_getElem?.1 hx
    simp only [List.getElem?_modify] at hi
    cases hy : s.xs[i]? with
    | none => rw [hy] at hi; simp at hi
    | some y =>
      rw [hy] at hi
      have hyw := h y (List.mem_of_getElem? hy)
      by_cases e : k = i
      · simp [e] at hi
        subst hi
        exact ⟨hyw.1, hv⟩
      · simp [e] at hi
        subst hi
        exact hyw
  · exact h
theorem own_updL {B : Nat} {w : World} {s : Sli Lin} (h : SlOwn B w 84 2 linc s) (g k : Nat) (v : Int) : SlOwn B (w.setCell ⟨g, k * 2 + 1, none⟩ (.int .i64 v)) 84 2 linc (updL g k v s) := by
  unfold updL
  split
  · rename_i e
    obtain ⟨p, n, c, xs⟩ := s
    rcases h.1.2 with ⟨h1, _⟩ | ⟨g', cap, cur, h1, _⟩
    · rw [h1] at e; simp [Value.ownBlock] at e
    · simp only [Value.slice.injEq] at h1
      obtain ⟨rfl, _, rfl⟩ := h1
      obtain rfl : g' = g := by simpa [Value.ownBlock] using e
      have hs := (h.1.stored (k * 2 + 1) (.int .i64 v)).1
      refine ⟨?_, by simpa using h.2.1, h.2.2⟩
      simp only at hs ⊢
      cases hx : xs[k]? with
      | none =>
        have hl := List.getElem?_eq_none_iff.1 hx
        rw [flat_set_off (f := linc) (sz := 2) (fun _ => rfl) xs k 1 _ hl] at hs
        rw [List.modify_eq_self hl]
        exact hs
      | some x =>
        rw [flat_set (f := linc) (sz := 2) (fun _ => rfl) xs k 1 x ⟨x.c, v⟩ _ hx (by omega) rfl] at hs
        rw [modify_set hx]
        exact hs
  · rename_i e
    exact ⟨owns_same h.1 (fun g' hg' => heap_setCell_other _ _ _ _ (by rintro rfl; exact e hg')), h.2⟩
theorem own_updX {α : Type} {B sz g k : Nat} {w : World} {t : TypeId} {f : α → List Value} {s : Sli α} {cur : Array Value} {fr : Nat × Nat} (h : SlOwn B w t sz f s) (hg : w.heap[g]? = some (.cells cur 84 fr)) (ht : 84 ≠ t) (v : Value) : SlOwn B (w.setCell ⟨g, k, none⟩ v) t sz f s :=
  ⟨owns_same h.1 (fun g' hg' => heap_setCell_other _ _ _ _ (by rintro rfl; exact owns_ne h.1 hg ht hg'.symm)), h.2⟩
def updE (g k : Nat) (v : Int) (e : Eda) : Eda := { e with ac := { e.ac with lines := updL g k v e.ac.lines, other := updL g k v e.ac.other }, made := updL g k v e.made }
theorem updE_list (g k : Nat) (v : Int) (e : Eda) : (updE g k v e).list = e.list := by
  obtain ⟨a1, a2, a3⟩ := updL_v g k v e.ac.lines
  obtain ⟨b1, b2, b3⟩ := updL_v g k v e.ac.other
  obtain ⟨c1, c2, c3⟩ := updL_v g k v e.made
  simp only [Eda.list, updE, a1, a2, a3, b1, b2, b3, c1, c2, c3]
theorem own_updE {B g k : Nat} {w : World} {e : Eda} {cur : Array Value} {fr : Nat × Nat} (h : EnOwn B w e) (hg : w.heap[g]? = some (.cells cur 84 fr)) (v : Int) : EnOwn B (w.setCell ⟨g, k * 2 + 1, none⟩ (.int .i64 v)) (updE g k v e) :=
  ⟨⟨own_updL h.ac.lines g k v, own_updX h.ac.guards hg (by decide) _, own_updX h.ac.sets hg (by decide) _, own_updL h.ac.other g k v, own_updX h.ac.rights hg (by decide) _⟩, own_updL h.made g k v, own_updX h.sets hg (by decide) _⟩
/-- While other numbers are laid into the copies: they are entries all the while, with as many lines. -/
def OI (w : World) (v : Value) (n T : Nat) (W : World) : Prop := ∃ es : List Eda, es.length = n ∧ Ecp w.heap.size W v es ∧ (∀ e ∈ es, ∀ x ∈ e.made.xs, LinWf x) ∧ (linesP es).length = T ∧ Below w.heap.size w W
theorem lens_of : ∀ (es : List Eda), (linesP es).length = (es.map (fun e => e.made.xs.length)).sum := fun es => by simp [linesP, List.length_flatMap]
theorem oi_row {w W : World} {g n c T : Nat} {i : Nat} (h : OI w (.slice (some ⟨g, 0, none⟩) n c) n T W) (hi : i < n) : ∃ e : Eda, (∀ (j : Nat) (v : Value), e.list[j]? = some v → W.cell? ⟨g, i * 22 + j, none⟩ = some v) ∧ (∀ j, W.frozen? ⟨g, j, none⟩ = false) ∧ SlOwn w.heap.size W 84 2 linc e.made ∧ (∀ x ∈ e.made.xs, LinWf x) ∧
    (∀ (e' : Eda) (j : Nat) (u : Value), j < 22 → e'.list = e.list.set j u → e'.made = e.made → (EnOwn w.heap.size W e → EnOwn w.heap.size W e') → OI w (.slice (some ⟨g, 0, none⟩) n c) n T (W.setCell ⟨g, i * 22 + j, none⟩ u)) := by
  obtain ⟨es, hn, hE, hw, hT, hb⟩ := h
  subst hn
  obtain ⟨e, he⟩ : ∃ e, es[i]? = some e := ⟨_, List.getElem?_eq_getElem hi⟩
  obtain ⟨b, o, e1, _, hc⟩ := (cel_row (f := Eda.list) (fun _ => rfl) hE.row rfl).get (i := i) (r := e.list) (by simp [he])
  cases e1
  obtain ⟨cur, hcur⟩ : ∃ cur, W.heap[g]? = some (.cells cur 82 (0, 0)) := by
    rcases hE.row.2 with ⟨h1, _⟩ | ⟨g', cap, cur, h1, _, h2, _⟩
    · simp at h1
    · simp only [Value.slice.injEq, Option.some.injEq, Addr.mk.injEq, and_true] at h1
      obtain ⟨rfl, _⟩ := h1
      exact ⟨cur, h2⟩
  refine ⟨e, fun j v hv => by have := hc j v hv; simpa using this, fun j => frozen_of_row _ _ _ _ _ hcur, (hE.each e (List.mem_of_getElem? he)).made, hw e (List.mem_of_getElem? he), fun e' j u hj h1 h2 h3 => ?_⟩
  obtain ⟨hst, hg⟩ := hE.row.stored (i * 22 + j) u
  rw [flat_set (f := Eda.list) (sz := 22) (fun _ => rfl) es i j e e' u he hj h1] at hst
  refine ⟨es.set i e', by simp, ⟨by simpa using hst, fun x hx => ?_⟩, fun x hx => ?_, ?_, below_grown hb hE.row hg⟩
  · refine EnOwn.grown ?_ hE.row hg
    rcases List.mem_or_eq_of_mem_set hx with h4 | rfl
    · exact hE.each x h4
    · exact h3 (hE.each e (List.mem_of_getElem? he))
  · rcases List.mem_or_eq_of_mem_set hx with h4 | rfl
    · exact hw x h4
    · rw [h2]; exact hw e (List.mem_of_getElem? he)
  · rw [← hT, lens_of, lens_of, List.map_set, h2]
    congr 1
    apply List.ext_getElem?
    intro q
    rw [List.getElem?_set]
    split
    · rename_i e3
      subst e3
      have h5 := List.getElem?_eq_getElem hi
      rw [he] at h5
      cases h5
      simp [hi]
    · rfl
theorem oi_line {w W : World} {v : Value} {n T g k : Nat} (h : OI w v n T W) {cur : Array Value} {fr : Nat × Nat} (hg : W.heap[g]? = some (.cells cur 84 fr)) (hB : w.heap.size ≤ g) (u : Int) (hu : (Lit.int .i64 u).wf = true) : OI w v n T (W.setCell ⟨g, k * 2 + 1, none⟩ (.int .i64 u)) := by
  obtain ⟨es, hn, hE, hw, hT, hb⟩ := h
  have hfl : flat Eda.list (es.map (updE g k u)) = flat Eda.list es := by
    simp only [flat, List.flatMap_map]
    congr 1
    funext e
    exact updE_list g k u e
  refine ⟨es.map (updE g k u), by simpa using hn, ⟨?_, fun x hx => ?_⟩, fun x hx => ?_, ?_, hb.setCell (p := ⟨g, k * 2 + 1, none⟩) hB _⟩
  · rw [hfl, List.length_map]
    exact owns_same hE.row (fun g' hg' => heap_setCell_other _ _ _ _ (by rintro rfl; exact owns_ne hE.row hg (by decide) hg'.symm))
  · obtain ⟨y, hy, rfl⟩ := List.mem_map.1 hx
    exact own_updE (hE.each y hy) hg u
  · obtain ⟨y, hy, rfl⟩ := List.mem_map.1 hx
    exact updL_wf g k u _ hu (hw y hy)
  · rw [← hT, lens_of, lens_of, List.map_map]
    congr 1
    refine List.map_congr_left fun e _ => ?_
    simp [updE, updL_len]
end Go.Proofs.Ytecbidaljchmoaa
namespace Go.Proofs.Ytecbidaljchmoaa
open Go.RowKit

theorem oi_form {w W : World} {la : Option Addr} {n c T : Nat} (h : OI w (.slice la n c) n T W) (hn : 0 < n) : ∃ g, la = some ⟨g, 0, none⟩ := by
  obtain ⟨es, e1, hE, _⟩ := h
  rcases hE.row.2 with ⟨h1, h2⟩ | ⟨g, cap, cur, h1, _⟩
  · omega
  · simp only [Value.slice.injEq] at h1
    exact ⟨g, h1.1⟩
theorem wrap_lit (n : Int) : (Lit.int .i64 (wrap64 n)).wf = true := wrap64_wf n
set_option maxRecDepth 100000 in
set_option maxHeartbeats 8000000 in
theorem other_any (w : World) (s : Sli Eda) (hs : Ents w s) :
    Calls Try.prog 6 #[.slice s.p s.n s.c] w fun r w' => ∃ d : Sli Eda, r = .returned (.slice d.p d.n d.c) ∧ Ents w' d ∧ (linesP d.xs).length = (linesP s.xs).length ∧ (∀ b o, d.p = some ⟨b, o, none⟩ → w.heap.size ≤ b) ∧ (∀ e ∈ d.xs, EnOwn w.heap.size w' e) ∧ Below w.heap.size w w' := by
  have HCe := hide (copyEntries_any w s hs)
  have hwf : ∀ e ∈ s.xs, ∀ x ∈ e.made.xs, LinWf x := fun e he => (hs.each e he).wf
  have hmost : s.n ≤ 4194304 := hs.row.most
  have hlen : s.xs.length = s.n := hs.row.len
  obtain ⟨p, n, c, xs⟩ := s
  simp only at hwf hmost hlen HCe ⊢
  have HO0 : Hid (∀ (v : Value) (W : World) (es : List Eda), Ecp w.heap.size W v es → es.map Eda.d = xs.map Eda.d → Below w.heap.size w W → OI w v n (linesP xs).length W) := fun v W es h1 h2 h3 => by
    have e1 : es.length = n := by have := congrArg List.length h2; simp at this; omega
    have e2 : es.map (fun e => e.made.xs) = xs.map (fun e => e.made.xs) := by
      have := congrArg (List.map EnP.made) h2
      simpa [Function.comp_def, Eda.d] using this
    refine ⟨es, e1, h1, fun e he x hx => ?_, by simp only [linesP, List.flatMap_def, e2], h3⟩
    have h4 : e.made.xs ∈ xs.map (fun e => e.made.xs) := by rw [← e2]; exact List.mem_map.2 ⟨e, he, rfl⟩
    obtain ⟨e', he', h5⟩ := List.mem_map.1 h4
    exact hwf e' he' x (by rw [h5]; exact hx)
  obtain ⟨T, hT⟩ : ∃ T, (linesP xs).length = T := ⟨_, rfl⟩
  rw [hT] at HO0 ⊢
  clear hs hwf hT
  go_enter Try.func6, Try.ntmps6
  go_upto_region 2 with (go_at_call 24; refine HCe.out.mono ?_; rintro r w1 ⟨v, es, rfl, h1, h2, h3⟩; have HI0 := hide (HO0.out v w1 es h1 h2 h3); have hes : es.length = n := (by have := congrArg List.length h2; simp at this; omega); obtain ⟨la, lc, rfl, hlc⟩ := slice_form h1.row; rw [hes] at HI0 hlc ⊢; clear h1 h2 h3 hes)
  clear HCe HO0
  go_wp2
  go_loopw [4] (fun i wr => ∃ k : Nat, k ≤ n ∧ i = .int .i64 k ∧ Hid (OI w (.slice la n lc) n T wr)) (fun i _ => n - (intOf i).toNat)
  case atStart => exact ⟨0, Nat.zero_le _, rfl, HI0⟩
  case round =>
    clear HI0
    obtain ⟨k, hk, rfl, HI⟩ := hrel
    by_cases hlt : k < n
    · have hlt' : (k : Int) < (n : Int) := by omega
      obtain ⟨g, rfl⟩ := oi_form HI.out (by omega)
      obtain ⟨e, hc, hfz, hmade, hwf, hset⟩ := oi_row HI.out hlt
      have c2 : wr.cell? ⟨g, k * 22 + 2, none⟩ = some (.int .u64 e.ac.num) := hc 2 _ rfl
      have f2 := hfz (k * 22 + 2)
      have HO1 : Hid (∀ u : Int, OI w (.slice (some ⟨g, 0, none⟩) n lc) n T (wr.setCell ⟨g, k * 22 + 2, none⟩ (.int .u64 u))) := fun u => hset { e with ac := { e.ac with num := u } } 2 _ (by omega) rfl rfl (fun h => ⟨⟨h.ac.lines, h.ac.guards, h.ac.sets, h.ac.other, h.ac.rights⟩, h.made, h.sets⟩)
      clear hc hfz hmade hwf hset
      go_upto_region 6 with (fail)
      obtain ⟨W1, hW1⟩ : ∃ W1, wr.setCell ⟨g, k * 22 + 1 + 1, none⟩ (.int .u64 (IntKind.u64.wrap (e.ac.num + 1))) = W1 := ⟨_, rfl⟩
      have H1 := hide (HO1.out (IntKind.u64.wrap (e.ac.num + 1)))
      rw [hW1] at H1 ⊢
      clear c2 f2 HO1 hW1 HI
      obtain ⟨e1, hc, hfz, hmade, hwf, hset⟩ := oi_row H1.out hlt
      have c16 : W1.cell? ⟨g, k * 22 + 16, none⟩ = some (.int .i64 e1.oc) := hc 16 _ rfl
      have f16 := hfz (k * 22 + 16)
      have HO2 : Hid (∀ u : Int, OI w (.slice (some ⟨g, 0, none⟩) n lc) n T (W1.setCell ⟨g, k * 22 + 16, none⟩ (.int .i64 u))) := fun u => hset { e1 with oc := u } 16 _ (by omega) rfl rfl (fun h => ⟨h.ac, h.made, h.sets⟩)
      clear hc hfz hmade hwf hset H1
      go_upto_region 7 with (fail)
      obtain ⟨W2, hW2⟩ : ∃ W2, W1.setCell ⟨g, k * 22 + 16, none⟩ (.int .i64 ((wrap64 (e1.oc + 1)).tmod 6)) = W2 := ⟨_, rfl⟩
      have H2 := hide (HO2.out ((wrap64 (e1.oc + 1)).tmod 6))
      rw [hW2] at H2 ⊢
      clear c16 f16 HO2 hW2
      obtain ⟨e2, hc, hfz, hmade, hwf, hset⟩ := oi_row H2.out hlt
      obtain ⟨mp, mn, mc, hm⟩ : ∃ mp mn mc, (mp, mn, mc) = (e2.made.p, e2.made.n, e2.made.c) := ⟨_, _, _, rfl⟩
      simp only [Prod.mk.injEq] at hm
      obtain ⟨hm1, hm2, hm3⟩ := hm
      have c17 : W2.cell? ⟨g, k * 22 + 17, none⟩ = some (.slice mp mn mc) := by rw [hm1, hm2, hm3]; exact hc 17 _ rfl
      have hmn : mn ≤ 4194304 := by rw [hm2]; exact hmade.2.2
      have HC17 := hide c17
      clear hc hfz hmade hwf hset hm1 hm2 hm3 c17
      go_wp2
      go_loopw [5] (fun i wr => ∃ q : Nat, q ≤ mn ∧ i = .int .i64 q ∧ Hid (OI w (.slice (some ⟨g, 0, none⟩) n lc) n T wr ∧ wr.cell? ⟨g, k * 22 + 17, none⟩ = some (.slice mp mn mc))) (fun i _ => mn - (intOf i).toNat)
      case atStart => exact ⟨0, Nat.zero_le _, rfl, H2.out, HC17.out⟩
      case round =>
        clear H2 HC17
        obtain ⟨q, hq, rfl, HQ⟩ := hrel
        have c17 := HQ.out.2
        by_cases hqm : q < mn
        · have hqm' : (q : Int) < (mn : Int) := by omega
          obtain ⟨e3, hc, hfz, hmade, hwf, hset⟩ := oi_row HQ.out.1 hlt
          have h17 := hc 17 _ rfl
          rw [c17] at h17
          simp only [Option.some.injEq, Value.slice.injEq] at h17
          obtain ⟨e3a, e3b, e3c⟩ := h17
          obtain ⟨y, hy⟩ : ∃ y, e3.made.xs[q]? = some y := ⟨_, List.getElem?_eq_getElem (by rw [hmade.2.1]; omega)⟩
          rcases hmade.1.2 with ⟨h1, _⟩ | ⟨mg, cap, cur, h1, hbase, hmg, _⟩
          · simp only [Value.slice.injEq] at h1; omega
          simp only [Value.slice.injEq] at h1
          obtain ⟨b, o, eb, _, hcl⟩ := (hmade.ok (fun _ => rfl)).cel.get (i := q) (r := linc y) (by simp [hy])
          rw [h1.1] at eb
          cases eb
          rw [h1.1] at e3a
          subst e3a
          have d1 : wr.cell? ⟨mg, q * 2 + 1, none⟩ = some (.int .i64 y.n) := by have := hcl 1 _ rfl; simpa using this
          have fz : wr.frozen? ⟨mg, q * 2 + 1, none⟩ = false := frozen_of_row _ _ _ _ _ hmg
          have hne : g ≠ mg := by
            rintro rfl
            have := hc 16 _ rfl
            obtain ⟨es, _, hE, _⟩ := HQ.out.1
            exact owns_ne hE.row hmg (by decide) rfl
          have HR : Hid (OI w (.slice (some ⟨g, 0, none⟩) n lc) n T (wr.drew.setCell ⟨mg, q * 2 + 1, none⟩ (.int .i64 (wrap64 (y.n + 7)))) ∧ (wr.drew.setCell ⟨mg, q * 2 + 1, none⟩ (.int .i64 (wrap64 (y.n + 7)))).cell? ⟨g, k * 22 + 17, none⟩ = some (.slice (some ⟨mg, 0, none⟩) mn mc)) := by
            refine ⟨oi_line (W := wr.drew) ?_ hmg hbase _ (wrap_lit _), ?_⟩
            · obtain ⟨es, a1, a2, a3, a4, a5⟩ := HQ.out.1
              exact ⟨es, a1, ⟨owns_same a2.row (fun _ _ => rfl), fun e he => (a2.each e he).below ((Below.refl _ wr).drew)⟩, a3, a4, a5.drew⟩
            · rw [World.cell?_of_block (w := wr.drew) (heap_setCell_other _ _ _ _ hne)]
              exact c17
          clear hc hfz hmade hwf hset hcl hy h1 hmg hbase HQ
          go_upto_region 10 with (fail)
          go_region
          all_goals go_wp2
          all_goals go_roundw
          all_goals first | exact ⟨q + 1, by omega, by go_num, HR⟩ | (simp [intOf]; omega)
        · obtain rfl : q = mn := by omega
          have HR := hide HQ.out.1
          clear HQ
          go_wp2
          go_roundw
          case rel => exact ⟨k + 1, by omega, by go_num, HR⟩
          case measure => simp [intOf]; omega
    · obtain rfl : k = n := by omega
      go_wp2
      go_ret
      obtain ⟨es, a1, a2, a3, a4, a5⟩ := HI.out
      rw [← a1] at a2
      have hsl := cel_row (f := Eda.list) (fun _ => rfl) a2.row rfl
      refine ⟨⟨la, k, lc, es⟩, rfl, ⟨⟨a1, hmost, hsl⟩, fun e he => (a2.each e he).ok (a3 e he)⟩, a4, fun b o hb => ?_, a2.each, a5⟩
      simp only at hb
      exact owns_base a2.row b (by rw [hb]; rfl)
end Go.Proofs.Ytecbidaljchmoaa
namespace Go.Proofs.Ytecbidaljchmoaa
open Go.RowKit

theorem wp_one {P : Program} {c : Code} {Q : Exit → Act → World → Prop} {a : Act} {w : World} {A : Act} {W : World} (reg : c.wp P (fun e a' w' => e = .normal ∧ a' = A ∧ w' = W) a w) (cont : Q .normal A W) : c.wp P Q a w :=
  Code.wp_mono (fun e a' w' ⟨e1, e2, e3⟩ => by rw [e1, e2, e3]; exact cont) reg
def prc2 (x : ByteArray × Int) : List Value := [.string x.1, .int .i64 x.2]
theorem elt_price : Elt prc2 2 24 32 61 := ⟨fun _ => rfl, fun x u hu => by simp [prc2] at hu; rcases hu with rfl | rfl <;> rfl, by omega, Try.underlying32, by
  obtain ⟨i, h⟩ := info_parts (show (Try.prog.info? 61).map (fun i => (i.zero, i.size, i.bytes)) = some (some (.agg #[.string ⟨#[]⟩, .int .i64 0]), 2, 24) by kernel_rfl)
  exact ⟨i, _, h.1, h.2.1, h.2.2.1, h.2.2.2, rfl⟩, by omega⟩
def Cfg.arr (c : Cfg) : Array Value := #[.int .i64 c.tills, .slice c.cp c.cl c.cc, .slice c.pp c.pl c.pc, .int .i64 c.lease, .int .i64 c.watch, .int .i64 c.beat, .int .i64 c.window, .int .i64 c.cap, .int .i64 c.flight]
/-- While a configuration is made. -/
structure Cg (w W : World) (A : Array Value) (c : Cfg) : Prop where
  conf : W.heap[w.heap.size]? = some (.cells A 25 (0, 0))
  res : W.heap[w.heap.size + 1]? = some (.cells #[.int .i64 0, .slice none 0 0, .slice none 0 0, .int .i64 0, .int .i64 0, .int .i64 0, .int .i64 0, .int .i64 0, .int .i64 0] 34 (0, 0))
  cfg : W.heap[w.heap.size + 1 + 1]? = some (.cells c.arr 34 (0, 0))
  rowc : ∃ ys, W.ownsRow w.heap.size 59 4 (.slice c.cp c.cl c.cc) c.cl ys
  rowp : ∃ zs, W.ownsRow w.heap.size 61 2 (.slice c.pp c.pl c.pc) c.pl zs
  bel : Below w.heap.size w W
theorem Cg.below {w W W' : World} {A : Array Value} {c : Cfg} (h : Cg w W A c) (hb : Below W.heap.size W W') : Cg w W' A c := by
  obtain ⟨ys, hy⟩ := h.rowc
  obtain ⟨zs, hz⟩ := h.rowp
  exact ⟨(hb.block _ (lt_of_block h.conf)).trans h.conf, (hb.block _ (lt_of_block h.res)).trans h.res, (hb.block _ (lt_of_block h.cfg)).trans h.cfg, ⟨ys, owns_keep hy hb⟩, ⟨zs, owns_keep hz hb⟩, h.bel.trans (hb.mono h.bel.size)⟩
/-- A cell of the configuration is set. -/
theorem Cg.set {w W : World} {A : Array Value} {c : Cfg} (h : Cg w W A c) (i : Nat) (v : Value) (c' : Cfg) (hc : c'.arr = c.arr.setIfInBounds i v) (h1 : ∃ ys, W.ownsRow w.heap.size 59 4 (.slice c'.cp c'.cl c'.cc) c'.cl ys) (h2 : ∃ zs, W.ownsRow w.heap.size 61 2 (.slice c'.pp c'.pl c'.pc) c'.pl zs) : Cg w (W.setCell ⟨w.heap.size + 1 + 1, i, none⟩ v) A c' := by
  obtain ⟨ys, hy⟩ := h1
  obtain ⟨zs, hz⟩ := h2
  refine ⟨(heap_setCell_other _ _ _ _ (by show w.heap.size ≠ w.heap.size + 1 + 1; omega)).trans h.conf, (heap_setCell_other _ _ _ _ (by show w.heap.size + 1 ≠ w.heap.size + 1 + 1; omega)).trans h.res, ?_, ⟨ys, owns_same hy (fun g hg => heap_setCell_other _ _ _ _ ?_)⟩, ⟨zs, owns_same hz (fun g hg => heap_setCell_other _ _ _ _ ?_)⟩, h.bel.setCell (p := ⟨w.heap.size + 1 + 1, i, none⟩) (by show w.heap.size ≤ w.heap.size + 1 + 1; omega) _⟩
  · rw [hc]; exact heap_setCell_same _ _ _ _ _ _ h.cfg
  · rintro rfl
    exact owns_ne hy h.cfg (by decide) hg.symm
  · rintro rfl
    exact owns_ne hz h.cfg (by decide) hg.symm
theorem Cg.cell {w W : World} {A : Array Value} {c : Cfg} (h : Cg w W A c) {i : Nat} {v : Value} (hv : c.arr[i]? = some v) : W.cell? ⟨w.heap.size + 1 + 1, i, none⟩ = some v := by rw [cell_of_row _ _ _ _ _ _ h.cfg]; exact hv
theorem Cg.free {w W : World} {A : Array Value} {c : Cfg} (h : Cg w W A c) (i : Nat) : W.frozen? ⟨w.heap.size + 1 + 1, i, none⟩ = false := frozen_of_row _ _ _ _ _ h.cfg
/-- A counter more. -/
theorem Cg.putc {w W W1 : World} {A : Array Value} {c : Cfg} (h : Cg w W A c) (hb : Below W.heap.size W W1) (hl : c.cl ≤ 64) (x : Ctr) (tt : TypeId) :
    ∃ a' c' w3, (Builtin.append_ #[31, 31] tt #[.slice c.cp c.cl c.cc, .slice (some ⟨W1.heap.size, 0, none⟩) 1 1]).run Try.prog (W1.alloc (.cells #[.string x.name, .int .i64 x.lo, .int .i64 x.hi, .int .i64 x.st] 59)) = .ok (.slice a' (c.cl + 1) c') w3 ∧
      w3.cell? ⟨w.heap.size + 1 + 1, 1, none⟩ = some (.slice c.cp c.cl c.cc) ∧ w3.frozen? ⟨w.heap.size + 1 + 1, 1, none⟩ = false ∧ (∀ g, g < W.heap.size → (∀ cur fr, W.heap[g]? ≠ some (.cells cur 59 fr)) → w3.heap[g]? = W.heap[g]?) ∧
      Cg w (w3.setCell ⟨w.heap.size + 1 + 1, 1, none⟩ (.slice a' (c.cl + 1) c')) A { c with cp := a', cl := c.cl + 1, cc := c' } := by
  obtain ⟨w2, hw2⟩ : ∃ w2, W1.alloc (.cells #[.string x.name, .int .i64 x.lo, .int .i64 x.hi, .int .i64 x.st] 59) = w2 := ⟨_, rfl⟩
  have hcel : Cel w2 (some ⟨W1.heap.size, 0, none⟩) 4 ([x].map ctc) := by rw [← hw2]; exact cel_one rfl
  have hb2 : Below W.heap.size W w2 := by rw [← hw2]; exact hb.alloc hb.size _
  rw [hw2]
  have h2 := h.below hb2
  obtain ⟨ys, hy⟩ := h2.rowc
  obtain ⟨zs, hz⟩ := h2.rowp
  obtain ⟨v', w3, hr, ho, hg, _⟩ := elt_ctr.run_append w2 tt w.heap.size c.cl (.slice c.cp c.cl c.cc) ys hy (some ⟨W1.heap.size, 0, none⟩) 1 1 [x] rfl hcel (by omega) h2.bel.size
  obtain ⟨a', c', rfl, _⟩ := slice_form ho
  have k3 : ∀ (g : Nat) (C : Array Value) (t : TypeId) (fr : Nat × Nat), w2.heap[g]? = some (.cells C t fr) → t ≠ 59 → w3.heap[g]? = w2.heap[g]? := fun g C t fr e ht => hg.block g (lt_of_block e) (owns_ne hy e ht)
  have r0 := (k3 _ _ _ _ h2.conf (by decide)).trans h2.conf
  have r1 := (k3 _ _ _ _ h2.res (by decide)).trans h2.res
  have r2 := (k3 _ _ _ _ h2.cfg (by decide)).trans h2.cfg
  have rp : w3.ownsRow w.heap.size 61 2 (.slice c.pp c.pl c.pc) c.pl zs := owns_grown hz hg (fun g e e' => by
    rcases owns_two hy hz (by decide) with e1 | e1
    · rw [e1] at e'; cases e'
    · exact e1 (by rw [← e', e]))
  refine ⟨a', c', w3, hr, by rw [cell_of_row _ _ _ _ _ _ r2]; rfl, frozen_of_row _ _ _ _ _ r2, fun g hg1 hg2 => ?_, ?_⟩
  · have e1 := hb2.block g hg1
    refine (hg.block g (Nat.lt_of_lt_of_le hg1 hb2.size) ?_).trans e1
    intro e2
    rcases hy.2 with ⟨h4, _⟩ | ⟨g', cap, cur, h4, _, h5, _⟩
    · rw [h4] at e2; simp [Value.ownBlock] at e2
    · rw [h4] at e2
      simp [Value.ownBlock] at e2
      subst e2
      rw [e1] at h5
      exact hg2 _ _ h5
  · refine ⟨(heap_setCell_other _ _ _ _ (by show w.heap.size ≠ w.heap.size + 1 + 1; omega)).trans r0, (heap_setCell_other _ _ _ _ (by show w.heap.size + 1 ≠ w.heap.size + 1 + 1; omega)).trans r1, heap_setCell_same _ _ _ _ _ _ r2, ⟨_, owns_same ho (fun g hg => heap_setCell_other _ _ _ _ ?_)⟩, ⟨zs, owns_same rp (fun g hg => heap_setCell_other _ _ _ _ ?_)⟩, (below_grown h2.bel hy hg).setCell (p := ⟨w.heap.size + 1 + 1, 1, none⟩) (by show w.heap.size ≤ w.heap.size + 1 + 1; omega) _⟩
    · rintro rfl
      exact owns_ne ho r2 (by decide) hg.symm
    · rintro rfl
      exact owns_ne rp r2 (by decide) hg.symm
/-- A price more. -/
theorem Cg.putp {w W W1 : World} {A : Array Value} {c : Cfg} (h : Cg w W A c) (hb : Below W.heap.size W W1) (hl : c.pl ≤ 64) (x : ByteArray × Int) (tt : TypeId) :
    ∃ a' c' w3, (Builtin.append_ #[32, 32] tt #[.slice c.pp c.pl c.pc, .slice (some ⟨W1.heap.size, 0, none⟩) 1 1]).run Try.prog (W1.alloc (.cells #[.string x.1, .int .i64 x.2] 61)) = .ok (.slice a' (c.pl + 1) c') w3 ∧
      w3.cell? ⟨w.heap.size + 1 + 1, 2, none⟩ = some (.slice c.pp c.pl c.pc) ∧ w3.frozen? ⟨w.heap.size + 1 + 1, 2, none⟩ = false ∧ (∀ g, g < W.heap.size → (∀ cur fr, W.heap[g]? ≠ some (.cells cur 61 fr)) → w3.heap[g]? = W.heap[g]?) ∧
      Cg w (w3.setCell ⟨w.heap.size + 1 + 1, 2, none⟩ (.slice a' (c.pl + 1) c')) A { c with pp := a', pl := c.pl + 1, pc := c' } := by
  obtain ⟨w2, hw2⟩ : ∃ w2, W1.alloc (.cells #[.string x.1, .int .i64 x.2] 61) = w2 := ⟨_, rfl⟩
  have hcel : Cel w2 (some ⟨W1.heap.size, 0, none⟩) 2 ([x].map prc2) := by rw [← hw2]; exact cel_one rfl
  have hb2 : Below W.heap.size W w2 := by rw [← hw2]; exact hb.alloc hb.size _
  rw [hw2]
  have h2 := h.below hb2
  obtain ⟨ys, hy⟩ := h2.rowc
  obtain ⟨zs, hz⟩ := h2.rowp
  obtain ⟨v', w3, hr, ho, hg, _⟩ := elt_price.run_append w2 tt w.heap.size c.pl (.slice c.pp c.pl c.pc) zs hz (some ⟨W1.heap.size, 0, none⟩) 1 1 [x] rfl hcel (by omega) h2.bel.size
  obtain ⟨a', c', rfl, _⟩ := slice_form ho
  have k3 : ∀ (g : Nat) (C : Array Value) (t : TypeId) (fr : Nat × Nat), w2.heap[g]? = some (.cells C t fr) → t ≠ 61 → w3.heap[g]? = w2.heap[g]? := fun g C t fr e ht => hg.block g (lt_of_block e) (owns_ne hz e ht)
  have r0 := (k3 _ _ _ _ h2.conf (by decide)).trans h2.conf
  have r1 := (k3 _ _ _ _ h2.res (by decide)).trans h2.res
  have r2 := (k3 _ _ _ _ h2.cfg (by decide)).trans h2.cfg
  have rc : w3.ownsRow w.heap.size 59 4 (.slice c.cp c.cl c.cc) c.cl ys := owns_grown hy hg (fun g e e' => by
    rcases owns_two hz hy (by decide) with e1 | e1
    · rw [e1] at e'; cases e'
    · exact e1 (by rw [← e', e]))
  refine ⟨a', c', w3, hr, by rw [cell_of_row _ _ _ _ _ _ r2]; rfl, frozen_of_row _ _ _ _ _ r2, fun g hg1 hg2 => ?_, ?_⟩
  · have e1 := hb2.block g hg1
    refine (hg.block g (Nat.lt_of_lt_of_le hg1 hb2.size) ?_).trans e1
    intro e2
    rcases hz.2 with ⟨h4, _⟩ | ⟨g', cap, cur, h4, _, h5, _⟩
    · rw [h4] at e2; simp [Value.ownBlock] at e2
    · rw [h4] at e2
      simp [Value.ownBlock] at e2
      subst e2
      rw [e1] at h5
      exact hg2 _ _ h5
  · refine ⟨(heap_setCell_other _ _ _ _ (by show w.heap.size ≠ w.heap.size + 1 + 1; omega)).trans r0, (heap_setCell_other _ _ _ _ (by show w.heap.size + 1 ≠ w.heap.size + 1 + 1; omega)).trans r1, heap_setCell_same _ _ _ _ _ _ r2, ⟨ys, owns_same rc (fun g hg => heap_setCell_other _ _ _ _ ?_)⟩, ⟨_, owns_same ho (fun g hg => heap_setCell_other _ _ _ _ ?_)⟩, (below_grown h2.bel hz hg).setCell (p := ⟨w.heap.size + 1 + 1, 2, none⟩) (by show w.heap.size ≤ w.heap.size + 1 + 1; omega) _⟩
    · rintro rfl
      exact owns_ne rc r2 (by decide) hg.symm
    · rintro rfl
      exact owns_ne ho r2 (by decide) hg.symm
end Go.Proofs.Ytecbidaljchmoaa
