import Derived.Test.YtfdanocpbhbieaaGreatShK
import Derived.Test.YtfdanocpbhbieaaGreatNdU
import Derived.Test.YtfdanocpbhbieaaGreatRwA
namespace Go.Proofs.YtfdanocpbhbieaaGreat
open Go.RowKit Go.Shelf
attribute [local go_sem] Oper.semAt_some

def TriWf (x : Tri) : Prop := (Lit.int .i64 x.a).wf = true ∧ (Lit.int .i64 x.b).wf = true ∧ (Lit.int .i64 x.n).wf = true
def addsT (l rs : List Tri) : List Tri := rs.foldl putT l
theorem addsT_snoc (l rs : List Tri) (x : Tri) : addsT l (rs ++ [x]) = putT (addsT l rs) x := by simp [addsT]
/-- A map of kinds, by what it holds as a sorted list. -/
def Tal (w : World) (b nn : Nat) (l : List Tri) : Prop := ∃ D : DataW Unit, w.ownsMap Tryz.prog 93 (plainElem (H := Unit) Tryz.prog 2) b nn D ∧ RelD D l
theorem Tal.lt {w : World} {b nn : Nat} {l : List Tri} (h : Tal w b nn l) : b < w.heap.size := by obtain ⟨D, h, _⟩ := h; exact h.lt
theorem Tal.sorted {w : World} {b nn : Nat} {l : List Tri} (h : Tal w b nn l) : l.Pairwise ltT := by obtain ⟨D, _, h⟩ := h; exact h.sorted
theorem Tal.kept {w w' : World} {b nn : Nat} {l : List Tri} {row : Option Nat} (h : Tal w b nn l) (hg : w.grownBy w' row) (hne : some b ≠ row) : Tal w' b nn l := by
  obtain ⟨D, h, r⟩ := h
  exact ⟨D, h.kept hg hne, r⟩
theorem Tal.block {w w' : World} {b nn : Nat} {l : List Tri} (h : Tal w b nn l) (hg : w'.heap[b]? = w.heap[b]?) : Tal w' b nn l := by
  obtain ⟨D, ⟨es, ck, h1, h2⟩, r⟩ := h
  exact ⟨D, ⟨es, ck, hg.trans h1, h2⟩, r⟩
theorem Tal.below {w w' : World} {b nn : Nat} {l : List Tri} (h : Tal w b nn l) (hb : Below w.heap.size w w') : Tal w' b nn l := h.block (hb.block b h.lt)
theorem Tal.mono {w : World} {b nn nn' : Nat} {l : List Tri} (h : Tal w b nn l) (hn : nn ≤ nn') : Tal w b nn' l := by
  obtain ⟨D, h, r⟩ := h
  exact ⟨D, h.mono hn, r⟩
theorem tal_new (w : World) : Tal (w.alloc (.map #[] 0)) w.heap.size 0 [] := ⟨_, World.ownsMap_made w Tryz.prog 93 _, relD_nil⟩
theorem lookT_wf {w : World} {b nn : Nat} {l : List Tri} (h : Tal w b nn l) (x : K64) : (Lit.int .i64 (lookT l x.1)).wf = true := by
  obtain ⟨D, h, r⟩ := h
  obtain ⟨c, _, hat, hc⟩ := h.lookup_int Sk.kind_keyed Tryz.underlying90 Tryz.underlying2 (Tryz.zeroValue2 _) (Sk.kind_mk x)
  rw [r.at_ x] at hat
  simp only [DataW.lit.injEq, Lit.int.injEq, true_and] at hat
  rw [hat]; exact hc
theorem Tal.look {w : World} {b nn : Nat} {l : List Tri} (h : Tal w b nn l) (x : K64) : (Instr.lookup 90 (.map (some b)) (kv x.1) false).run Tryz.prog w = .ok (.int .i64 (lookT l x.1)) w := by
  obtain ⟨D, h, r⟩ := h
  obtain ⟨c, hl, hat, _⟩ := h.lookup_int Sk.kind_keyed Tryz.underlying90 Tryz.underlying2 (Tryz.zeroValue2 _) (Sk.kind_mk x)
  rw [r.at_ x] at hat
  simp only [DataW.lit.injEq, Lit.int.injEq, true_and] at hat
  rw [hl, hat]
/-- 'm[k] += n' (or '-='). -/
theorem Tal.put {w : World} {b nn : Nat} {l : List Tri} (h : Tal w b nn l) (hn : nn < maxLen) (r : R64) (c : Int) (hc : c = wrap64 (lookT l (keyT r.1) + r.1.n)) :
    ∃ (v0 : Value) (st : Nat) (w1 w2 : World), w.grownBy w1 (some b) ∧ (Instr.mapEntry 90 (.map (some b)) (kv (keyT r.1))).run Tryz.prog w = .ok (.tuple #[v0, .int .i64 st]) w1 ∧ (Instr.lookup 90 (.map (some b)) (kv (keyT r.1)) false).run Tryz.prog w1 = .ok (.int .i64 (lookT l (keyT r.1))) w1 ∧
      (Instr.entryStore 90 (.map (some b)) (.int .i64 st) (.int .i64 c)).run Tryz.prog w1 = .ok () w2 ∧ Tal w2 b (nn + 1) (putT l r.1) ∧ w.grownBy w2 (some b) := by
  have hlk := h.look r.k
  obtain ⟨D, h, rl⟩ := h
  obtain ⟨v0, st, w1, hg1, he, hs⟩ := Sk.owns_entry h hn r.k
  obtain ⟨w2, h2, ho, hg⟩ := hs c (by rw [hc]; exact wrap64_wf _)
  refine ⟨v0, st, w1, w2, hg1, he, Sk.owns_entry_look h hn r.k hlk he, h2, ⟨_, ho, ?_⟩, hg⟩
  have := rl.step kinj r
  unfold bumpD at this
  rw [show klit (keyT r.1) = klit r.k.1 from rfl, rl.at_ r.k] at this
  rw [hc]
  exact this
theorem Tal.ne {w : World} {b nn g : Nat} {l : List Tri} {c : Array Value} {t : TypeId} {f : Nat × Nat} (h : Tal w b nn l) (hg : w.heap[g]? = some (.cells c t f)) : some g ≠ some b := fun e => by
  obtain ⟨D, ⟨es, ck, h1, _⟩, _⟩ := h
  cases e
  rw [h1] at hg
  cases hg
theorem cel_grown {w w' : World} {b : Nat} {p : Option Addr} {sz : Nat} {cs : List (List Value)} (h : Cel w p sz cs) (hb : ∀ c t f, w.heap[b]? ≠ some (.cells c t f)) (hg : w.grownBy w' (some b)) : Cel w' p sz cs := by
  rcases h with h | ⟨g, o, e, hl, hc⟩
  · exact Or.inl h
  · by_cases hcs : cs = []
    · exact Or.inl hcs
    · refine Or.inr ⟨g, o, e, Nat.lt_of_lt_of_le hl hg.size, fun i r hr j v hv => ?_⟩
      have h1 := hc i r hr j v hv
      have hgb : g ≠ b := by
        rintro rfl
        unfold World.cell? at h1
        cases hh : w.heap[g]? with
        | none => simp [hh] at h1
        | some ob =>
          cases ob with
          | cells c t f => exact hb c t f hh
          | _ => simp [hh] at h1
      rw [← h1]
      unfold World.cell?
      simp only
      rw [hg.block g hl (by simp [hgb])]
theorem tal_nocells {w : World} {b nn : Nat} {l : List Tri} (h : Tal w b nn l) : ∀ c t f, w.heap[b]? ≠ some (.cells c t f) := fun c t f e => by
  obtain ⟨D, ⟨es, ck, h1, _⟩, _⟩ := h
  rw [h1] at e
  cases e
set_option maxRecDepth 100000 in
set_option maxHeartbeats 1000000 in
theorem skindOf_any (w : World) (a b n : Int) :
    Calls Tryz.prog 31 #[.agg #[.int .i64 a, .int .i64 b, .int .i64 n]] w fun e w' => e = .returned (.agg #[.int .i64 a, .int .i64 b]) ∧ Below w.heap.size w w' := by
  go_enter Tryz.func31, Tryz.ntmps31
  go_wp2
  refine bodyPost_ret (results_cell_row rfl _ _ (w.heap.size + 1) 93 #[.int .i64 a, .int .i64 b] (0, 0) _ rfl ?_ Tryz.underlying93 rfl (by kernel_rfl)) rfl ?_
  · have h := heap_alloc_new (w.alloc (.cells #[.int .i64 a, .int .i64 b, .int .i64 n] 82)) (.cells #[.int .i64 a, .int .i64 b] 93)
    rw [World.size_alloc] at h
    exact h
  · exact ⟨rfl, ((Below.refl _ _).alloc (Nat.le_refl _) _).alloc (by simp) _⟩
end Go.Proofs.YtfdanocpbhbieaaGreat
namespace Go.Proofs.YtfdanocpbhbieaaGreat
open Go.RowKit Go.Shelf
attribute [local go_sem] Oper.semAt_some

/-- A list of rights, wherever it lies. -/
structure Rts (w : World) (p : Option Addr) (len : Nat) (rs : List Tri) : Prop where
  len : rs.length = len
  wf : ∀ r ∈ rs, TriWf r
  cel : Cel w p 3 (rs.map tric)
theorem Rts.below {w w' : World} {p : Option Addr} {len : Nat} {rs : List Tri} (h : Rts w p len rs) (hb : Below w.heap.size w w') : Rts w' p len rs := ⟨h.len, h.wf, h.cel.below hb⟩
theorem Rts.row {w : World} {B len cap : Nat} {p : Option Addr} {e : TypeId} {rs : List Tri} (h : w.ownsRow B e 3 (.slice p len cap) len (rcells rs)) (hl : rs.length = len) (hw : ∀ r ∈ rs, TriWf r) : Rts w p len rs := by
  refine ⟨hl, hw, ?_⟩
  by_cases he : rs = []
  · exact Or.inl (by rw [he]; rfl)
  · have hc : ∀ (l : List Tri) (i : Nat) (r : Tri), l[i]? = some r → ∀ (j : Nat) (v : Value), (tric r)[j]? = some v → (rcells l)[i * 3 + j]? = some v := by
      intro l
      induction l with
      | nil => intro i r h; simp at h
      | cons x l ih =>
        intro i r h j v hv
        have ec : rcells (x :: l) = tric x ++ rcells l := rfl
        have el : (tric x).length = 3 := rfl
        cases i with
        | zero =>
          simp at h; subst h
          have hj : j < 3 := by have := (List.getElem?_eq_some_iff.1 hv).1; simpa [tric] using this
          rw [ec, Nat.zero_mul, Nat.zero_add, List.getElem?_append_left (by rw [el]; exact hj)]; exact hv
        | succ i =>
          have := ih i r (by simpa using h) j v hv
          rw [ec, List.getElem?_append_right (by rw [el]; omega), el, show (i + 1) * 3 + j - 3 = i * 3 + j by omega]
          exact this
    obtain ⟨x, xs, rfl⟩ := List.exists_cons_of_ne_nil he
    obtain ⟨g, hp, hgl, _⟩ := row_cell h (hc _ 0 x rfl 0 _ rfl)
    refine Or.inr ⟨g, 0, hp, hgl, fun i r hr j v hv => ?_⟩
    obtain ⟨r', hr', rfl⟩ : ∃ r', (x :: xs)[i]? = some r' ∧ tric r' = r := by
      rw [List.getElem?_map] at hr
      cases hh : (x :: xs)[i]? with
      | none => rw [hh] at hr; simp at hr
      | some r' => rw [hh] at hr; simp at hr; exact ⟨r', rfl, hr⟩
    obtain ⟨g', hp', _, hc'⟩ := row_cell h (hc _ i r' hr' j v hv)
    rw [hp] at hp'
    simp only [Option.some.injEq, Addr.mk.injEq, and_true] at hp'
    subst hp'
    rw [Nat.zero_add]
    exact hc'
theorem needT_wf {xs : List Lin} (h : ∀ x ∈ xs, LinWf x) : ∀ r ∈ needT xs, TriWf r := by
  have step : ∀ (l : List Tri) (r : Tri), (∀ x ∈ l, TriWf x) → TriWf r → ∀ x ∈ putT l r, TriWf x := by
    intro l
    induction l with
    | nil => intro r _ hr x hx; simp [putT] at hx; subst hx; exact hr
    | cons y l ih =>
      intro r hl hr x hx
      unfold putT at hx
      split at hx
      · rcases List.mem_cons.1 hx with rfl | hx
        · exact ⟨(hl y (List.mem_cons_self ..)).1, (hl y (List.mem_cons_self ..)).2.1, wrap64_wf _⟩
        · exact hl x (List.mem_cons_of_mem _ hx)
      · split at hx
        · rcases List.mem_cons.1 hx with rfl | hx
          · exact hr
          · exact hl x hx
        · rcases List.mem_cons.1 hx with rfl | hx
          · exact hl _ (List.mem_cons_self ..)
          · exact ih r (fun z hz => hl z (List.mem_cons_of_mem _ hz)) hr x hx
  suffices hh : ∀ l : List Tri, (∀ x ∈ l, TriWf x) → ∀ r ∈ xs.foldl (fun l x => putT l (triOf x)) l, TriWf r from hh [] (fun x hx => by simp at hx)
  induction xs with
  | nil => intro l hl; exact hl
  | cons x xs ih => intro l hl; exact ih (fun z hz => h z (List.mem_cons_of_mem _ hz)) _ (step l _ hl ⟨(h x (List.mem_cons_self ..)).1, wf_way _, wf_wrap _⟩)
theorem putT_length (l : List Tri) (r : Tri) : (putT l r).length ≤ l.length + 1 := by
  induction l with
  | nil => simp [putT]
  | cons x l ih =>
    unfold putT
    split
    · simp
    · split
      · simp
      · simp; omega
theorem needT_length (xs : List Lin) : (needT xs).length ≤ xs.length := by
  suffices hh : ∀ l : List Tri, (xs.foldl (fun l x => putT l (triOf x)) l).length ≤ l.length + xs.length from by have := hh []; simpa [needT] using this
  induction xs with
  | nil => intro l; simp
  | cons x xs ih => intro l; have := ih (putT l (triOf x)); have := putT_length l (triOf x); simp; omega

set_option maxRecDepth 100000 in
theorem list_rights (w : World) (v : Value) : Calls Tryz.prog 160 #[v] w fun e w' => e = .returned v ∧ w' = w := by
  go_enter Tryz.func160, Tryz.ntmps160
  go_wp2
  go_ret
  exact ⟨rfl, rfl⟩
set_option maxRecDepth 100000 in
theorem lines_rights (w : World) (p : Option Addr) (len cap : Nat) (xs : List Lin) (hlen : xs.length = len) (hreach : len ≤ 1099511627776) (hxs : ∀ x ∈ xs, LinWf x) (hL : Lins w.heap.size w p xs) :
    Calls Tryz.prog 162 #[.slice p len cap] w fun e w' => ∃ v, e = .returned v ∧ w'.ownsRow w.heap.size 82 3 v (needT xs).length (rcells (needT xs)) ∧ Below w.heap.size w w' := by
  have HN := hide (needs_any w p len cap xs hlen hreach hxs hL)
  go_enter Tryz.func162, Tryz.ntmps162
  go_wp2_with (go_at_call 30; refine HN.out.mono ?_; rintro e w2 ⟨v, rfl, hr, hb⟩)
  go_ret
  exact ⟨v, rfl, hr, hb⟩
set_option maxRecDepth 100000 in
theorem single_rights (w : World) (a b n : Int) :
    Calls Tryz.prog 163 #[.agg #[.int .i64 a, .int .i64 b, .int .i64 n]] w fun e w' => ∃ g, e = .returned (.slice (some ⟨g, 0, none⟩) 1 1) ∧ w'.heap[g]? = some (.cells #[.int .i64 a, .int .i64 b, .int .i64 n] 82 (0, 0)) ∧ Below w.heap.size w w' := by
  go_enter Tryz.func163, Tryz.ntmps163
  go_wp2
  go_ret
  refine ⟨w.heap.size + 1, rfl, ?_, ((Below.refl _ _).alloc (Nat.le_refl _) _).alloc (by simp) _⟩
  have h := heap_alloc_new (w.alloc (.cells #[.int .i64 a, .int .i64 b, .int .i64 n] 150)) (.cells #[.int .i64 a, .int .i64 b, .int .i64 n] 82)
  rw [World.size_alloc] at h
  exact h
theorem below_grown {w w' : World} (h : Below w.heap.size w w') (row : Option Nat) : w.grownBy w' row := ⟨h.os, h.tape, h.output, h.size, fun i hi _ => h.block i hi⟩
end Go.Proofs.YtfdanocpbhbieaaGreat
namespace Go.Proofs.YtfdanocpbhbieaaGreat
open Go.RowKit Go.Shelf
attribute [local go_sem] Oper.semAt_some

set_option maxRecDepth 100000 in
set_option maxHeartbeats 4000000 in
theorem addUp_list (w : World) (b nn : Nat) (l : List Tri) (hT : Tal w b nn l) (p : Option Addr) (len cap : Nat) (rs : List Tri) (hR : Rts w p len rs) (hm : nn + len ≤ 1099511627776) :
    Calls Tryz.prog 45 #[.map (some b), .slice p len cap] w fun e w' => e = .returned (.tuple #[]) ∧ Tal w' b (nn + len) (addsT l rs) ∧ w.grownBy w' (some b) := by
  have HR := hide (fun v => list_rights w v)
  have HRl := hide hR
  have HT1 := hide hT
  have HBw : Hid (Below w.heap.size w w) := Below.refl _ _
  have H0 : Hid (Tal w b (nn + 0) (addsT l (rs.take 0)) ∧ w.grownBy w (some b)) := ⟨hT, below_grown HBw.out _⟩
  clear hT hR
  go_enter Tryz.func45, Tryz.ntmps45
  go_wp2_with (first | go_invoke | fail)
  refine (HR.out _).mono ?_
  rintro e w2 ⟨rfl, hw⟩
  rw [hw]
  clear hw w2
  go_wp2
  go_loopw [10] (fun i wr => ∃ j : Nat, j ≤ len ∧ i = .int .i64 j ∧ Hid (Tal wr b (nn + j) (addsT l (rs.take j)) ∧ w.grownBy wr (some b))) (fun i _ => len - (intOf i).toNat)
  case atStart => exact ⟨0, Nat.zero_le _, rfl, H0⟩
  case round =>
    clear H0
    obtain ⟨j, hj, rfl, HI⟩ := hrel
    by_cases hlt : j < len
    · have hlt' : (j : Int) < (len : Int) := by omega
      have i0 : (0 : Int) ≤ (j : Int) := by omega
      obtain ⟨x, hx⟩ : ∃ x, rs[j]? = some x := ⟨_, List.getElem?_eq_getElem (by rw [HRl.out.len]; exact hlt)⟩
      have hcel := cel_grown HRl.out.cel (tal_nocells HT1.out) HI.out.2
      obtain ⟨gb, o, rfl, hgl, hcc⟩ := hcel.get (i := j) (r := tric x) (by simp [hx])
      have hwf := HRl.out.wf x (List.mem_of_getElem? hx)
      obtain ⟨r, hr⟩ : ∃ r : R64, r.1 = x := ⟨⟨x, hwf⟩, rfl⟩
      have HRx := hide hr
      have HX := hide hx
      obtain ⟨xa, xb, xn⟩ := x
      have k0 : wr.cell? ⟨gb, o + j * 3, none⟩ = some (.int .i64 xa) := hcc 0 _ rfl
      have k1 : wr.cell? ⟨gb, o + j * 3 + 1, none⟩ = some (.int .i64 xb) := hcc 1 _ rfl
      have k2 : wr.cell? ⟨gb, o + j * 3 + 2, none⟩ = some (.int .i64 xn) := hcc 2 _ rfl
      clear hcc hcel hwf hx hr
      obtain ⟨w6, hw6⟩ : ∃ w6, wr.alloc (.cells #[.int .i64 xa, .int .i64 xb, .int .i64 xn] 82) = w6 := ⟨_, rfl⟩
      have HB6 : Hid (Below wr.heap.size wr w6) := by show Below _ _ _; rw [← hw6]; exact (Below.refl _ _).alloc (Nat.le_refl _) _
      have HG6 : Hid (w6.heap[wr.heap.size]? = some (.cells #[.int .i64 xa, .int .i64 xb, .int .i64 xn] 82 (0, 0))) := by show _ = _; rw [← hw6]; exact heap_alloc_new _ _
      have c0 : w6.cell? ⟨wr.heap.size, 0, none⟩ = some (.int .i64 xa) := by rw [← hw6]; simp
      have c1 : w6.cell? ⟨wr.heap.size, 1, none⟩ = some (.int .i64 xb) := by rw [← hw6]; simp
      have c2 : w6.cell? ⟨wr.heap.size, 2, none⟩ = some (.int .i64 xn) := by rw [← hw6]; simp
      have HK := hide (fun W => skindOf_any W xa xb xn)
      have HW6 := hide hw6
      have HFin : Hid (∀ w7, Below w6.heap.size w6 w7 → w7.cell? ⟨wr.heap.size, 0, none⟩ = some (.int .i64 xa) ∧ w7.cell? ⟨wr.heap.size, 1, none⟩ = some (.int .i64 xb) ∧ w7.cell? ⟨wr.heap.size, 2, none⟩ = some (.int .i64 xn) ∧ ∃ (c : Int) (v0 : Value) (st : Nat) (w8 w9 : World), (Instr.lookup 90 (.map (some b)) (.agg #[.int .i64 xa, .int .i64 xb]) false).run Tryz.prog w7 = .ok (.int .i64 c) w7 ∧ (Instr.mapEntry 90 (.map (some b)) (.agg #[.int .i64 xa, .int .i64 xb])).run Tryz.prog w7 = .ok (.tuple #[v0, .int .i64 st]) w8 ∧ (Instr.lookup 90 (.map (some b)) (.agg #[.int .i64 xa, .int .i64 xb]) false).run Tryz.prog w8 = .ok (.int .i64 c) w8 ∧ (Instr.entryStore 90 (.map (some b)) (.int .i64 st) (.int .i64 (IntKind.i64.wrap (c + xn)))).run Tryz.prog w8 = .ok () w9 ∧ (w8.cell? ⟨wr.heap.size, 0, none⟩ = some (.int .i64 xa) ∧ w8.cell? ⟨wr.heap.size, 1, none⟩ = some (.int .i64 xb) ∧ w8.cell? ⟨wr.heap.size, 2, none⟩ = some (.int .i64 xn)) ∧ (w9.cell? ⟨wr.heap.size, 0, none⟩ = some (.int .i64 xa) ∧ w9.cell? ⟨wr.heap.size, 1, none⟩ = some (.int .i64 xb) ∧ w9.cell? ⟨wr.heap.size, 2, none⟩ = some (.int .i64 xn)) ∧ Hid (Tal w9 b (nn + (j + 1)) (addsT l (rs.take (j + 1))) ∧ w.grownBy w9 (some b))) := fun w7 hb7 => by
        have hg7 : w7.heap[wr.heap.size]? = _ := (hb7.block _ (ac_lt HG6.out)).trans HG6.out
        have hbW : Below wr.heap.size wr w7 := HB6.out.trans (hb7.mono HB6.out.size)
        have hT7 := HI.out.1.below hbW
        have hk : keyT r.1 = (xa, xb) := by rw [HRx.out]; rfl
        have hn : r.1.n = xn := by rw [HRx.out]
        obtain ⟨v0, st, w8, w9, h0, h1, h2, h3, h4, h5⟩ := hT7.put (by unfold maxLen; omega) r _ rfl
        have hl := hT7.look r.k
        rw [show r.k.1 = (xa, xb) from hk] at hl
        rw [hk, hn] at h3
        rw [hk] at h1 h2
        rw [← wrap_eq] at h3
        refine ⟨(ac3 hg7).1, (ac3 hg7).2.1, (ac3 hg7).2.2, _, v0, st, w8, w9, hl, h1, h2, h3, ac3 ((h0.block _ (ac_lt hg7) (hT7.ne hg7)).trans hg7), ac3 ((h5.block _ (ac_lt hg7) (hT7.ne hg7)).trans hg7), ?_, ?_⟩
        · rw [take_snoc HX.out, addsT_snoc, ← HRx.out]; exact h4
        · exact (HI.out.2.trans (below_grown hbW (some b))).trans h5
      clear hw6
      go_wp2
      rw [HW6.out]
      go_region_held3 (fun w' => w'.cell? ⟨wr.heap.size, 0, none⟩ = some (.int .i64 xa) ∧ w'.cell? ⟨wr.heap.size, 1, none⟩ = some (.int .i64 xb) ∧ w'.cell? ⟨wr.heap.size, 2, none⟩ = some (.int .i64 xn)) (go_keep) (first | (go_at_call 31; refine (HK.out _).mono ?_; rintro e w7 ⟨rfl, hb7⟩; obtain ⟨z0, z1, z2, c, v0, st, w8, w9, hl, hm, hl2, hs, ⟨y0, y1, y2⟩, ⟨x0, x1, x2⟩, HE⟩ := HFin.out w7 ((Below.refl _ w6).drew.trans hb7)) | fail)
      all_goals (go_wp2; go_roundw)
      all_goals (first | exact ⟨j + 1, by omega, by go_num, HE⟩ | (simp [intOf]; omega))
    · obtain rfl : j = len := by omega
      have e1 : ¬ (j : Int) < (j : Int) := by omega
      go_wp2
      go_end0
      refine ⟨rfl, ?_⟩
      have h := HI.out
      rw [List.take_of_length_le (by rw [HRl.out.len]; exact Nat.le_refl _)] at h
      exact ⟨h.1, (below_grown HBw.out _).trans h.2⟩
end Go.Proofs.YtfdanocpbhbieaaGreat
