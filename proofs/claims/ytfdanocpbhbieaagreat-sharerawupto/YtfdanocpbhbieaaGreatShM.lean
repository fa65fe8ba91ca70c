import Derived.Test.YtfdanocpbhbieaaGreatShJ
namespace Go.Proofs.YtfdanocpbhbieaaGreat
open Go.RowKit Go.Shelf Go.Lib Go.Sort
attribute [local go_sem] Oper.semAt_some

set_option maxRecDepth 100000 in
set_option maxHeartbeats 2000000 in
theorem byR (x0 x1 x2 y0 y1 y2 : Int) (W : World) :
    Calls Tryz.prog 29 #[.agg #[.int .i64 x0, .int .i64 x1, .int .i64 x2], .agg #[.int .i64 y0, .int .i64 y1, .int .i64 y2]] W fun e w' => e = .returned (.int .i64 (orI (cmI x0 y0) (cmI x1 y1))) ∧ ∃ q os', w' = grow (W.drewN q) os' := by
  have H1 : Hid (∀ (a b : Int) (W' : World), Calls Tryz.prog 51 #[.int .i64 a, .int .i64 b] W' fun e w' => e = .returned (.int .i64 (cmI a b)) ∧ w' = W') := fun a b W' => AnyG.cmp_Compare_int Tryz.cmpInt a b W'
  have H3 : Hid (∀ (a b : Int) (W' : World), Calls Tryz.prog 50 #[.slice (some ⟨W'.heap.size, 0, none⟩) 2 2] (W'.alloc (.cells #[.int .i64 a, .int .i64 b] 3)).drew fun e w' => e = .returned (.int .i64 (orI a b)) ∧ w' = (W'.alloc (.cells #[.int .i64 a, .int .i64 b] 3)).drew) := fun a b W' =>
    or_any _ _ a b (by show (W'.alloc _).cell? _ = _; simp) (by show (W'.alloc _).cell? _ = _; simp)
  obtain ⟨w2, hw2⟩ : ∃ w2, (W.alloc (.cells #[.int .i64 x0, .int .i64 x1, .int .i64 x2] 82)).alloc (.cells #[.int .i64 y0, .int .i64 y1, .int .i64 y2] 82) = w2 := ⟨_, rfl⟩
  have c0 : w2.cell? ⟨W.heap.size, 0, none⟩ = some (.int .i64 x0) := by rw [← hw2]; simp
  have c1 : w2.cell? ⟨W.heap.size, 1, none⟩ = some (.int .i64 x1) := by rw [← hw2]; simp
  have d0 : w2.cell? ⟨W.heap.size + 1, 0, none⟩ = some (.int .i64 y0) := by rw [← hw2]; simp
  have d1 : w2.cell? ⟨W.heap.size + 1, 1, none⟩ = some (.int .i64 y1) := by rw [← hw2]; simp
  have HW := hide hw2
  have HE : Hid (∀ o : Obj, ∃ q os', (w2.alloc o).drew = grow (W.drewN q) os') := fun o => by
    refine ⟨1, #[.cells #[.int .i64 x0, .int .i64 x1, .int .i64 x2] 82] ++ #[.cells #[.int .i64 y0, .int .i64 y1, .int .i64 y2] 82] ++ #[o], ?_⟩
    rw [← hw2, alloc_eq_grow, alloc_eq_grow, alloc_eq_grow, grow_grow, grow_grow]
    rfl
  clear hw2
  go_enter Tryz.func29, Tryz.ntmps29
  go_upto_region 1 with fail
  rw [HW.out]
  go_region_held3 (fun w' => w'.cell? ⟨W.heap.size, 0, none⟩ = some (.int .i64 x0) ∧ w'.cell? ⟨W.heap.size, 1, none⟩ = some (.int .i64 x1) ∧ w'.cell? ⟨W.heap.size + 1, 0, none⟩ = some (.int .i64 y0) ∧ w'.cell? ⟨W.heap.size + 1, 1, none⟩ = some (.int .i64 y1)) (go_keep) (first | (go_at_call 51; refine (H1.out _ _ _).mono ?_; rintro e w3 ⟨rfl, rfl⟩) | (go_at_call 50; refine (H3.out _ _ _).mono ?_; rintro e w3 ⟨rfl, rfl⟩) | fail)
  go_wp2
  go_ret
  exact ⟨rfl, HE.out _⟩

def kenc3 (l : List Tri) (x : K64) : List Value := [.int .i64 x.1.1, .int .i64 x.1.2, .int .i64 (lookT l x.1)]
def rc3 (l : List Tri) (ss : List K64) : List Value := ss.flatMap (kenc3 l)
theorem rc3_eq (l : List Tri) (ss : List K64) : rc3 l ss = rcells (withN l ss) := by
  induction ss with
  | nil => rfl
  | cons x ss ih =>
    have e1 : rc3 l (x :: ss) = kenc3 l x ++ rc3 l ss := rfl
    have e2 : rcells (withN l (x :: ss)) = kenc3 l x ++ rcells (withN l ss) := rfl
    rw [e1, e2, ih]
theorem rc3_len (l : List Tri) (ss : List K64) : (rc3 l ss).length = ss.length * 3 := by
  induction ss with
  | nil => rfl
  | cons x ss ih =>
    have : rc3 l (x :: ss) = kenc3 l x ++ rc3 l ss := rfl
    rw [this, List.length_append, ih, List.length_cons]
    simp [kenc3]
    omega
theorem rc3_get (l : List Tri) (ss : List K64) : ∀ (i : Nat) (x : K64), ss[i]? = some x → ∀ (d : Nat) (v : Value), (kenc3 l x)[d]? = some v → (rc3 l ss)[i * 3 + d]? = some v := by
  induction ss with
  | nil => intro i x h; simp at h
  | cons y ss ih =>
    intro i x h d v hv
    have e : rc3 l (y :: ss) = kenc3 l y ++ rc3 l ss := rfl
    have el : (kenc3 l y).length = 3 := rfl
    cases i with
    | zero =>
      simp at h; subst h
      have hd : d < 3 := by have := (List.getElem?_eq_some_iff.1 hv).1; simpa [kenc3] using this
      rw [e, Nat.zero_mul, Nat.zero_add, List.getElem?_append_left (by rw [el]; exact hd)]; exact hv
    | succ i =>
      have := ih i x (by simpa using h) d v hv
      rw [e, List.getElem?_append_right (by rw [el]; omega), el, show (i + 1) * 3 + d - 3 = i * 3 + d by omega]
      exact this
theorem flat_eq3 (l : List Tri) (ss : List K64) : (flatK (kenc3 l) 3 ss.toArray).toList = rc3 l ss := by
  apply List.ext_getElem?
  intro t
  by_cases h : t < ss.length * 3
  · have h1 : t < (flatK (kenc3 l) 3 ss.toArray).size := by simpa using h
    rw [Array.getElem?_toList, Array.getElem?_eq_getElem h1, ← getElem!_pos (flatK (kenc3 l) 3 ss.toArray) t h1, get_flatK _ _ _ _ (by simpa using h)]
    have hi : t / 3 < ss.length := by omega
    have hx : ss[t / 3]? = some ss[t / 3] := List.getElem?_eq_getElem hi
    have hx2 : ss.toArray[t / 3]! = ss[t / 3] := by simp [hi]
    have g := rc3_get l ss _ _ hx
    rw [hx2]
    have hm : t % 3 < 3 := Nat.mod_lt _ (by omega)
    have ht : t = t / 3 * 3 + t % 3 := by omega
    rw [show (rc3 l ss)[t]? = (rc3 l ss)[t / 3 * 3 + t % 3]? by rw [← ht]]
    have hc : t % 3 = 0 ∨ t % 3 = 1 ∨ t % 3 = 2 := by omega
    rcases hc with e | e | e
    · rw [e, g 0 _ rfl]; rfl
    · rw [e, g 1 _ rfl]; rfl
    · rw [e, g 2 _ rfl]; rfl
  · rw [List.getElem?_eq_none (by simp; omega), List.getElem?_eq_none (by rw [rc3_len]; omega)]
theorem holds_flat3 {l : List Tri} {w : World} {g : Nat} {cur : Array Value} {e : TypeId} {ss : List K64} (hb : w.heap[g]? = some (.cells cur e (0, 0))) (ht : cur.toList.take (ss.length * 3) = rc3 l ss) : HoldsK (kenc3 l) 3 w g 0 ss.toArray := by
  intro j hj
  have hj' : j < ss.length * 3 := by simpa using hj
  refine ⟨?_, by simp [World.frozen?, hb]⟩
  have h1 : (cur.toList.take (ss.length * 3))[j]? = (flatK (kenc3 l) 3 ss.toArray).toList[j]? := by rw [ht, flat_eq3 l]
  rw [List.getElem?_take_of_lt hj'] at h1
  simp only [World.cell?, hb, Nat.zero_add]
  simp only [Option.isSome_none, Bool.false_eq_true, if_false]
  rw [← Array.getElem?_toList, h1, Array.getElem?_toList, Array.getElem?_eq_getElem hj, ← getElem!_pos]
  rfl
theorem owns_flat3 {l : List Tri} {w : World} {base g cap n : Nat} {e : TypeId} {os : Array Obj} {cur : Array Value} {ss ts : List K64} (hl : ts.length = ss.length) (hbase : base ≤ g) (hb : w.heap[g]? = some (.cells cur e (0, 0))) (h1 : ss.length ≤ cap) (h2 : cap ≤ maxLen) (h3 : cur.size = cap * 3) :
    (sortWorldK (kenc3 l) 3 w g 0 n ts.toArray os).ownsRow base e 3 (.slice (some ⟨g, 0, none⟩) ss.length cap) ss.length (rc3 l ts) := by
  have hg : g < w.heap.size := (Array.getElem?_eq_some_iff.1 hb).1
  have hheap : (sortWorldK (kenc3 l) 3 w g 0 n ts.toArray os).heap[g]? = some (.cells (putCells id 0 (flatK (kenc3 l) 3 ts.toArray) cur) e (0, 0)) := by
    unfold sortWorldK putRowK
    rw [heap_grow_old _ _ (by simpa using hg)]
    simp [putRow, mapBlock, Sort.ahead, Array.getElem?_modify, hb, onCells]
  refine ⟨by rw [rc3_len, hl], .inr ⟨g, cap, _, rfl, hbase, hheap, h1, h2, by simp [putCells, h3], ?_⟩⟩
  rw [← flat_eq3 l]
  apply List.ext_getElem?
  intro j
  by_cases hj : j < ss.length * 3
  · have hj2 : j < (flatK (kenc3 l) 3 ts.toArray).size := by simp [hl]; omega
    have hj3 : j < ts.length * 3 := by rw [hl]; exact hj
    rw [List.getElem?_take_of_lt hj, Array.getElem?_toList, Array.getElem?_toList, Array.getElem?_eq_getElem hj2]
    simp [putCells, show j < cur.size by omega, hj3]
  · rw [List.getElem?_take_eq_none (by omega), List.getElem?_eq_none (by simp [hl]; omega)]
theorem grown_flat3 {l : List Tri} {w : World} {g n : Nat} {os : Array Obj} (d : Array K64) : w.grownBy (sortWorldK (kenc3 l) 3 w g 0 n d os) (some g) := by
  refine ⟨rfl, rfl, rfl, by simp [sortWorldK, putRowK], fun k hk hne => ?_⟩
  unfold sortWorldK putRowK
  rw [heap_grow_old _ _ (by simpa using hk)]
  have : g ≠ k := fun e => hne (by rw [e])
  simp [putRow, mapBlock, Sort.ahead, Array.getElem?_modify, this]
theorem cmpLaysR (l : List Tri) (blk off size : Nat) (w : World) : CmpLays Tryz.prog 29 #[] (kenc3 l) 3 cmpK blk off size w := fun _ _ _ _ x y => byR x.1.1 x.1.2 _ y.1.1 y.1.2 _ _
theorem byR_enters : ∀ args w, (callFunc 29 args).run Tryz.prog w = .ok (.enter 29 args) w := enters_of Tryz.func29 (by kernel_rfl) rfl
theorem sortR_any (l : List Tri) (blk cap : Nat) (ss : List K64) (w : World) (hH : HoldsK (kenc3 l) 3 w blk 0 ss.toArray) (hblk : blk < w.heap.size) (hsz : ss.length < 4611686018427387904) :
    Calls Tryz.prog 28 #[.slice (some ⟨blk, 0, none⟩) ss.length cap, .func (.func 29) #[] #[]] w fun e w' => e = .returned (.tuple #[]) ∧ ∃ n os, w' = sortWorldK (kenc3 l) 3 w blk 0 n (ss.mergeSort leK).toArray os := by
  have hcon := AnyQ.slices_SortFunc_total Tryz.sortRight 3 Tryz.isAgg82 Tryz.sizeOf82 (kenc3 l) (fun _ => rfl) (fun x v hv => by simp [kenc3] at hv; rcases hv with rfl | rfl | rfl <;> rfl) cmpK swoK 29 #[] blk 0 cap ss.toArray w byR_enters (cmpLaysR l blk 0 _ w) hH hblk (by simpa using hsz) cmpK_tot
  change Calls Tryz.prog 28 _ _ _ at hcon
  exact hcon
theorem sortR_none (p : Option Addr) (cap : Nat) (fv : Value) (w : World) :
    Calls Tryz.prog 28 #[.slice p 0 cap, fv] w fun e w' => e = .returned (.tuple #[]) ∧ w' = w := by
  have hcon := AnyF.slices_SortFunc_none Tryz.sortRight p cap fv w
  change Calls Tryz.prog 28 _ _ _ at hcon
  exact hcon

end Go.Proofs.YtfdanocpbhbieaaGreat
namespace Go.Proofs.YtfdanocpbhbieaaGreat
open Go.RowKit Go.Shelf Go.Sort
open Z (Sli SlOk Acd AcdOk Acts)
attribute [local go_sem] Oper.semAt_some

def avK (l : List Tri) (ss : List K64) : List K64 := ss.filter fun k => decide (0 < lookT l k.1)
def avT (l : List Tri) : List Tri := l.filter fun x => decide (0 < x.n)
theorem avK_snoc (l : List Tri) (ss : List K64) (x : K64) : avK l (ss ++ [x]) = avK l ss ++ (if 0 < lookT l x.1 then [x] else []) := by
  unfold avK
  rw [List.filter_append]
  congr 1
  by_cases h : 0 < lookT l x.1 <;> simp [h]
theorem avK_len (l : List Tri) (ss : List K64) : (avK l ss).length ≤ ss.length := List.length_filter_le ..
theorem av_all {l : List Tri} {ss ks : List K64} (hl : l.Pairwise ltT) (hw : ∀ x ∈ l, TriWf x) (hD : DoneP l ss) (hk : ks.Pairwise (fun x y => ltK x.1 y.1)) (hm : ∀ x, x ∈ ks ↔ x ∈ avK l ss) : withN l ks = avT l := by
  have hf : (avT l).Pairwise ltT := hl.filter _
  have hks : (ks.map (·.1)).Pairwise ltK := List.pairwise_map.2 hk
  have e := sorted_look hf hks (fun k => by
    rw [List.mem_map]
    constructor
    · rintro ⟨x, hx, rfl⟩
      have h1 := (hm x).1 hx
      obtain ⟨h2, h3⟩ := List.mem_filter.1 h1
      obtain ⟨y, hy, e⟩ := hD.2.1 x.1 ⟨x, h2, rfl⟩
      refine ⟨y, List.mem_filter.2 ⟨hy, ?_⟩, e⟩
      rw [← e, lookT_mem hl hy] at h3
      exact h3
    · rintro ⟨y, hy, rfl⟩
      obtain ⟨h1, h2⟩ := List.mem_filter.1 hy
      have hwy := hw y h1
      refine ⟨⟨keyT y, hwy.1, hwy.2.1⟩, (hm _).2 (List.mem_filter.2 ⟨hD.2.2 ⟨keyT y, hwy.1, hwy.2.1⟩ ⟨y, h1, rfl⟩, ?_⟩), rfl⟩
      show decide (0 < lookT l (keyT y)) = true
      rw [lookT_mem hl h1]
      exact h2)
  rw [← e]
  unfold withN
  rw [List.map_map]
  refine List.map_congr_left fun k hk' => ?_
  show (⟨k.1.1, k.1.2, lookT l k.1⟩ : Tri) = ⟨k.1.1, k.1.2, lookT (avT l) k.1⟩
  have h1 := (hm k).1 hk'
  obtain ⟨h2, h3⟩ := List.mem_filter.1 h1
  obtain ⟨y, hy, ey⟩ := hD.2.1 k.1 ⟨k, h2, rfl⟩
  rw [← ey, lookT_mem hl hy] at h3
  rw [← ey, lookT_mem hl hy, lookT_mem hf (List.mem_filter.2 ⟨hy, h3⟩)]
/-- What a till may still promise. -/
def availT (t : Int) (ps : List Pl) (n : Nat) (zs : List Acd) : List Tri := avT (leftT t ps n zs)
theorem subsT_wf {l rs : List Tri} (hl : ∀ x ∈ l, TriWf x) (hr : ∀ x ∈ rs, TriWf x) : ∀ x ∈ subsT l rs, TriWf x := by
  induction rs generalizing l with
  | nil => exact hl
  | cons y rs ih => exact ih (putT_wf hl ⟨(hr y (List.mem_cons_self ..)).1, (hr y (List.mem_cons_self ..)).2.1, wrap64_wf _⟩) (fun z hz => hr z (List.mem_cons_of_mem _ hz))
theorem leftT_wf {t : Int} {s : Sta} {zs : List Acd} (hsw : StaWf s) (hpn : s.pn ≤ 4194304) (hzw : ∀ a ∈ zs, AwS a) : ∀ x ∈ leftT t s.pools s.pn zs, TriWf x :=
  subsT_wf (addsT_wf (by simp) (heldK_wf hsw s.pn hpn)) (neededT_wf hzw)
structure Avl (w wr : World) (b r nn : Nat) (l : List Tri) (ss : List K64) (v : Value) (k : Nat) : Prop where
  rng : Rng wr b r nn l ss
  len : (avK l ss).length = k
  row : wr.ownsRow w.heap.size 82 3 v k (rc3 l (avK l ss))
  below : Below w.heap.size w wr
theorem own_ne {w : World} {B n s k : Nat} {t : TypeId} {v : Value} {xs : List Value} (h : w.ownsRow B t s v n xs) {o : Obj} (hk : w.heap[k]? = some o) (ho : o.isCells = false) : some k ≠ v.ownBlock := owns_noncell h hk ho
theorem Rng.objs {w : World} {b r nn : Nat} {l : List Tri} {ss : List K64} (h : Rng w b r nn l ss) : (∃ o, w.heap[b]? = some o ∧ o.isCells = false) ∧ ∃ o, w.heap[r]? = some o ∧ o.isCells = false := by
  obtain ⟨D, left, cnt, ⟨es, ck, since, seen, c0, h1, _, _, _, h2, _⟩, _⟩ := h
  exact ⟨⟨_, h1, rfl⟩, ⟨_, h2, rfl⟩⟩
theorem rc3_snoc (l : List Tri) (ss : List K64) {x : K64} {x0 x1 c : Int} (hx : x.1 = (x0, x1)) (hlc : lookT l x.1 = c) : rc3 l (ss ++ [x]) = rc3 l ss ++ Z.flat tric [(⟨x0, x1, c⟩ : Tri)] := by
  have e : rc3 l (ss ++ [x]) = rc3 l ss ++ kenc3 l x := by simp [rc3]
  have e2 : kenc3 l x = Z.flat tric [(⟨x0, x1, c⟩ : Tri)] := by
    show [Value.int .i64 x.1.1, .int .i64 x.1.2, .int .i64 (lookT l x.1)] = [Value.int .i64 x0, .int .i64 x1, .int .i64 c]
    rw [hlc, hx]
  rw [e, e2]
theorem avl_step {w wr w6 : World} {b r nn k : Nat} {l : List Tri} {ss : List K64} {a : Option Addr} {cp : Nat} {x0 x1 c : Int} (h : Avl w wr b r nn l ss (.slice a k cp) k) (hr0 : w.heap.size ≤ r) (hk : k < 1099511627) (hX : MoreP wr w6 b r nn l ss x0 x1 c) (hc : 0 < c) :
    ∃ a' cp' w9 ss', (Builtin.append_ #[60, 60] 60 #[.slice a k cp, .slice (some ⟨w6.heap.size + 1, 0, none⟩) 1 1]).run Tryz.prog ((w6.alloc (.cells #[.int .i64 x0, .int .i64 x1] 93)).alloc (.cells #[.int .i64 x0, .int .i64 x1, .int .i64 c] 82)) = .ok (.slice a' (k + 1) cp') w9 ∧ Avl w w9 b r nn l ss' (.slice a' (k + 1) cp') (k + 1) ∧ w9.rangeLeft b r < wr.rangeLeft b r := by
  obtain ⟨x, hx, hlc, _, hr6, hlt6, hg6, _⟩ := hX
  obtain ⟨⟨ob, hob, hob2⟩, ⟨oo, hoo, hoo2⟩⟩ := h.rng.objs
  have hr6' := hr6
  have hrow6 := Z.owns_grown h.row hg6 (fun g e e2 => by cases e2; exact own_ne h.row hoo hoo2 e.symm)
  have hB6 := h.below.grown hg6 h.below.size (fun k e => by cases e; exact hr0)
  have hg7 : w6.grownBy (w6.alloc (.cells #[.int .i64 x0, .int .i64 x1] 93)) none := World.grownBy_alloc w6 _ none
  have hg8 : (w6.alloc (.cells #[.int .i64 x0, .int .i64 x1] 93)).grownBy ((w6.alloc (.cells #[.int .i64 x0, .int .i64 x1] 93)).alloc (.cells #[.int .i64 x0, .int .i64 x1, .int .i64 c] 82)) none := World.grownBy_alloc _ _ none
  have hrow8 := (hrow6.alloc (.cells #[.int .i64 x0, .int .i64 x1] 93)).alloc (.cells #[.int .i64 x0, .int .i64 x1, .int .i64 c] 82)
  have hB7 := hB6.grown hg7 hB6.size (fun k e => by cases e)
  have hB8 := hB7.grown hg8 hB7.size (fun k e => by cases e)
  have hr7 := hr6.kept hg7 (by simp) (by simp)
  have hr8 := hr7.1.kept hg8 (by simp) (by simp)
  obtain ⟨v3, w9, hrun, hrow9, hg9, _⟩ := Z.elt_right.run_append ((w6.alloc (.cells #[.int .i64 x0, .int .i64 x1] 93)).alloc (.cells #[.int .i64 x0, .int .i64 x1, .int .i64 c] 82)) 60 w.heap.size k _ _ hrow8 (some ⟨w6.heap.size + 1, 0, none⟩) 1 1 [(⟨x0, x1, c⟩ : Tri)] rfl (by have h := Z.cel_one1 (w := (w6.alloc (.cells #[.int .i64 x0, .int .i64 x1] 93))) (A := #[.int .i64 x0, .int .i64 x1, .int .i64 c]) (l := tric ⟨x0, x1, c⟩) (sz := 3) (t := 82) rfl; rw [World.size_alloc] at h; exact h) (by omega) hB8.size
  obtain ⟨a', cp', rfl⟩ := slice_form hrow9
  obtain ⟨⟨ob8, hob8, hob82⟩, ⟨oo8, hoo8, hoo82⟩⟩ := hr8.1.objs
  have hr9 := hr8.1.kept hg9 (own_ne hrow8 hob8 hob82) (own_ne hrow8 hoo8 hoo82)
  have ea : avK l (ss ++ [x]) = avK l ss ++ [x] := by rw [avK_snoc, hlc, if_pos hc]
  refine ⟨a', cp', w9, ss ++ [x], hrun, ⟨hr9.1, by rw [ea, List.length_append, h.len]; rfl, ?_, Z.below_own hB8 hrow8 hg9⟩, ?_⟩
  · rw [ea]
    rw [rc3_snoc l (avK l ss) hx hlc]
    exact hrow9
  · rw [hr9.2, hr8.2, hr7.2]
    exact hlt6
theorem avl_skip {w wr w6 : World} {b r nn k : Nat} {l : List Tri} {ss : List K64} {v : Value} {x0 x1 c : Int} (h : Avl w wr b r nn l ss v k) (hr0 : w.heap.size ≤ r) (hX : MoreP wr w6 b r nn l ss x0 x1 c) (hc : ¬ 0 < c) :
    ∃ ss', Avl w (w6.alloc (.cells #[.int .i64 x0, .int .i64 x1] 93)) b r nn l ss' v k ∧ ((w6.alloc (.cells #[.int .i64 x0, .int .i64 x1] 93))).rangeLeft b r < wr.rangeLeft b r := by
  obtain ⟨x, hx, hlc, _, hr6, hlt6, hg6, _⟩ := hX
  obtain ⟨⟨ob, hob, hob2⟩, ⟨oo, hoo, hoo2⟩⟩ := h.rng.objs
  have hrow6 := Z.owns_grown h.row hg6 (fun g e e2 => by cases e2; exact own_ne h.row hoo hoo2 e.symm)
  have hB6 := h.below.grown hg6 h.below.size (fun k e => by cases e; exact hr0)
  have hg7 : w6.grownBy (w6.alloc (.cells #[.int .i64 x0, .int .i64 x1] 93)) none := World.grownBy_alloc w6 _ none
  have hr7 := hr6.kept hg7 (by simp) (by simp)
  have ea : avK l (ss ++ [x]) = avK l ss := by rw [avK_snoc, hlc, if_neg hc, List.append_nil]
  exact ⟨ss ++ [x], ⟨hr7.1, by rw [ea]; exact h.len, by rw [ea]; exact hrow6.alloc _, hB6.grown hg7 hB6.size (fun k e => by cases e)⟩, by rw [hr7.2]; exact hlt6⟩

set_option maxRecDepth 100000 in
set_option maxHeartbeats 4000000 in
theorem avail_any (w : World) (s : Sta) (hs : StaOk w s) (hsw : StaWf s) (hpn : s.pn ≤ 4194304) (hhl : ∀ p ∈ s.pools, p.hl ≤ 4194304) (z : Sli Acd) (hz : Acts w z) (hzw : ∀ a ∈ z.xs, AwS a) (hzn : z.n ≤ 256) (t : Int) :
    Calls Tryz.prog 8 #[.agg s.arr, .slice z.p z.n z.c, .int .i64 t] w fun e w' => ∃ v, e = .returned v ∧ w'.ownsRow w.heap.size 82 3 v (availT t s.pools s.pn z.xs).length (rcells (availT t s.pools s.pn z.xs)) ∧ (availT t s.pools s.pn z.xs).length ≤ 1099511627 ∧ Below w.heap.size w w' := by
  show Calls Tryz.prog 8 #[.agg #[.int .u64 s.pos, .slice s.pp s.pn s.pc, .slice s.rp s.rn s.rc, .slice s.lp s.ln s.lc, .slice s.gp s.gn s.gc, .slice s.op s.on s.oc], .slice z.p z.n z.c, .int .i64 t] w _
  obtain ⟨w1, hw1⟩ : ∃ w1, w.alloc (.cells #[.int .u64 s.pos, .slice s.pp s.pn s.pc, .slice s.rp s.rn s.rc, .slice s.lp s.ln s.lc, .slice s.gp s.gn s.gc, .slice s.op s.on s.oc] 51) = w1 := ⟨_, rfl⟩
  have HB1 : Hid (Below w.heap.size w w1) := by show Below _ _ _; rw [← hw1]; exact (Below.refl _ _).alloc (Nat.le_refl _) _
  have hg1 : w1.heap[w.heap.size]? = some (.cells #[.int .u64 s.pos, .slice s.pp s.pn s.pc, .slice s.rp s.rn s.rc, .slice s.lp s.ln s.lc, .slice s.gp s.gn s.gc, .slice s.op s.on s.oc] 51 (0, 0)) := by rw [← hw1]; exact heap_alloc_new _ _
  obtain ⟨c0, c1, c2, c3, c4, c5⟩ := ac6 hg1
  have HL : Hid (Calls Tryz.prog 27 #[.agg #[.int .u64 s.pos, .slice s.pp s.pn s.pc, .slice s.rp s.rn s.rc, .slice s.lp s.ln s.lc, .slice s.gp s.gn s.gc, .slice s.op s.on s.oc], .slice z.p z.n z.c, .int .i64 t] w1 fun e w' => ∃ b nn, e = .returned (.map (some b)) ∧ w1.heap.size ≤ b ∧ nn ≤ z.n * 4194305 + 8388608 ∧ Tal w' b nn (leftT t s.pools s.pn z.xs) ∧ Below w1.heap.size w1 w') := left_any w1 s (hs.below HB1.out) hsw hpn hhl z (hz.below HB1.out) hzw (by omega) t
  have HWl := hide (leftT_wf (t := t) hsw hpn hzw)
  have HM : Hid (z.n * 4194305 ≤ 1073742080) := Nat.le_trans (Nat.mul_le_mul_right 4194305 hzn) (Nat.le_refl _)
  have HAv : Hid (availT t s.pools s.pn z.xs = avT (leftT t s.pools s.pn z.xs)) := rfl
  obtain ⟨l, hl⟩ : ∃ l, leftT t s.pools s.pn z.xs = l := ⟨_, rfl⟩
  rw [hl] at HL HWl HAv
  obtain ⟨A, hA⟩ : ∃ A, availT t s.pools s.pn z.xs = A := ⟨_, rfl⟩
  rw [hA] at HAv ⊢
  have HW1 := hide hw1
  clear hw1 hg1 hs hsw hhl hz hzw hl hA
  go_enter Tryz.func8, Tryz.ntmps8
  go_upto_region 2 with (fail)
  rw [HW1.out]
  go_wp2_with (first
    | (go_at_call 27; refine HL.out.mono ?_; rintro e w5 ⟨b, nn, rfl, hb, hnn, hT5, hb5⟩; have HT5 := hide hT5; have HB5 : Hid (Below w.heap.size w w5) := HB1.out.trans (hb5.mono HB1.out.size); have HN : Hid (nn ≤ 1082130688) := (by show _ ≤ _; have := HM.out; omega); clear hT5 hb5 hb hnn)
    | (at_range; refine range_tal _ rfl _ rfl b nn l rfl HT5.out ?_; intro w6 hr6 hg6 hs6; have HI0 : Hid (Avl w w6 b w5.heap.size nn l [] (.slice none 0 0) 0) := ⟨hr6, rfl, World.ownsRow_nil _ _ _ _, HB5.out.grown hg6 HB5.out.size (fun k e => by cases e)⟩; clear hr6 hg6 hs6)
    | fail)
  go_frame
  have HR5 : Hid (w.heap.size ≤ w5.heap.size) := HB5.out.size
  obtain ⟨r, hr⟩ : ∃ r, w5.heap.size = r := ⟨_, rfl⟩
  rw [hr] at HI0 HR5 ⊢
  clear hr c0 c1 c2 c3 c4 c5
  go_loopw [7] (fun lv wr => ∃ (ss : List K64) (a : Option Addr) (k cp : Nat), lv = .slice a k cp ∧ Hid (Avl w wr b r nn l ss (.slice a k cp) k)) (fun _ wr => wr.rangeLeft b r)
  case atStart => exact ⟨[], none, 0, 0, rfl, HI0⟩
  case round =>
    clear HI0
    obtain ⟨ss, a, k, cp, rfl, HI⟩ := hrel
    have HKm : Hid (k ≤ 1082130688) := by show _ ≤ _; have h1 := HI.out.len; have h2 := avK_len l ss; have h3 := HI.out.rng.len; have h4 := HN.out; omega
    go_wp2_with (first | (at_next; refine next_tal _ rfl _ rfl b r nn l ss rfl HI.out.rng ?_ ?_) | fail)
    · intro HD
      have hkl := HI.out.len
      have HEnd : Hid (∀ (wz : World) (v : Value) (ks : List K64), ks.Pairwise (fun x y => ltK x.1 y.1) → (∀ x, x ∈ ks ↔ x ∈ avK l ss) → ks.length = k → wz.ownsRow w.heap.size 82 3 v k (rc3 l ks) → Below w.heap.size w wz → wz.ownsRow w.heap.size 82 3 v A.length (rcells A) ∧ A.length ≤ 1099511627 ∧ Below w.heap.size w wz) := fun wz v ks h1 h2 h3 h4 h5 => by
        have e : withN l ks = A := by rw [HAv.out]; exact av_all HI.out.rng.tal.sorted HWl.out HD h1 h2
        have hAl : A.length = k := by rw [← e]; simp [withN]; exact h3
        rw [rc3_eq, e] at h4
        rw [hAl]
        have := HKm.out
        exact ⟨h4, by omega, h5⟩
      have hnd : (avK l ss).Nodup := HD.1.filter _
      rcases HI.out.row.2 with ⟨e0, hz0⟩ | ⟨gb, cap, cur, e0, hbase, hgb, r1, r2, r3, r4⟩
      · simp only [Value.slice.injEq] at e0
        obtain ⟨rfl, rfl, rfl⟩ := e0
        have hss : avK l ss = [] := List.eq_nil_of_length_eq_zero hkl
        have HE := hide (HEnd.out wr (.slice none 0 0) [] List.Pairwise.nil (fun x => by rw [hss]) rfl (by rw [← hss]; exact HI.out.row) HI.out.below)
        have HS := hide (fun fv => sortR_none none 0 fv wr)
        clear hkl hnd HEnd HI HD hss hz0
        go_wp2_with (go_at_call 28; refine (HS.out _).mono ?_; rintro e w8 ⟨rfl, hw8⟩; rw [hw8]; clear hw8 w8)
        go_ret
        exact ⟨_, rfl, HE.out⟩
      · simp only [Value.slice.injEq] at e0
        obtain ⟨rfl, _, rfl⟩ := e0
        obtain ⟨ks, hks⟩ : ∃ ks, avK l ss = ks := ⟨_, rfl⟩
        rw [hks] at hkl r4 hnd HEnd
        subst hkl
        have hgl : gb < wr.heap.size := (Array.getElem?_eq_some_iff.1 hgb).1
        have HS := hide (sortR_any l gb cp ks wr (holds_flat3 hgb r4) hgl (by have := HKm.out; omega))
        have hlm : (ks.mergeSort leK).length = ks.length := List.length_mergeSort ks
        have HE : Hid (∀ n os, (sortWorldK (kenc3 l) 3 wr gb 0 n (ks.mergeSort leK).toArray os).ownsRow w.heap.size 82 3 (.slice (some ⟨gb, 0, none⟩) ks.length cp) A.length (rcells A) ∧ A.length ≤ 1099511627 ∧ Below w.heap.size w (sortWorldK (kenc3 l) 3 wr gb 0 n (ks.mergeSort leK).toArray os)) := fun n os =>
          HEnd.out _ _ (ks.mergeSort leK) (sort_strict hnd) (fun x => (List.mergeSort_perm ks leK).mem_iff) hlm (owns_flat3 hlm hbase hgb r1 r2 r3) (HI.out.below.grown (grown_flat3 _) HI.out.below.size (fun j hj => by cases hj; exact hbase))
        clear hnd HEnd HI HD hks hgb r1 r2 r3 r4 hlm hgl
        go_wp2_with (go_at_call 28; refine HS.out.mono ?_; rintro e w8 ⟨rfl, n8, os8, hw8⟩; have HE8 := hide (HE.out n8 os8); rw [← hw8] at HE8; clear hw8)
        go_ret
        exact ⟨_, rfl, HE8.out⟩
    · intro x0 x1 c w6 HX hen
      by_cases hc : 0 < c
      · obtain ⟨a', cp', w9, ss', hrun, hA', hlt'⟩ := avl_step HI.out HR5.out (by have := HKm.out; omega) HX hc
        have HRun := hide hrun
        have HA' := hide hA'
        have HLt := hide hlt'
        clear hrun hA' hlt' HX
        go_wp2_with (at_builtin; refine Z.lp_append (.slice a k cp) (.slice (some ⟨w6.heap.size + 1, 0, none⟩) 1 1) rfl rfl ⟨_, w9, HRun.out, ?_⟩)
        go_roundw
        case rel => exact ⟨ss', a', k + 1, cp', by simp, HA'⟩
        case measure => exact HLt.out
      · obtain ⟨ss', hA', hlt'⟩ := avl_skip HI.out HR5.out HX hc
        have HA' := hide hA'
        have HLt := hide hlt'
        clear hA' hlt' HX
        go_wp2
        go_roundw
        case rel => exact ⟨ss', a, k, cp, rfl, HA'⟩
        case measure => exact HLt.out
end Go.Proofs.YtfdanocpbhbieaaGreat
namespace Go.Proofs.YtfdanocpbhbieaaGreat
open Go.RowKit Go.Shelf
open Z (Sli SlOk Acd AcdOk Acts)
attribute [local go_sem] Oper.semAt_some

def mayL (l rs : List Tri) : Bool := rs.all fun x => !decide (lookT l (keyT x) < x.n)
def mayT (t : Int) (ps : List Pl) (n : Nat) (zs : List Acd) (ls : List Lin) : Bool := mayL (leftT t ps n zs) (needT ls)

set_option maxRecDepth 100000 in
set_option maxHeartbeats 4000000 in
theorem may_any (w : World) (s : Sta) (hs : StaOk w s) (hsw : StaWf s) (hpn : s.pn ≤ 4194304) (hhl : ∀ p ∈ s.pools, p.hl ≤ 4194304) (z : Sli Acd) (hz : Acts w z) (hzw : ∀ a ∈ z.xs, AwS a) (hzn : z.n ≤ 65536) (t : Int) (ls : Sli Lin) (hls : SlOk w 2 linc ls) (hlw : ∀ x ∈ ls.xs, LinWf x) :
    Calls Tryz.prog 9 #[.agg s.arr, .slice z.p z.n z.c, .int .i64 t, .slice ls.p ls.n ls.c] w fun e w' => e = .returned (.bool (mayT t s.pools s.pn z.xs ls.xs)) ∧ Below w.heap.size w w' := by
  show Calls Tryz.prog 9 #[.agg #[.int .u64 s.pos, .slice s.pp s.pn s.pc, .slice s.rp s.rn s.rc, .slice s.lp s.ln s.lc, .slice s.gp s.gn s.gc, .slice s.op s.on s.oc], .slice z.p z.n z.c, .int .i64 t, .slice ls.p ls.n ls.c] w _
  obtain ⟨w1, hw1⟩ : ∃ w1, w.alloc (.cells #[.int .u64 s.pos, .slice s.pp s.pn s.pc, .slice s.rp s.rn s.rc, .slice s.lp s.ln s.lc, .slice s.gp s.gn s.gc, .slice s.op s.on s.oc] 51) = w1 := ⟨_, rfl⟩
  have HB1 : Hid (Below w.heap.size w w1) := by show Below _ _ _; rw [← hw1]; exact (Below.refl _ _).alloc (Nat.le_refl _) _
  have hg1 : w1.heap[w.heap.size]? = some (.cells #[.int .u64 s.pos, .slice s.pp s.pn s.pc, .slice s.rp s.rn s.rc, .slice s.lp s.ln s.lc, .slice s.gp s.gn s.gc, .slice s.op s.on s.oc] 51 (0, 0)) := by rw [← hw1]; exact heap_alloc_new _ _
  obtain ⟨c0, c1, c2, c3, c4, c5⟩ := ac6 hg1
  have HL : Hid (Calls Tryz.prog 27 #[.agg #[.int .u64 s.pos, .slice s.pp s.pn s.pc, .slice s.rp s.rn s.rc, .slice s.lp s.ln s.lc, .slice s.gp s.gn s.gc, .slice s.op s.on s.oc], .slice z.p z.n z.c, .int .i64 t] w1 fun e w' => ∃ b nn, e = .returned (.map (some b)) ∧ w1.heap.size ≤ b ∧ nn ≤ z.n * 4194305 + 8388608 ∧ Tal w' b nn (leftT t s.pools s.pn z.xs) ∧ Below w1.heap.size w1 w') := left_any w1 s (hs.below HB1.out) hsw hpn hhl z (hz.below HB1.out) hzw hzn t
  have HMy : Hid (mayT t s.pools s.pn z.xs ls.xs = mayL (leftT t s.pools s.pn z.xs) (needT ls.xs)) := rfl
  obtain ⟨l, hl⟩ : ∃ l, leftT t s.pools s.pn z.xs = l := ⟨_, rfl⟩
  rw [hl] at HL HMy
  have HLs := hide hls
  have HLw := hide hlw
  have hlm := hls.most
  obtain ⟨rs, hrs⟩ : ∃ rs, needT ls.xs = rs := ⟨_, rfl⟩
  obtain ⟨m, hm⟩ : ∃ m, rs.length = m := ⟨_, rfl⟩
  have hmm : m ≤ 4194304 := by have h1 := needT_length ls.xs; have h2 := hls.len; rw [hrs] at h1; omega
  rw [hrs] at HMy
  have HRw : Hid (∀ r ∈ rs, TriWf r) := by show ∀ r ∈ rs, TriWf r; rw [← hrs]; exact needT_wf hlw
  have HRs := hide hrs
  have HRm := hide hm
  obtain ⟨A, hA⟩ : ∃ A, mayT t s.pools s.pn z.xs ls.xs = A := ⟨_, rfl⟩
  rw [hA] at HMy ⊢
  have HW1 := hide hw1
  clear hw1 hg1 hs hsw hhl hz hzw hl hA hls hlw hrs hm
  go_enter Tryz.func9, Tryz.ntmps9
  go_upto_region 1 with (fail)
  rw [HW1.out]
  go_wp2_with (first
    | (go_at_call 27; refine HL.out.mono ?_; rintro e w5 ⟨b, nn, rfl, hb, hnn, hT5, hb5⟩; have HT5 := hide hT5; have HB5 : Hid (Below w.heap.size w w5) := HB1.out.trans (hb5.mono HB1.out.size); clear hT5 hb5 hb hnn)
    | (go_at_call 30; refine (needs_any w5 ls.p ls.n ls.c ls.xs HLs.out.len (by omega) HLw.out (cel_lins (HLs.out.below HB5.out).cel)).mono ?_; rintro e w6 ⟨v, rfl, hrow, hb6⟩; rw [HRs.out, HRm.out] at hrow; obtain ⟨rp, rc, rfl⟩ := slice_form hrow; have HI0 : Hid (Tal w6 b nn l ∧ Rts w6 rp m rs ∧ Below w.heap.size w w6) := ⟨HT5.out.below hb6, Rts.row hrow HRm.out HRw.out, HB5.out.trans (hb6.mono HB5.out.size)⟩; clear hrow hb6)
    | fail)
  clear c0 c1 c2 c3 c4 c5
  go_loopw [19] (fun i wr => ∃ j : Nat, j ≤ m ∧ i = .int .i64 j ∧ Hid (mayL l (rs.take j) = true) ∧ Hid (Tal wr b nn l ∧ Rts wr rp m rs ∧ Below w.heap.size w wr)) (fun i _ => m - (intOf i).toNat)
  case atStart => exact ⟨0, Nat.zero_le _, rfl, (rfl : mayL l (rs.take 0) = true), HI0⟩
  case round =>
    clear HI0
    obtain ⟨j, hj, rfl, HJ, HI⟩ := hrel
    by_cases hlt : j < m
    · have hlt' : (j : Int) < (m : Int) := by omega
      have i0 : (0 : Int) ≤ (j : Int) := by omega
      obtain ⟨x, hx⟩ : ∃ x, rs[j]? = some x := ⟨_, List.getElem?_eq_getElem (by rw [HRm.out]; exact hlt)⟩
      obtain ⟨gb, o, rfl, hgl, hcc⟩ := HI.out.2.1.cel.get (i := j) (r := tric x) (by simp [hx])
      have hwf := HRw.out x (List.mem_of_getElem? hx)
      have HStep : Hid (mayL l (rs.take (j + 1)) = !decide (lookT l (keyT x) < x.n)) := by
        show _ = _
        rw [take_snoc hx]
        have h := HJ.out
        unfold mayL at h ⊢
        rw [List.all_append, h]
        simp
      have HBad : Hid (lookT l (keyT x) < x.n → A = false) := fun hlt => by
        rw [HMy.out]
        unfold mayL
        rw [List.all_eq_false]
        exact ⟨x, List.mem_of_getElem? hx, by simp [hlt]⟩
      obtain ⟨kx, hkx⟩ : ∃ kx : K64, kx.1 = keyT x := ⟨⟨keyT x, hwf.1, hwf.2.1⟩, rfl⟩
      have HKx := hide hkx
      obtain ⟨xa, xb, xn⟩ := x
      have k0 : wr.cell? ⟨gb, o + j * 3, none⟩ = some (.int .i64 xa) := hcc 0 _ rfl
      have k1 : wr.cell? ⟨gb, o + j * 3 + 1, none⟩ = some (.int .i64 xb) := hcc 1 _ rfl
      have k2 : wr.cell? ⟨gb, o + j * 3 + 2, none⟩ = some (.int .i64 xn) := hcc 2 _ rfl
      clear hcc hwf hx hkx
      obtain ⟨w6, hw6⟩ : ∃ w6, wr.alloc (.cells #[.int .i64 xa, .int .i64 xb, .int .i64 xn] 82) = w6 := ⟨_, rfl⟩
      have HB6 : Hid (Below wr.heap.size wr w6) := by show Below _ _ _; rw [← hw6]; exact (Below.refl _ _).alloc (Nat.le_refl _) _
      have HG6 : Hid (w6.heap[wr.heap.size]? = some (.cells #[.int .i64 xa, .int .i64 xb, .int .i64 xn] 82 (0, 0))) := by show _ = _; rw [← hw6]; exact heap_alloc_new _ _
      obtain ⟨c0, c1, c2⟩ := ac3 HG6.out
      have HK := hide (fun W => skindOf_any W xa xb xn)
      have HW6 := hide hw6
      obtain ⟨cL, hcL⟩ : ∃ cL, lookT l (xa, xb) = cL := ⟨_, rfl⟩
      have HCl : Hid (lookT l (keyT ⟨xa, xb, xn⟩) = cL) := hcL
      have HFin : Hid (∀ w7, Below w6.heap.size w6 w7 → w7.cell? ⟨wr.heap.size, 0, none⟩ = some (.int .i64 xa) ∧ w7.cell? ⟨wr.heap.size, 1, none⟩ = some (.int .i64 xb) ∧ w7.cell? ⟨wr.heap.size, 2, none⟩ = some (.int .i64 xn) ∧ (Instr.lookup 90 (.map (some b)) (.agg #[.int .i64 xa, .int .i64 xb]) false).run Tryz.prog w7 = .ok (.int .i64 cL) w7 ∧ Hid (Tal w7 b nn l ∧ Rts w7 (some ⟨gb, o, none⟩) m rs ∧ Below w.heap.size w w7)) := fun w7 hb7 => by
        have hg7 : w7.heap[wr.heap.size]? = _ := (hb7.block _ (ac_lt HG6.out)).trans HG6.out
        have hbW : Below wr.heap.size wr w7 := HB6.out.trans (hb7.mono HB6.out.size)
        have hT7 := HI.out.1.below hbW
        have hl := hT7.look kx
        rw [show kx.1 = (xa, xb) from HKx.out, hcL] at hl
        exact ⟨(ac3 hg7).1, (ac3 hg7).2.1, (ac3 hg7).2.2, hl, hT7, HI.out.2.1.below hbW, HI.out.2.2.trans (hbW.mono HI.out.2.2.size)⟩
      clear hw6 hcL
      by_cases hc : cL < xn
      · have HA : Hid (A = false) := HBad.out (by rw [HCl.out]; exact hc)
        go_wp2
        rw [HW6.out]
        go_region_held3 (fun w' => w'.cell? ⟨wr.heap.size, 0, none⟩ = some (.int .i64 xa) ∧ w'.cell? ⟨wr.heap.size, 1, none⟩ = some (.int .i64 xb) ∧ w'.cell? ⟨wr.heap.size, 2, none⟩ = some (.int .i64 xn)) (go_keep) (first | (go_at_call 31; refine (HK.out _).mono ?_; rintro e w7 ⟨rfl, hb7⟩; obtain ⟨z0, z1, z2, hl, HE⟩ := HFin.out w7 ((Below.refl _ w6).drew.trans hb7)) | fail)
        go_wp2
        go_ret
        exact ⟨by rw [HA.out]; rfl, HE.out.2.2⟩
      · have HA : Hid (mayL l (rs.take (j + 1)) = true) := by
          show _ = _
          rw [HStep.out, HCl.out]
          simp [hc]
        go_wp2
        rw [HW6.out]
        go_region_held3 (fun w' => w'.cell? ⟨wr.heap.size, 0, none⟩ = some (.int .i64 xa) ∧ w'.cell? ⟨wr.heap.size, 1, none⟩ = some (.int .i64 xb) ∧ w'.cell? ⟨wr.heap.size, 2, none⟩ = some (.int .i64 xn)) (go_keep) (first | (go_at_call 31; refine (HK.out _).mono ?_; rintro e w7 ⟨rfl, hb7⟩; obtain ⟨z0, z1, z2, hl, HE⟩ := HFin.out w7 ((Below.refl _ w6).drew.trans hb7)) | fail)
        go_wp2
        go_roundw
        case rel => exact ⟨j + 1, by omega, by go_num, HA, HE⟩
        case measure => simp [intOf]; omega
    · obtain rfl : j = m := by omega
      have e1 : ¬ (j : Int) < (j : Int) := by omega
      have HA : Hid (A = true) := by
        show _ = _
        have h := HJ.out
        rw [List.take_of_length_le (by rw [HRm.out]; exact Nat.le_refl _)] at h
        rw [HMy.out, h]
      go_wp2
      go_ret
      exact ⟨by rw [HA.out]; rfl, HI.out.2.2⟩
end Go.Proofs.YtfdanocpbhbieaaGreat
