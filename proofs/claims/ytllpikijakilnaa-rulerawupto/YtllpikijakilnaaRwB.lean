import Derived.Test.YtllpikijakilnaaRwA
import Derived.Test.YtllpikijakilnaaWkC
namespace Go.Proofs.Ytllpikijakilnaa
open Go.RowKit

def intc (x : Int) : List Value := [.int .i64 x]
set_option maxRecDepth 100000 in
set_option maxHeartbeats 1000000 in
theorem atInt_gen (w : World) (p : Option Addr) (n c : Nat) (ps : List Int) (hn : ps.length = n) (hc : Cel w p 1 (ps.map intc)) (i : Int) :
    Calls Try.prog 59 #[.slice p n c, .int .i64 i] w fun e w' => e = .returned (.tuple #[.int .i64 (getAt ps 0 i), .bool (hasAt ps i)]) ∧ w' = w := by
  have HC := hide hc
  have HN := hide hn
  rcases at_case ps n hn i with h | ⟨h, h2⟩ | ⟨k, x, rfl, hk, hx⟩
  · obtain ⟨e1, e2⟩ := at_out (l := ps) (z := 0) (i := i) (Or.inl h)
    rw [e1, e2]
    clear e1 e2 hc hn
    go_enter Try.func59, Try.ntmps59
    go_wp2
    refine bodyPost_ret (v := .tuple #[.int .i64 0, .bool false]) (by simp [results, Try.results59, go_sem]) rfl ?_
    exact ⟨rfl, rfl⟩
  · obtain ⟨e1, e2⟩ := at_out (l := ps) (z := 0) (i := i) (Or.inr (by rw [hn]; exact h2))
    rw [e1, e2]
    clear e1 e2 hc hn
    go_enter Try.func59, Try.ntmps59
    go_wp2
    refine bodyPost_ret (v := .tuple #[.int .i64 0, .bool false]) (by simp [results, Try.results59, go_sem]) rfl ?_
    exact ⟨rfl, rfl⟩
  · obtain ⟨e1, e2⟩ := at_in (z := 0) hx
    rw [e1, e2]
    obtain ⟨b, o, rfl, hbl, hcl⟩ := HC.out.get (i := k) (r := intc x) (by rw [List.getElem?_map, hx]; rfl)
    have c0 := hcl 0 _ rfl
    rw [Nat.add_zero, Nat.mul_one] at c0
    have hk' : (k : Int) < (n : Int) := by omega
    have k0' : ¬ (k : Int) < 0 := by omega
    clear e1 e2 hc hn hcl hx
    go_enter Try.func59, Try.ntmps59
    go_wp2
    refine bodyPost_ret (v := .tuple #[.int .i64 x, .bool true]) (by simp [results, Try.results59, go_sem]) rfl ?_
    exact ⟨rfl, rfl⟩

/-- A state as it came in, or as it was lent: what lies in its lists. -/
structure Sta where
  pos : Int
  pp : Option Addr
  pn : Nat
  pc : Nat
  rp : Option Addr
  rn : Nat
  rc : Nat
  lp : Option Addr
  ln : Nat
  lc : Nat
  gp : Option Addr
  gn : Nat
  gc : Nat
  op : Option Addr
  on : Nat
  oc : Nat
  pools : List Pl
  prices : List Lin
  last : List Int
  gen : List Int
  owed : List Bool
def Sta.arr (s : Sta) : Array Value := #[.int .u64 s.pos, .slice s.pp s.pn s.pc, .slice s.rp s.rn s.rc, .slice s.lp s.ln s.lc, .slice s.gp s.gn s.gc, .slice s.op s.on s.oc]
def uc (x : Int) : List Value := [.int .u64 x]
def boolc (x : Bool) : List Value := [.bool x]
structure PlOk (w : World) (x : Pl) : Prop where
  len : x.hs.length = x.hl
  cel : Cel w x.hp 2 (x.hs.map linc)
structure StaOk (w : World) (s : Sta) : Prop where
  pn : s.pools.length = s.pn
  pools : Cel w s.pp 4 (s.pools.map plc)
  held : ∀ x ∈ s.pools, PlOk w x
  rn : s.prices.length = s.rn
  prices : Cel w s.rp 2 (s.prices.map linc)
  ln : s.last.length = s.ln
  last : Cel w s.lp 1 (s.last.map uc)
  gn : s.gen.length = s.gn
  gen : Cel w s.gp 1 (s.gen.map uc)
  on : s.owed.length = s.on
  owed : Cel w s.op 1 (s.owed.map boolc)
theorem StaOk.below {w w' : World} {s : Sta} (h : StaOk w s) (hb : Below w.heap.size w w') : StaOk w' s :=
  ⟨h.pn, h.pools.below hb, fun x hx => ⟨(h.held x hx).len, (h.held x hx).cel.below hb⟩, h.rn, h.prices.below hb, h.ln, h.last.below hb, h.gn, h.gen.below hb, h.on, h.owed.below hb⟩
theorem getAt_mem {α : Type} (l : List α) (z : α) (i : Int) : getAt l z i ∈ l ∨ getAt l z i = z := by
  unfold getAt
  split
  · cases h : l[i.toNat]? with
    | none => right; simp [List.getD, h]
    | some x => left; simp [List.getD, h]; exact List.mem_of_getElem? h
  · exact Or.inr rfl
theorem StaOk.at {w : World} {s : Sta} (h : StaOk w s) (i : Int) : PlOk w (getAt s.pools pl0 i) := by
  rcases getAt_mem s.pools pl0 i with e | e
  · exact h.held _ e
  · rw [e]; exact ⟨rfl, Or.inl rfl⟩
/-- What rule.free and rule.held tell. -/
def Sta.free (s : Sta) (c w : Int) : Int := getAt [(getAt s.pools pl0 c).f0, (getAt s.pools pl0 c).f1] 0 w
def Sta.held (s : Sta) (t c w : Int) : Int := getAt [(getAt (getAt s.pools pl0 c).hs ⟨0, 0⟩ t).c, (getAt (getAt s.pools pl0 c).hs ⟨0, 0⟩ t).n] 0 w
theorem cel_two {w : World} {b o : Nat} {x y : Int} (hb : b < w.heap.size) (h0 : w.cell? ⟨b, o, none⟩ = some (.int .i64 x)) (h1 : w.cell? ⟨b, o + 1, none⟩ = some (.int .i64 y)) : Cel w (some ⟨b, o, none⟩) 1 ([x, y].map intc) := by
  refine Or.inr ⟨b, o, rfl, hb, fun i r hr j v hv => ?_⟩
  match i, hr with
  | 0, hr =>
    cases hr
    match j, hv with
    | 0, hv => cases hv; exact h0
    | j + 1, hv => simp [intc] at hv
  | 1, hr =>
    cases hr
    match j, hv with
    | 0, hv => cases hv; exact h1
    | j + 1, hv => simp [intc] at hv
  | i + 2, hr => simp at hr

set_option maxRecDepth 100000 in
set_option maxHeartbeats 2000000 in
theorem held_gen (w : World) (s : Sta) (hs : StaOk w s) (t kc kw : Int) :
    Calls Try.prog 31 #[.agg s.arr, .int .i64 t, .agg #[.int .i64 kc, .int .i64 kw]] w fun e w' => e = .returned (.int .i64 (s.held t kc kw)) ∧ Below w.heap.size w w' := by
  obtain ⟨w2, hw2⟩ : ∃ w2, (w.alloc (.cells s.arr 32)).alloc (.cells #[.int .i64 kc, .int .i64 kw] 71) = w2 := ⟨_, rfl⟩
  have hb2 : Below w.heap.size w w2 := by rw [← hw2]; exact ((Below.refl _ _).alloc (Nat.le_refl _) _).alloc (by simp) _
  have hx2 : w2.heap[w.heap.size]? = some (.cells s.arr 32 (0, 0)) := by rw [← hw2]; exact (Below.heap_alloc _ _ _ (by simp)).trans (heap_alloc_new _ _)
  have hk2 : w2.heap[w.heap.size + 1]? = some (.cells #[.int .i64 kc, .int .i64 kw] 71 (0, 0)) := by rw [← hw2]; have h := heap_alloc_new (w.alloc (.cells s.arr 32)) (.cells #[.int .i64 kc, .int .i64 kw] 71); rw [World.size_alloc] at h; exact h
  have hs2 := hs.below hb2
  obtain ⟨c0, c1, c2, c3, c4, c5⟩ := ac6 hx2
  obtain ⟨k0, k1⟩ := ac2 hk2
  have HW2 := hide hw2
  have HB2 := hide hb2
  have HK2 := hide hk2
  have HAp := hide (atPool_gen w2 s.pp s.pn s.pc s.pools hs2.pn hs2.pools kc)
  have HPl := hide (hs2.at kc)
  obtain ⟨x, hx⟩ : ∃ x, getAt s.pools pl0 kc = x := ⟨_, rfl⟩
  obtain ⟨hb', hhb⟩ : ∃ q, hasAt s.pools kc = q := ⟨_, rfl⟩
  rw [hx, hhb] at HAp
  rw [hx] at HPl
  obtain ⟨y, hy⟩ : ∃ y, getAt x.hs (⟨0, 0⟩ : Lin) t = y := ⟨_, rfl⟩
  obtain ⟨hq, hhq⟩ : ∃ q, hasAt x.hs t = q := ⟨_, rfl⟩
  have HR : s.held t kc kw = getAt [y.c, y.n] 0 kw := by unfold Sta.held; rw [hx, hy]
  rw [HR]
  obtain ⟨xv, x0, x1, xp, xl, xc, xs⟩ := x
  obtain ⟨y0, y1⟩ := y
  have HY := hide hy
  have HQ := hide hhq
  dsimp only at HY HQ
  clear HR hy hhq
  dsimp only [plc] at HAp
  clear hw2 hb2 hx2 hk2 hs2 hs hx hhb
  go_enter Try.func31, Try.ntmps31
  go_upto_region 1 with (fail)
  rw [HW2.out]
  go_upto_region 2 with (go_at_call 58; refine HAp.out.mono ?_; rintro e w3 ⟨rfl, hb3⟩; have HB3 := hide hb3; clear hb3)
  obtain ⟨w4, hw4⟩ : ∃ w4, w3.alloc (.cells #[.int .i64 xv, .int .i64 x0, .int .i64 x1, .slice xp xl xc] 107) = w4 := ⟨_, rfl⟩
  have hb4 : Below w2.heap.size w2 w4 := by rw [← hw4]; exact HB3.out.alloc HB3.out.size _
  have hp4 : w4.heap[w3.heap.size]? = some (.cells #[.int .i64 xv, .int .i64 x0, .int .i64 x1, .slice xp xl xc] 107 (0, 0)) := by rw [← hw4]; exact heap_alloc_new _ _
  rw [show w3.alloc (.cells #[.int .i64 xv, .int .i64 x0, .int .i64 x1, .slice xp xl xc] 107) = w4 from hw4]
  obtain ⟨p0, p1, p2, p3⟩ := ac4 hp4
  have HK4 := hide ((hb4.block _ (ac_lt HK2.out)).trans HK2.out)
  have HAw := hide (atWays_gen w4 xp xl xc xs HPl.out.len (HPl.out.cel.below hb4) t)
  have HB4 := hide (HB2.out.trans (hb4.mono HB2.out.size))
  rw [HY.out, HQ.out] at HAw
  dsimp only [linc] at HAw
  clear hw4 hb4 hp4 c0 c1 c2 c3 c4 c5 k0 k1
  go_upto_region 3 with (go_at_call 60; refine HAw.out.mono ?_; rintro e w5 ⟨rfl, hb5⟩; have HB5 := hide hb5; clear hb5)
  obtain ⟨w6, hw6⟩ : ∃ w6, w5.alloc (.cells #[.int .i64 y0, .int .i64 y1] 104) = w6 := ⟨_, rfl⟩
  have hb6 : Below w4.heap.size w4 w6 := by rw [← hw6]; exact HB5.out.alloc HB5.out.size _
  have hp6 : w6.heap[w5.heap.size]? = some (.cells #[.int .i64 y0, .int .i64 y1] 104 (0, 0)) := by rw [← hw6]; exact heap_alloc_new _ _
  rw [show w5.alloc (.cells #[.int .i64 y0, .int .i64 y1] 104) = w6 from hw6]
  obtain ⟨k0, k1⟩ := ac2 ((hb6.block _ (ac_lt HK4.out)).trans HK4.out)
  obtain ⟨z0, z1⟩ := ac2 hp6
  have HAi := hide (atInt_gen w6 (some ⟨w5.heap.size, 0, none⟩) 2 2 [y0, y1] rfl (cel_two (ac_lt hp6) z0 (by rw [Nat.zero_add]; exact z1)) kw)
  have HAd := hide (atInt_gen w6.drew (some ⟨w5.heap.size, 0, none⟩) 2 2 [y0, y1] rfl (cel_two (ac_lt hp6) z0 (by rw [Nat.zero_add]; exact z1)) kw)
  have HB6 := hide (HB4.out.trans (hb6.mono HB4.out.size))
  clear hw6 hb6 hp6 p0 p1 p2 p3 z0 z1
  go_region_held3 (fun w' => w'.cell? ⟨w.heap.size + 1, 0, none⟩ = some (.int .i64 kc) ∧ w'.cell? ⟨w.heap.size + 1, 1, none⟩ = some (.int .i64 kw)) (go_keep) (first | (go_at_call 59; refine HAd.out.mono ?_; rintro e w7 ⟨rfl, rfl⟩) | (go_at_call 59; refine HAi.out.mono ?_; rintro e w7 ⟨rfl, rfl⟩) | fail)
  all_goals go_wp2
  all_goals go_ret
  all_goals first | exact ⟨rfl, HB6.out⟩ | exact ⟨rfl, HB6.out.drew⟩
end Go.Proofs.Ytllpikijakilnaa
