import Derived.Test.YtfdanocpbhbieaaGreatLnS
import Derived.Test.YtfdanocpbhbieaaGreatZLE
import Derived.Deep.RegionHeld3
namespace Go.Proofs.YtfdanocpbhbieaaGreat
open Go.RowKit

theorem part_0 (w : World) (x y : Int) : (part 2 #[.int .i64 x, .int .i64 y] 0).run Tryz.prog w = .ok (.int .i64 x) w := by kernel_rfl
theorem part_1 (w : World) (x y : Int) : (part 2 #[.int .i64 x, .int .i64 y] 1).run Tryz.prog w = .ok (.int .i64 y) w := by kernel_rfl
theorem eq_int (d : Nat) (w : World) (x : Int) : (Op.equalIn (d + 1) 2 (.int .i64 x) (.int .i64 x)).run Tryz.prog w = .ok true w := by
  simp [Op.equalIn, run_underlying Tryz.underlying2]
theorem eq_two (w : World) (x y : Int) : (Op.equalIn 10000 105 (.agg #[.int .i64 x, .int .i64 y]) (.agg #[.int .i64 x, .int .i64 y])).run Tryz.prog w = .ok true w := by
  show (Op.equalIn (9998 + 1 + 1) 105 (.agg #[.int .i64 x, .int .i64 y]) (.agg #[.int .i64 x, .int .i64 y])).run Tryz.prog w = .ok true w
  rw [Op.equalIn]
  simp only [Sem.run_bind, run_underlying Tryz.underlying105, Result.andThen_ok]
  have hs : (sizeOf 2).run Tryz.prog w = .ok 1 w := by kernel_rfl
  rw [hs]
  simp only [Result.andThen_ok, Std.Legacy.Range.forIn_eq_forIn_range', Nat.mul_one]
  rw [show List.range' _ _ _ = [0, 1] from rfl]
  simp only [List.forIn_cons, List.forIn_nil, Sem.run_bind, part_0, part_1, eq_int, Result.andThen_ok, Bool.not_true, Bool.false_eq_true, if_false, Sem.run_pure]
/-- A list that was lent: n elements, nine marks behind them in the same row. -/
structure LnN {α : Type} (W : World) (f : α → List Value) (sz : Nat) (p : Option Addr) (n c : Nat) (xs mk : List α) : Prop where
  at_ : ∃ g, p = some ⟨g, 0, none⟩
  cap : n + 9 ≤ c
  len : xs.length = n
  cel : Cel W p sz ((xs ++ mk).map f)
theorem LnN.below {α : Type} {W W' : World} {f : α → List Value} {sz : Nat} {p : Option Addr} {n c : Nat} {xs mk : List α} (h : LnN W f sz p n c xs mk) (hb : Below W.heap.size W W') : LnN W' f sz p n c xs mk := ⟨h.at_, h.cap, h.len, h.cel.below hb⟩
theorem LnN.front {α : Type} {W : World} {f : α → List Value} {sz : Nat} {p : Option Addr} {n c : Nat} {xs mk : List α} (h : LnN W f sz p n c xs mk) : Cel W p sz (xs.map f) := Z.cel_front h.cel
theorem LnN.mark {α : Type} {W : World} {f : α → List Value} {sz : Nat} {p : Option Addr} {n c : Nat} {xs mk : List α} (h : LnN W f sz p n c xs mk) {k : Nat} {x : α} (hk : mk[k]? = some x) : ∃ b o, p = some ⟨b, o, none⟩ ∧ b < W.heap.size ∧ ∀ j v, (f x)[j]? = some v → W.cell? ⟨b, o + (n + k) * sz + j, none⟩ = some v :=
  h.cel.get (i := n + k) (r := f x) (by rw [List.getElem?_map, List.getElem?_append_right (by rw [h.len]; omega), h.len, Nat.add_sub_cancel_left, hk]; rfl)

set_option maxRecDepth 100000 in
set_option maxHeartbeats 4000000 in
theorem eqNumbers_same (w : World) (p q : Option Addr) (n cap cap' : Nat) (xs : List Int) (hn : xs.length = n) (hnl : n ≤ 1073741824) (hc : Cel w p 1 (xs.map uc)) (hd : Cel w q 1 (xs.map uc)) :
    Calls Tryz.prog 57 #[.slice p n cap, .slice q n cap'] w fun e w' => e = .returned (.bool true) ∧ Below w.heap.size w w' := by
  have HC := hide hc
  have HD := hide hd
  clear hc hd
  go_enter Tryz.func57, Tryz.ntmps57
  go_wp2
  go_loopw [5] (fun i wr => ∃ j : Nat, j ≤ n ∧ i = .int .i64 j ∧ Hid (Below w.heap.size w wr)) (fun i _ => n - (intOf i).toNat)
  case atStart => exact ⟨0, Nat.zero_le _, rfl, Below.refl _ _⟩
  case round =>
    obtain ⟨j, hj, rfl, HBr⟩ := hrel
    by_cases hlt : j < n
    · have hlt' : (j : Int) < (n : Int) := by omega
      have i0 : (0 : Int) ≤ (j : Int) := by omega
      obtain ⟨x, hx⟩ : ∃ x, xs[j]? = some x := ⟨_, List.getElem?_eq_getElem (by omega)⟩
      obtain ⟨b, o, rfl, hbl, hcl⟩ := HC.out.get (i := j) (r := uc x) (by simp [hx])
      obtain ⟨b', o', rfl, hbl', hcl'⟩ := HD.out.get (i := j) (r := uc x) (by simp [hx])
      have a0 : wr.cell? ⟨b, o + j, none⟩ = some (.int .u64 x) := by have h := (HBr.out.cell (p := ⟨b, o + j * 1 + 0, none⟩) hbl).trans (hcl 0 _ rfl); simpa using h
      have b0 : wr.cell? ⟨b', o' + j, none⟩ = some (.int .u64 x) := by have h := (HBr.out.cell (p := ⟨b', o' + j * 1 + 0, none⟩) hbl').trans (hcl' 0 _ rfl); simpa using h
      clear hcl hcl' hx
      have HBd : Hid (Below w.heap.size w wr.drew) := HBr.out.drew
      go_upto_region 6 with (fail)
      go_region
      go_wp2
      go_roundw
      case rel => exact ⟨j + 1, by omega, by go_num, HBd⟩
      case measure => simp [intOf]; omega
    · have e1 : ¬ (j : Int) < (n : Int) := by omega
      go_wp2
      go_ret
      exact ⟨rfl, HBr.out⟩

/-- A pool that was lent. -/
structure PlBk (W : World) (x y : Pl) : Prop where
  v : y.v = x.v
  f0 : y.f0 = x.f0
  f1 : y.f1 = x.f1
  hl : y.hl = x.hl
  row : LnN W linc 2 y.hp x.hl y.hc x.hs marksHeld
theorem PlBk.below {W W' : World} {x y : Pl} (h : PlBk W x y) (hb : Below W.heap.size W W') : PlBk W' x y := ⟨h.v, h.f0, h.f1, h.hl, h.row.below hb⟩

attribute [local go_sem] eq_two
set_option maxRecDepth 100000 in
set_option maxHeartbeats 4000000 in
theorem eqPool_same (w : World) (v f0 f1 : Int) (p q : Option Addr) (n c c' : Nat) (hs : List Lin) (hn : hs.length = n) (hnl : n ≤ 1073741824) (hc : Cel w p 2 (hs.map linc)) (hd : Cel w q 2 (hs.map linc)) :
    Calls Tryz.prog 56 #[.agg #[.int .i64 v, .int .i64 f0, .int .i64 f1, .slice p n c], .agg #[.int .i64 v, .int .i64 f0, .int .i64 f1, .slice q n c']] w fun e w' => e = .returned (.bool true) ∧ Below w.heap.size w w' := by
  obtain ⟨w2, hw2, hb2, hx2, hy2⟩ := box_two w #[.int .i64 v, .int .i64 f0, .int .i64 f1, .slice p n c] 108 108 #[.int .i64 v, .int .i64 f0, .int .i64 f1, .slice q n c']
  have HX : Hid (∀ W, Below w2.heap.size w2 W → (W.cell? ⟨w.heap.size, 0, none⟩ = some (.int .i64 v) ∧ W.cell? ⟨w.heap.size, 1, none⟩ = some (.int .i64 f0) ∧ W.cell? ⟨w.heap.size, 2, none⟩ = some (.int .i64 f1) ∧ W.cell? ⟨w.heap.size, 3, none⟩ = some (.slice p n c)) ∧ W.cell? ⟨w.heap.size + 1, 0, none⟩ = some (.int .i64 v) ∧ W.cell? ⟨w.heap.size + 1, 1, none⟩ = some (.int .i64 f0) ∧ W.cell? ⟨w.heap.size + 1, 2, none⟩ = some (.int .i64 f1) ∧ W.cell? ⟨w.heap.size + 1, 3, none⟩ = some (.slice q n c')) := fun W hb => by
    have h1 := (hb.block _ (ac_lt hx2)).trans hx2
    have h2 := (hb.block _ (ac_lt hy2)).trans hy2
    exact ⟨⟨cell_of_row _ _ 0 _ _ _ h1, cell_of_row _ _ 1 _ _ _ h1, cell_of_row _ _ 2 _ _ _ h1, cell_of_row _ _ 3 _ _ _ h1⟩, cell_of_row _ _ 0 _ _ _ h2, cell_of_row _ _ 1 _ _ _ h2, cell_of_row _ _ 2 _ _ _ h2, cell_of_row _ _ 3 _ _ _ h2⟩
  have HC := hide (hc.below hb2)
  have HD := hide (hd.below hb2)
  have HW2 := hide hw2
  have HB2 := hide hb2
  obtain ⟨⟨c0, c1, c2, c3⟩, d0, d1, d2, d3⟩ := HX.out w2 (Below.refl _ _)
  clear hc hd hw2 hb2 hx2 hy2
  go_enter Tryz.func56, Tryz.ntmps56
  go_upto_region 1 with (fail)
  rw [HW2.out]
  go_wp2
  go_loopw [5] (fun i wr => ∃ j : Nat, j ≤ n ∧ i = .int .i64 j ∧ Hid (Below w2.heap.size w2 wr)) (fun i _ => n - (intOf i).toNat)
  case atStart => exact ⟨0, Nat.zero_le _, rfl, Below.refl _ _⟩
  case round =>
    obtain ⟨j, hj, rfl, HBr⟩ := hrel
    clear c0 c1 c2 c3 d0 d1 d2 d3
    obtain ⟨⟨c0, c1, c2, c3⟩, d0, d1, d2, d3⟩ := HX.out wr HBr.out
    by_cases hlt : j < n
    · have hlt' : (j : Int) < (n : Int) := by omega
      have i0 : (0 : Int) ≤ (j : Int) := by omega
      obtain ⟨x, hx⟩ : ∃ x, hs[j]? = some x := ⟨_, List.getElem?_eq_getElem (by omega)⟩
      obtain ⟨b, o, rfl, hbl, hcl⟩ := HC.out.get (i := j) (r := linc x) (by simp [hx])
      obtain ⟨b', o', rfl, hbl', hcl'⟩ := HD.out.get (i := j) (r := linc x) (by simp [hx])
      have f : ∀ i v, (linc x)[i]? = some v → wr.cell? ⟨b, o + j * 2 + i, none⟩ = some v := fun i v hv => (HBr.out.cell (p := ⟨b, o + j * 2 + i, none⟩) hbl).trans (hcl i v hv)
      have f' : ∀ i v, (linc x)[i]? = some v → wr.cell? ⟨b', o' + j * 2 + i, none⟩ = some v := fun i v hv => (HBr.out.cell (p := ⟨b', o' + j * 2 + i, none⟩) hbl').trans (hcl' i v hv)
      have a0 := f 0 _ rfl
      have a1 := f 1 _ rfl
      have b0 := f' 0 _ rfl
      have b1 := f' 1 _ rfl
      rw [Nat.add_zero] at a0 b0
      obtain ⟨xc, xn⟩ := x
      simp only at a0 a1 b0 b1
      clear f f' hcl hcl' hx
      have HBd : Hid (Below w2.heap.size w2 wr.drew) := HBr.out.drew
      go_upto_region 6 with (fail)
      go_region
      go_wp2
      go_roundw
      case rel => exact ⟨j + 1, by omega, by go_num, HBd⟩
      case measure => simp [intOf]; omega
    · have e1 : ¬ (j : Int) < (n : Int) := by omega
      go_wp2
      go_ret
      exact ⟨rfl, HB2.out.trans (HBr.out.mono HB2.out.size)⟩
end Go.Proofs.YtfdanocpbhbieaaGreat
namespace Go.Proofs.YtfdanocpbhbieaaGreat
open Go.RowKit

/-- A state that was lent, to be read. -/
structure StaBk (W : World) (s r : Sta) : Prop where
  pos : r.pos = s.pos
  pn : r.pn = s.pn
  rn : r.rn = s.rn
  ln : r.ln = s.ln
  gn : r.gn = s.gn
  on : r.on = s.on
  pools : LnN W plc 4 r.pp s.pn r.pc r.pools marksPool
  each : ∀ (i : Nat) (x y : Pl), s.pools[i]? = some x → r.pools[i]? = some y → PlBk W x y
  prices : LnN W linc 2 r.rp s.rn r.rc s.prices marksPrices
  last : LnN W uc 1 r.lp s.ln r.lc s.last marksNumbers
  gen : LnN W uc 1 r.gp s.gn r.gc s.gen marksNumbers
  owed : LnN W boolc 1 r.op s.on r.oc s.owed marksOwed
theorem StaBk.below {W W' : World} {s r : Sta} (h : StaBk W s r) (hb : Below W.heap.size W W') : StaBk W' s r :=
  ⟨h.pos, h.pn, h.rn, h.ln, h.gn, h.on, h.pools.below hb, fun i x y hx hy => (h.each i x y hx hy).below hb, h.prices.below hb, h.last.below hb, h.gen.below hb, h.owed.below hb⟩
theorem StaBk.arr {W : World} {s r : Sta} (h : StaBk W s r) : r.arr = #[.int .u64 s.pos, .slice r.pp s.pn r.pc, .slice r.rp s.rn r.rc, .slice r.lp s.ln r.lc, .slice r.gp s.gn r.gc, .slice r.op s.on r.oc] := by
  unfold Sta.arr; rw [h.pos, h.pn, h.rn, h.ln, h.gn, h.on]

set_option maxRecDepth 100000 in
set_option maxHeartbeats 4000000 in
theorem eqState_same (w : World) (s r : Sta) (hs : StaOk w s) (hz : StaSmall s) (hk : StaBk w s r) :
    Calls Tryz.prog 32 #[.agg #[.int .u64 s.pos, .slice r.pp s.pn r.pc, .slice r.rp s.rn r.rc, .slice r.lp s.ln r.lc, .slice r.gp s.gn r.gc, .slice r.op s.on r.oc], .agg #[.int .u64 s.pos, .slice s.pp s.pn s.pc, .slice s.rp s.rn s.rc, .slice s.lp s.ln s.lc, .slice s.gp s.gn s.gc, .slice s.op s.on s.oc]] w fun e w' => e = .returned (.bool true) ∧ Below w.heap.size w w' := by
  obtain ⟨w2, hw2, hb2, hx2, hy2⟩ := box_two w #[.int .u64 s.pos, .slice r.pp s.pn r.pc, .slice r.rp s.rn r.rc, .slice r.lp s.ln r.lc, .slice r.gp s.gn r.gc, .slice r.op s.on r.oc] 51 51 #[.int .u64 s.pos, .slice s.pp s.pn s.pc, .slice s.rp s.rn s.rc, .slice s.lp s.ln s.lc, .slice s.gp s.gn s.gc, .slice s.op s.on s.oc]
  have HX : Hid (∀ W, Below w2.heap.size w2 W → (W.cell? ⟨w.heap.size, 0, none⟩ = some (.int .u64 s.pos) ∧ W.cell? ⟨w.heap.size, 1, none⟩ = some (.slice r.pp s.pn r.pc) ∧ W.cell? ⟨w.heap.size, 2, none⟩ = some (.slice r.rp s.rn r.rc) ∧ W.cell? ⟨w.heap.size, 3, none⟩ = some (.slice r.lp s.ln r.lc) ∧ W.cell? ⟨w.heap.size, 4, none⟩ = some (.slice r.gp s.gn r.gc) ∧ W.cell? ⟨w.heap.size, 5, none⟩ = some (.slice r.op s.on r.oc)) ∧ W.cell? ⟨w.heap.size + 1, 0, none⟩ = some (.int .u64 s.pos) ∧ W.cell? ⟨w.heap.size + 1, 1, none⟩ = some (.slice s.pp s.pn s.pc) ∧ W.cell? ⟨w.heap.size + 1, 2, none⟩ = some (.slice s.rp s.rn s.rc) ∧ W.cell? ⟨w.heap.size + 1, 3, none⟩ = some (.slice s.lp s.ln s.lc) ∧ W.cell? ⟨w.heap.size + 1, 4, none⟩ = some (.slice s.gp s.gn s.gc) ∧ W.cell? ⟨w.heap.size + 1, 5, none⟩ = some (.slice s.op s.on s.oc)) := fun W hb => by
    have h1 := (hb.block _ (ac_lt hx2)).trans hx2
    have h2 := (hb.block _ (ac_lt hy2)).trans hy2
    exact ⟨ac6 h1, ac6 h2⟩
  have HS2 : Hid (∀ W, Below w2.heap.size w2 W → StaOk W s) := fun W hb => (hs.below hb2).below hb
  have HK2 : Hid (∀ W, Below w2.heap.size w2 W → StaBk W s r) := fun W hb => (hk.below hb2).below hb
  have HZ := hide hz
  have HW2 := hide hw2
  have HB2 := hide hb2
  have HR : Hid (Below w2.heap.size w2 w2) := Below.refl _ _
  have HL : Hid (w.heap.size + 1 < w2.heap.size) := ac_lt hy2
  have HD : Hid (∀ W, Below w2.heap.size w2 W → Below w2.heap.size w2 W.drew) := fun W hb => ⟨hb.os, hb.tape, hb.output, hb.size, hb.block⟩
  obtain ⟨⟨c0, c1, c2, c3, c4, c5⟩, d0, d1, d2, d3, d4, d5⟩ := HX.out w2 HR.out
  clear hw2 hb2 hx2 hy2 hs hk hz
  go_enter Tryz.func32, Tryz.ntmps32
  go_upto_region 1 with (fail)
  rw [HW2.out]
  go_wp2
  go_loopw [5] (fun i wr => ∃ j : Nat, j ≤ s.pn ∧ i = .int .i64 j ∧ Hid (Below w2.heap.size w2 wr)) (fun i _ => s.pn - (intOf i).toNat)
  case atStart => exact ⟨0, Nat.zero_le _, rfl, by first | exact HR | assumption⟩
  case round =>
    obtain ⟨j, hj, rfl, HBr⟩ := hrel
    clear c0 c1 c2 c3 c4 c5 d0 d1 d2 d3 d4 d5
    obtain ⟨⟨c0, c1, c2, c3, c4, c5⟩, d0, d1, d2, d3, d4, d5⟩ := HX.out wr HBr.out
    have hz1 := HZ.out.pn
    by_cases hlt : j < s.pn
    · have hlt' : (j : Int) < (s.pn : Int) := by omega
      have i0 : (0 : Int) ≤ (j : Int) := by omega
      obtain ⟨x, hx⟩ : ∃ x, s.pools[j]? = some x := ⟨_, List.getElem?_eq_getElem (by rw [(HS2.out wr HBr.out).pn]; exact hlt)⟩
      obtain ⟨y, hy⟩ : ∃ y, r.pools[j]? = some y := ⟨_, List.getElem?_eq_getElem (by rw [(HK2.out wr HBr.out).pools.len]; exact hlt)⟩
      have hpl := (HK2.out wr HBr.out).each j x y hx hy
      obtain ⟨b, o, e1, hbl, hcl⟩ := (HK2.out wr HBr.out).pools.front.get (i := j) (r := plc y) (by simp [hy])
      obtain ⟨b', o', e2, hbl', hcl'⟩ := (HS2.out wr HBr.out).pools.get (i := j) (r := plc x) (by simp [hx])
      have a0 := hcl 0 _ rfl
      have a1 := hcl 1 _ rfl
      have a2 := hcl 2 _ rfl
      have a3 := hcl 3 _ rfl
      have b0 := hcl' 0 _ rfl
      have b1 := hcl' 1 _ rfl
      have b2 := hcl' 2 _ rfl
      have b3 := hcl' 3 _ rfl
      rw [Nat.add_zero] at a0 b0
      rw [hpl.v] at a0
      rw [hpl.f0] at a1
      rw [hpl.f1] at a2
      rw [hpl.hl] at a3
      rw [e1] at c1
      rw [e2] at d1
      have HQ : Hid (∀ W, Below wr.heap.size wr W → Calls Tryz.prog 56 #[.agg #[.int .i64 x.v, .int .i64 x.f0, .int .i64 x.f1, .slice y.hp x.hl y.hc], .agg #[.int .i64 x.v, .int .i64 x.f0, .int .i64 x.f1, .slice x.hp x.hl x.hc]] W fun e w' => e = .returned (.bool true) ∧ Below wr.heap.size wr w') := fun W hb => (eqPool_same W x.v x.f0 x.f1 y.hp x.hp x.hl y.hc x.hc x.hs ((HS2.out wr HBr.out).held x (List.mem_of_getElem? hx)).len (HZ.out.hl x (List.mem_of_getElem? hx)) ((hpl.row.below hb).front) (((HS2.out wr HBr.out).held x (List.mem_of_getElem? hx)).cel.below hb)).mono fun _ _ ⟨he, h⟩ => ⟨he, hb.trans (h.mono hb.size)⟩
      have hl3 : w.heap.size + 1 < wr.heap.size := Nat.lt_of_lt_of_le HL.out HBr.out.size
      have HSx : Hid (∀ W, Below wr.heap.size wr W → W.cell? ⟨w.heap.size, 1, none⟩ = some (.slice (some ⟨b, o, none⟩) s.pn r.pc) ∧ W.cell? ⟨w.heap.size + 1, 1, none⟩ = some (.slice (some ⟨b', o', none⟩) s.pn s.pc) ∧ W.cell? ⟨b, o + j * 4, none⟩ = some (.int .i64 x.v) ∧ W.cell? ⟨b, o + j * 4 + 1, none⟩ = some (.int .i64 x.f0) ∧ W.cell? ⟨b, o + j * 4 + 2, none⟩ = some (.int .i64 x.f1) ∧ W.cell? ⟨b, o + j * 4 + 3, none⟩ = some (.slice y.hp x.hl y.hc) ∧ W.cell? ⟨b', o' + j * 4, none⟩ = some (.int .i64 x.v) ∧ W.cell? ⟨b', o' + j * 4 + 1, none⟩ = some (.int .i64 x.f0) ∧ W.cell? ⟨b', o' + j * 4 + 2, none⟩ = some (.int .i64 x.f1) ∧ W.cell? ⟨b', o' + j * 4 + 3, none⟩ = some (.slice x.hp x.hl x.hc)) := fun W hb => ⟨(hb.cell (p := ⟨w.heap.size, 1, none⟩) (by show w.heap.size < wr.heap.size; omega)).trans c1, (hb.cell (p := ⟨w.heap.size + 1, 1, none⟩) hl3).trans d1, (hb.cell (p := ⟨b, o + j * 4, none⟩) hbl).trans a0, (hb.cell (p := ⟨b, o + j * 4 + 1, none⟩) hbl).trans a1, (hb.cell (p := ⟨b, o + j * 4 + 2, none⟩) hbl).trans a2, (hb.cell (p := ⟨b, o + j * 4 + 3, none⟩) hbl).trans a3, (hb.cell (p := ⟨b', o' + j * 4, none⟩) hbl').trans b0, (hb.cell (p := ⟨b', o' + j * 4 + 1, none⟩) hbl').trans b1, (hb.cell (p := ⟨b', o' + j * 4 + 2, none⟩) hbl').trans b2, (hb.cell (p := ⟨b', o' + j * 4 + 3, none⟩) hbl').trans b3⟩
      have HrD : Hid (Below wr.heap.size wr wr.drew) := (Below.refl _ _).drew
      have HrR : Hid (Below wr.heap.size wr wr) := Below.refl _ _
      clear hcl hcl' hpl e1 e2
      go_upto_region 6 with (fail)
      go_region_held3 (fun w' => (w'.cell? ⟨w.heap.size, 1, none⟩ = some (.slice (some ⟨b, o, none⟩) s.pn r.pc)) ∧ w'.cell? ⟨w.heap.size + 1, 1, none⟩ = some (.slice (some ⟨b', o', none⟩) s.pn s.pc) ∧ w'.cell? ⟨b, o + j * 4, none⟩ = some (.int .i64 x.v) ∧ w'.cell? ⟨b, o + j * 4 + 1, none⟩ = some (.int .i64 x.f0) ∧ w'.cell? ⟨b, o + j * 4 + 2, none⟩ = some (.int .i64 x.f1) ∧ w'.cell? ⟨b, o + j * 4 + 3, none⟩ = some (.slice y.hp x.hl y.hc) ∧ w'.cell? ⟨b', o' + j * 4, none⟩ = some (.int .i64 x.v) ∧ w'.cell? ⟨b', o' + j * 4 + 1, none⟩ = some (.int .i64 x.f0) ∧ w'.cell? ⟨b', o' + j * 4 + 2, none⟩ = some (.int .i64 x.f1) ∧ w'.cell? ⟨b', o' + j * 4 + 3, none⟩ = some (.slice x.hp x.hl x.hc)) (go_keep) (first | (go_at_call 56; refine (HQ.out _ (by first | exact HrR.out | exact HrD.out)).mono ?_; rintro e w3 ⟨rfl, hb3⟩; have HB3 : Hid (Below w2.heap.size w2 w3) := HBr.out.trans (hb3.mono HBr.out.size); obtain ⟨z0, z1, z2, z3, z4, z5, z6, z7, z8, z9⟩ := HSx.out w3 hb3; clear hb3) | fail)
      go_wp2
      go_roundw
      case rel => exact ⟨j + 1, by omega, by go_num, HB3⟩
      case measure => simp [intOf]; omega
    · have e1 : ¬ (j : Int) < (s.pn : Int) := by omega
      go_wp2
      go_loopw [6] (fun i wr => ∃ j : Nat, j ≤ s.rn ∧ i = .int .i64 j ∧ Hid (Below w2.heap.size w2 wr)) (fun i _ => s.rn - (intOf i).toNat)
      case atStart => exact ⟨0, Nat.zero_le _, rfl, by first | exact HR | assumption⟩
      case round =>
        obtain ⟨j, hj, rfl, HBr⟩ := hrel
        clear c0 c1 c2 c3 c4 c5 d0 d1 d2 d3 d4 d5
        obtain ⟨⟨c0, c1, c2, c3, c4, c5⟩, d0, d1, d2, d3, d4, d5⟩ := HX.out wr HBr.out
        have hz1 := HZ.out.rn
        by_cases hlt : j < s.rn
        · have hlt' : (j : Int) < (s.rn : Int) := by omega
          have i0 : (0 : Int) ≤ (j : Int) := by omega
          obtain ⟨x, hx⟩ : ∃ x, s.prices[j]? = some x := ⟨_, List.getElem?_eq_getElem (by rw [(HS2.out wr HBr.out).rn]; exact hlt)⟩
          obtain ⟨b, o, e1, hbl, hcl⟩ := (HK2.out wr HBr.out).prices.front.get (i := j) (r := linc x) (by simp [hx])
          obtain ⟨b', o', e2, hbl', hcl'⟩ := (HS2.out wr HBr.out).prices.get (i := j) (r := linc x) (by simp [hx])
          have a0 := hcl 0 _ rfl
          have a1 := hcl 1 _ rfl
          have b0 := hcl' 0 _ rfl
          have b1 := hcl' 1 _ rfl
          rw [Nat.add_zero] at a0 b0
          obtain ⟨xc, xn⟩ := x
          simp only at a0 a1 b0 b1
          rw [e1] at c2
          rw [e2] at d2
          clear hcl hcl' e1 e2 hx
          have HBd : Hid (Below w2.heap.size w2 wr.drew) := HBr.out.drew
          go_upto_region 11 with (fail)
          go_region
          go_wp2
          go_roundw
          case rel => exact ⟨j + 1, by omega, by go_num, HBd⟩
          case measure => simp [intOf]; omega
        · have e1 : ¬ (j : Int) < (s.rn : Int) := by omega
          go_wp2
          go_loopw [7] (fun i wr => ∃ j : Nat, j ≤ s.on ∧ i = .int .i64 j ∧ Hid (Below w2.heap.size w2 wr)) (fun i _ => s.on - (intOf i).toNat)
          case atStart => exact ⟨0, Nat.zero_le _, rfl, by first | exact HR | assumption⟩
          case round =>
            obtain ⟨j, hj, rfl, HBr⟩ := hrel
            clear c0 c1 c2 c3 c4 c5 d0 d1 d2 d3 d4 d5
            obtain ⟨⟨c0, c1, c2, c3, c4, c5⟩, d0, d1, d2, d3, d4, d5⟩ := HX.out wr HBr.out
            have hz1 := HZ.out.on
            by_cases hlt : j < s.on
            · have hlt' : (j : Int) < (s.on : Int) := by omega
              have i0 : (0 : Int) ≤ (j : Int) := by omega
              obtain ⟨x, hx⟩ : ∃ x, s.owed[j]? = some x := ⟨_, List.getElem?_eq_getElem (by rw [(HS2.out wr HBr.out).on]; exact hlt)⟩
              obtain ⟨b, o, e1, hbl, hcl⟩ := (HK2.out wr HBr.out).owed.front.get (i := j) (r := boolc x) (by simp [hx])
              obtain ⟨b', o', e2, hbl', hcl'⟩ := (HS2.out wr HBr.out).owed.get (i := j) (r := boolc x) (by simp [hx])
              have a0 : wr.cell? ⟨b, o + j, none⟩ = some (.bool x) := by have h := hcl 0 _ rfl; simpa using h
              have b0 : wr.cell? ⟨b', o' + j, none⟩ = some (.bool x) := by have h := hcl' 0 _ rfl; simpa using h
              rw [e1] at c5
              rw [e2] at d5
              clear hcl hcl' e1 e2 hx
              have HBd : Hid (Below w2.heap.size w2 wr.drew) := HBr.out.drew
              go_upto_region 16 with (fail)
              go_region
              go_wp2
              go_roundw
              case rel => exact ⟨j + 1, by omega, by go_num, HBd⟩
              case measure => simp [intOf]; omega
            · have e1 : ¬ (j : Int) < (s.on : Int) := by omega
              have HQl : Hid (∀ W, Below w2.heap.size w2 W → Calls Tryz.prog 57 #[.slice r.lp s.ln r.lc, .slice s.lp s.ln s.lc] W fun e w' => e = .returned (.bool true) ∧ Below w2.heap.size w2 w') := fun W hb => (eqNumbers_same W r.lp s.lp s.ln r.lc s.lc s.last (HS2.out W hb).ln HZ.out.ln (HK2.out W hb).last.front (HS2.out W hb).last).mono fun _ _ ⟨he, h⟩ => ⟨he, hb.trans (h.mono hb.size)⟩
              have HQg : Hid (∀ W, Below w2.heap.size w2 W → Calls Tryz.prog 57 #[.slice r.gp s.gn r.gc, .slice s.gp s.gn s.gc] W fun e w' => e = .returned (.bool true) ∧ Below w2.heap.size w2 w') := fun W hb => (eqNumbers_same W r.gp s.gp s.gn r.gc s.gc s.gen (HS2.out W hb).gn HZ.out.gn (HK2.out W hb).gen.front (HS2.out W hb).gen).mono fun _ _ ⟨he, h⟩ => ⟨he, hb.trans (h.mono hb.size)⟩
              go_wp2_with (first | (go_at_call 57; refine (HQg.out _ HB4.out).mono ?_; rintro e w5 ⟨rfl, hb5⟩; have HB5 := hide hb5; clear hb5) | (go_at_call 57; refine (HQl.out _ HBr.out).mono ?_; rintro e w4 ⟨rfl, hb4⟩; have HB4 := hide hb4; obtain ⟨⟨x0, x1, x2, x3, x4, x5⟩, y0, y1, y2, y3, y4, y5⟩ := HX.out w4 hb4; clear hb4) | fail)
              go_ret
              exact ⟨rfl, HB2.out.trans (HB5.out.mono HB2.out.size)⟩
end Go.Proofs.YtfdanocpbhbieaaGreat
namespace Go.Proofs.YtfdanocpbhbieaaGreat
open Go.RowKit

set_option maxRecDepth 100000 in
set_option maxHeartbeats 4000000 in
theorem backNumbers_v (w : World) (p : Option Addr) (n c : Nat) (xs : List Int) (hl : LnN w uc 1 p n c xs marksNumbers) (q : Option Addr) (c' : Nat) (hq : Cel w q 1 (xs.map uc)) (hnl : n ≤ 1073741824) :
    Calls Tryz.prog 33 #[.slice p n c, .slice q n c'] w fun e w' => e = .returned (.bool true) ∧ Below w.heap.size w w' := by
  obtain ⟨g, rfl⟩ := hl.at_
  have HEqq := hide (eqNumbers_same w (some ⟨g, 0, none⟩) q n c c' xs hl.len hnl hl.front hq)
  have HCl := hide hl
  have hcap := hl.cap
  obtain ⟨M, hMi, hMn⟩ : ∃ M : Nat, (n : Int) + 9 = (M : Int) ∧ M = n + 9 := ⟨n + 9, by omega, rfl⟩
  have hM1 : n ≤ M := by omega
  have HMn := hide hMn
  have hM2 : M ≤ c := by omega
  clear hl hq hMn
  go_enter Tryz.func33, Tryz.ntmps33
  go_wp2_with (go_at_call 57; refine HEqq.out.mono ?_; rintro e w1 ⟨rfl, hb1⟩; have HB1 := hide hb1; clear hb1)
  go_loopw [6] (fun i wr => ∃ k : Nat, k ≤ 9 ∧ i = .int .i64 ((n + k : Nat) : Int) ∧ Hid (Below w.heap.size w wr)) (fun i _ => n + 9 - (intOf i).toNat)
  case atStart => exact ⟨0, by omega, by simp, by first | exact HB1 | exact Below.refl _ _ | assumption⟩
  case round =>
    obtain ⟨k, hk, rfl, HB⟩ := hrel

    by_cases hlt : k < 9
    · have hlt' : ((n + k : Nat) : Int) < (M : Int) := by have := HMn.out; omega
      have i0 : (0 : Int) ≤ ((n + k : Nat) : Int) := by omega
      obtain ⟨b, o, e, hbl, hc⟩ := HCl.out.mark (k := k) (x := 777) (List.getElem?_replicate_of_lt hlt)
      cases e
      have a0 : wr.cell? ⟨g, n + k, none⟩ = some (.int .u64 777) := by have h := (HB.out.cell (p := ⟨g, 0 + (n + k) * 1 + 0, none⟩) hbl).trans (hc 0 _ rfl); simpa using h
      clear hc
      obtain ⟨q, hq⟩ : ∃ q, n + k = q := ⟨_, rfl⟩
      have HQ := hide hq
      have hq2 : q + 1 ≤ 1073741900 := by omega
      rw [hq] at hlt' i0 a0 ⊢
      clear hq
      go_wp2
      go_roundw
      case rel => exact ⟨k + 1, by omega, by have := HQ.out; rw [← this]; go_num, by first | exact HB | exact HBd⟩
      case measure => have := HQ.out; simp [intOf]; omega
    · have e1 : ¬ ((n + k : Nat) : Int) < (M : Int) := by have := HMn.out; omega
      obtain ⟨q, hq⟩ : ∃ q, n + k = q := ⟨_, rfl⟩
      rw [hq] at e1 ⊢
      clear hq
      go_wp2
      go_ret
      exact ⟨rfl, HB.out⟩

attribute [local go_sem] eq_two
set_option maxRecDepth 100000 in
set_option maxHeartbeats 4000000 in
theorem backPools_v (w : World) (p : Option Addr) (n c : Nat) (ys : List Pl) (hl : LnN w plc 4 p n c ys marksPool) (hy : ∀ y ∈ ys, y.hl ≤ 1073741824 ∧ ∃ hs, LnN w linc 2 y.hp y.hl y.hc hs marksHeld) (hnl : n ≤ 1073741824) :
    Calls Tryz.prog 34 #[.slice p n c] w fun e w' => e = .returned (.bool true) ∧ Below w.heap.size w w' := by
  obtain ⟨g, rfl⟩ := hl.at_
  have HCl := hide hl
  have HY := hide hy
  have hcap := hl.cap
  clear hl hy
  go_enter Tryz.func34, Tryz.ntmps34
  go_wp2
  go_loopw [3] (fun i wr => ∃ j : Nat, j ≤ n ∧ i = .int .i64 j ∧ Hid (Below w.heap.size w wr)) (fun i _ => n - (intOf i).toNat)
  case atStart => exact ⟨0, Nat.zero_le _, rfl, Below.refl _ _⟩
  case round =>
    obtain ⟨j, hj, rfl, HBr⟩ := hrel
    by_cases hlt : j < n
    · have hlt' : (j : Int) < (n : Int) := by omega
      have i0 : (0 : Int) ≤ (j : Int) := by omega
      obtain ⟨y, hyj⟩ : ∃ y, ys[j]? = some y := ⟨_, List.getElem?_eq_getElem (by rw [HCl.out.len]; exact hlt)⟩
      obtain ⟨b, o, e1, hbl, hcl⟩ := HCl.out.front.get (i := j) (r := plc y) (by simp [hyj])
      cases e1
      obtain ⟨hym, hs, hyr⟩ := HY.out y (List.mem_of_getElem? hyj)
      have a3 : wr.cell? ⟨g, j * 4 + 3, none⟩ = some (.slice y.hp y.hl y.hc) := by have h := (HBr.out.cell (p := ⟨g, 0 + j * 4 + 3, none⟩) hbl).trans (hcl 3 _ rfl); simpa using h
      have HYr := hide hyr
      have hycap := hyr.cap
      obtain ⟨gy, hgy⟩ := hyr.at_
      rw [hgy] at a3 HYr
      obtain ⟨M, hMi, hMn⟩ : ∃ M : Nat, (y.hl : Int) + 9 = (M : Int) ∧ M = y.hl + 9 := ⟨y.hl + 9, by omega, rfl⟩
      have hM1 : y.hl ≤ M := by omega
      have HMn := hide hMn
      have hM2 : M ≤ y.hc := by omega
      have HBd : Hid (Below w.heap.size w wr.drew) := HBr.out.drew
      clear hcl hyj hyr hgy hMn
      go_upto_region 4 with (fail)
      go_region
      have a3' : wr.drew.cell? ⟨g, j * 4 + 3, none⟩ = some (.slice (some ⟨gy, 0, none⟩) y.hl y.hc) := a3
      obtain ⟨w1, hw1⟩ : ∃ w1, wr.drew = w1 := ⟨_, rfl⟩
      rw [hw1] at HBd a3' ⊢
      have HB1 := HBd
      clear hw1 a3 HBd
      go_wp2
      go_loopw [5] (fun i wr => ∃ k : Nat, k ≤ 9 ∧ i = .int .i64 ((y.hl + k : Nat) : Int) ∧ Hid (Below w.heap.size w wr)) (fun i _ => y.hl + 9 - (intOf i).toNat)
      case atStart => exact ⟨0, by omega, by simp, by first | exact HB1 | exact Below.refl _ _ | assumption⟩
      case round =>
        obtain ⟨k, hk, rfl, HB⟩ := hrel

        by_cases hlt : k < 9
        · have hlt' : ((y.hl + k : Nat) : Int) < (M : Int) := by have := HMn.out; omega
          have i0 : (0 : Int) ≤ ((y.hl + k : Nat) : Int) := by omega
          obtain ⟨b2, o2, e2, hbl2, hc2⟩ := HYr.out.mark (k := k) (x := mkHeld) (List.getElem?_replicate_of_lt hlt)
          cases e2
          have a0 : wr.cell? ⟨gy, (y.hl + k) * 2, none⟩ = some (.int .i64 777) := by have h := (HB.out.cell (p := ⟨gy, 0 + (y.hl + k) * 2 + 0, none⟩) hbl2).trans (hc2 0 _ rfl); simpa [mkHeld] using h
          have a1 : wr.cell? ⟨gy, (y.hl + k) * 2 + 1, none⟩ = some (.int .i64 778) := by have h := (HB.out.cell (p := ⟨gy, 0 + (y.hl + k) * 2 + 1, none⟩) hbl2).trans (hc2 1 _ rfl); simpa [mkHeld] using h
          clear hc2
          obtain ⟨q, hq⟩ : ∃ q, y.hl + k = q := ⟨_, rfl⟩
          have HQ := hide hq
          have hq2 : q + 1 ≤ 1073741900 := by omega
          rw [hq] at hlt' i0 a0 a1 ⊢
          clear hq
          go_wp2
          go_roundw
          case rel => exact ⟨k + 1, by omega, by have := HQ.out; rw [← this]; go_num, by first | exact HB | exact HBd⟩
          case measure => have := HQ.out; simp [intOf]; omega
        · have e1 : ¬ ((y.hl + k : Nat) : Int) < (M : Int) := by have := HMn.out; omega
          obtain ⟨q, hq⟩ : ∃ q, y.hl + k = q := ⟨_, rfl⟩
          rw [hq] at e1 ⊢
          clear hq
          go_wp2
          go_roundw
          case rel => exact ⟨j + 1, by omega, by go_num, HB⟩
          case measure => simp [intOf]; omega
    · have e1 : ¬ (j : Int) < (n : Int) := by omega
      have HB1 := HBr
      obtain ⟨M, hMi, hMn⟩ : ∃ M : Nat, (n : Int) + 9 = (M : Int) ∧ M = n + 9 := ⟨n + 9, by omega, rfl⟩
      have hM1 : n ≤ M := by omega
      have HMn := hide hMn
      have hM2 : M ≤ c := by omega
      clear hMn
      go_wp2
      go_loopw [7] (fun i wr => ∃ k : Nat, k ≤ 9 ∧ i = .int .i64 ((n + k : Nat) : Int) ∧ Hid (Below w.heap.size w wr)) (fun i _ => n + 9 - (intOf i).toNat)
      case atStart => exact ⟨0, by omega, by simp, by first | exact HB1 | exact Below.refl _ _ | assumption⟩
      case round =>
        obtain ⟨k, hk, rfl, HB⟩ := hrel

        by_cases hlt : k < 9
        · have hlt' : ((n + k : Nat) : Int) < (M : Int) := by have := HMn.out; omega
          have i0 : (0 : Int) ≤ ((n + k : Nat) : Int) := by omega
          obtain ⟨b, o, e, hbl, hc⟩ := HCl.out.mark (k := k) (x := mkPool) (List.getElem?_replicate_of_lt hlt)
          cases e
          have a0 : wr.cell? ⟨g, (n + k) * 4, none⟩ = some (.int .i64 777) := by have h := (HB.out.cell (p := ⟨g, 0 + (n + k) * 4 + 0, none⟩) hbl).trans (hc 0 _ rfl); simpa [mkPool] using h
          have a3 : wr.cell? ⟨g, (n + k) * 4 + 3, none⟩ = some (.slice none 0 0) := by have h := (HB.out.cell (p := ⟨g, 0 + (n + k) * 4 + 3, none⟩) hbl).trans (hc 3 _ rfl); simpa [mkPool] using h
          clear hc
          obtain ⟨q, hq⟩ : ∃ q, n + k = q := ⟨_, rfl⟩
          have HQ := hide hq
          have hq2 : q + 1 ≤ 1073741900 := by omega
          rw [hq] at hlt' i0 a0 a3 ⊢
          clear hq
          go_wp2
          go_roundw
          case rel => exact ⟨k + 1, by omega, by have := HQ.out; rw [← this]; go_num, by first | exact HB | exact HBd⟩
          case measure => have := HQ.out; simp [intOf]; omega
        · have e1 : ¬ ((n + k : Nat) : Int) < (M : Int) := by have := HMn.out; omega
          obtain ⟨q, hq⟩ : ∃ q, n + k = q := ⟨_, rfl⟩
          rw [hq] at e1 ⊢
          clear hq
          go_wp2
          go_ret
          exact ⟨rfl, HB.out⟩
end Go.Proofs.YtfdanocpbhbieaaGreat
namespace Go.Proofs.YtfdanocpbhbieaaGreat
open Go.RowKit

set_option maxRecDepth 100000 in
set_option maxHeartbeats 4000000 in
theorem backState_v (w : World) (s r : Sta) (hs : StaOk w s) (hz : StaSmall s) (hk : StaBk w s r) :
    Calls Tryz.prog 10 #[.agg r.arr, .agg s.arr] w fun e w' => e = .returned (.bool true) ∧ Below w.heap.size w w' := by
  rw [hk.arr, show s.arr = #[.int .u64 s.pos, .slice s.pp s.pn s.pc, .slice s.rp s.rn s.rc, .slice s.lp s.ln s.lc, .slice s.gp s.gn s.gc, .slice s.op s.on s.oc] from rfl]
  obtain ⟨w2, hw2, hb2, hx2, hy2⟩ := box_two w #[.int .u64 s.pos, .slice r.pp s.pn r.pc, .slice r.rp s.rn r.rc, .slice r.lp s.ln r.lc, .slice r.gp s.gn r.gc, .slice r.op s.on r.oc] 51 51 #[.int .u64 s.pos, .slice s.pp s.pn s.pc, .slice s.rp s.rn s.rc, .slice s.lp s.ln s.lc, .slice s.gp s.gn s.gc, .slice s.op s.on s.oc]
  have HX : Hid (∀ W, Below w2.heap.size w2 W → (W.cell? ⟨w.heap.size, 0, none⟩ = some (.int .u64 s.pos) ∧ W.cell? ⟨w.heap.size, 1, none⟩ = some (.slice r.pp s.pn r.pc) ∧ W.cell? ⟨w.heap.size, 2, none⟩ = some (.slice r.rp s.rn r.rc) ∧ W.cell? ⟨w.heap.size, 3, none⟩ = some (.slice r.lp s.ln r.lc) ∧ W.cell? ⟨w.heap.size, 4, none⟩ = some (.slice r.gp s.gn r.gc) ∧ W.cell? ⟨w.heap.size, 5, none⟩ = some (.slice r.op s.on r.oc)) ∧ W.cell? ⟨w.heap.size + 1, 0, none⟩ = some (.int .u64 s.pos) ∧ W.cell? ⟨w.heap.size + 1, 1, none⟩ = some (.slice s.pp s.pn s.pc) ∧ W.cell? ⟨w.heap.size + 1, 2, none⟩ = some (.slice s.rp s.rn s.rc) ∧ W.cell? ⟨w.heap.size + 1, 3, none⟩ = some (.slice s.lp s.ln s.lc) ∧ W.cell? ⟨w.heap.size + 1, 4, none⟩ = some (.slice s.gp s.gn s.gc) ∧ W.cell? ⟨w.heap.size + 1, 5, none⟩ = some (.slice s.op s.on s.oc)) := fun W hb => by
    have h1 := (hb.block _ (ac_lt hx2)).trans hx2
    have h2 := (hb.block _ (ac_lt hy2)).trans hy2
    exact ⟨ac6 h1, ac6 h2⟩
  have HS2 : Hid (∀ W, Below w2.heap.size w2 W → StaOk W s) := fun W hb => (hs.below hb2).below hb
  have HK2 : Hid (∀ W, Below w2.heap.size w2 W → StaBk W s r) := fun W hb => (hk.below hb2).below hb
  have HZ := hide hz
  have HW2 := hide hw2
  have HB2 := hide hb2
  have HR : Hid (Below w2.heap.size w2 w2) := Below.refl _ _
  have HL : Hid (w.heap.size + 1 < w2.heap.size) := ac_lt hy2
  have HD : Hid (∀ W, Below w2.heap.size w2 W → Below w2.heap.size w2 W.drew) := fun W hb => ⟨hb.os, hb.tape, hb.output, hb.size, hb.block⟩
  obtain ⟨⟨c0, c1, c2, c3, c4, c5⟩, d0, d1, d2, d3, d4, d5⟩ := HX.out w2 HR.out
  have HEs : Hid (∀ W, Below w2.heap.size w2 W → Calls Tryz.prog 32 #[.agg #[.int .u64 s.pos, .slice r.pp s.pn r.pc, .slice r.rp s.rn r.rc, .slice r.lp s.ln r.lc, .slice r.gp s.gn r.gc, .slice r.op s.on r.oc], .agg #[.int .u64 s.pos, .slice s.pp s.pn s.pc, .slice s.rp s.rn s.rc, .slice s.lp s.ln s.lc, .slice s.gp s.gn s.gc, .slice s.op s.on s.oc]] W fun e w' => e = .returned (.bool true) ∧ Below w2.heap.size w2 w') := fun W hb => (eqState_same W s r (HS2.out W hb) HZ.out (HK2.out W hb)).mono fun _ _ ⟨he, h⟩ => ⟨he, hb.trans (h.mono hb.size)⟩
  have HNl : Hid (∀ W, Below w2.heap.size w2 W → Calls Tryz.prog 33 #[.slice r.lp s.ln r.lc, .slice s.lp s.ln s.lc] W fun e w' => e = .returned (.bool true) ∧ Below w2.heap.size w2 w') := fun W hb => (backNumbers_v W r.lp s.ln r.lc s.last (HK2.out W hb).last s.lp s.lc (HS2.out W hb).last HZ.out.ln).mono fun _ _ ⟨he, h⟩ => ⟨he, hb.trans (h.mono hb.size)⟩
  have HNg : Hid (∀ W, Below w2.heap.size w2 W → Calls Tryz.prog 33 #[.slice r.gp s.gn r.gc, .slice s.gp s.gn s.gc] W fun e w' => e = .returned (.bool true) ∧ Below w2.heap.size w2 w') := fun W hb => (backNumbers_v W r.gp s.gn r.gc s.gen (HK2.out W hb).gen s.gp s.gc (HS2.out W hb).gen HZ.out.gn).mono fun _ _ ⟨he, h⟩ => ⟨he, hb.trans (h.mono hb.size)⟩
  have HPo : Hid (∀ W, Below w2.heap.size w2 W → Calls Tryz.prog 34 #[.slice r.pp s.pn r.pc] W fun e w' => e = .returned (.bool true) ∧ Below w2.heap.size w2 w') := fun W hb => (backPools_v W r.pp s.pn r.pc r.pools (HK2.out W hb).pools (fun y hy => by obtain ⟨i, hi⟩ := List.mem_iff_getElem?.1 hy; obtain ⟨x, hx⟩ : ∃ x, s.pools[i]? = some x := ⟨_, List.getElem?_eq_getElem (by rw [(HS2.out W hb).pn, ← (HK2.out W hb).pools.len]; exact (List.getElem?_eq_some_iff.1 hi).1)⟩; have q := (HK2.out W hb).each i x y hx hi; rw [q.hl]; exact ⟨HZ.out.hl x (List.mem_of_getElem? hx), x.hs, q.row⟩) HZ.out.pn).mono fun _ _ ⟨he, h⟩ => ⟨he, hb.trans (h.mono hb.size)⟩
  have hzr := HZ.out.rn
  have hzo := HZ.out.on
  obtain ⟨gr, hgr⟩ := hk.prices.at_
  obtain ⟨go, hgo⟩ := hk.owed.at_
  have hcr := hk.prices.cap
  have hco := hk.owed.cap
  have HKr : Hid (∀ W, Below w2.heap.size w2 W → LnN W linc 2 (some ⟨gr, 0, none⟩) s.rn r.rc s.prices marksPrices) := fun W hb => by rw [← hgr]; exact (HK2.out W hb).prices
  have HKo : Hid (∀ W, Below w2.heap.size w2 W → LnN W boolc 1 (some ⟨go, 0, none⟩) s.on r.oc s.owed marksOwed) := fun W hb => by rw [← hgo]; exact (HK2.out W hb).owed
  clear hw2 hb2 hx2 hy2 hs hk hz
  have Hgr := hide hgr
  have Hgo := hide hgo
  clear hgr hgo
  obtain ⟨M, hMi, hMn⟩ : ∃ M : Nat, (s.rn : Int) + 9 = (M : Int) ∧ M = s.rn + 9 := ⟨s.rn + 9, by omega, rfl⟩
  have hM1 : s.rn ≤ M := by omega
  have HMn := hide hMn
  have hM2 : M ≤ r.rc := by omega
  clear hMn
  go_enter Tryz.func10, Tryz.ntmps10
  go_upto_region 1 with (fail)
  rw [HW2.out]
  go_upto_region 3 with (first | (go_at_call 34; refine (HPo.out _ HB5.out).mono ?_; rintro e w6 ⟨rfl, hb6⟩; have HB6 := hide hb6; obtain ⟨⟨p60, p61, p62, p63, p64, p65⟩, q60, q61, q62, q63, q64, q65⟩ := HX.out w6 hb6; clear hb6) | (go_at_call 33; refine (HNg.out _ HB4.out).mono ?_; rintro e w5 ⟨rfl, hb5⟩; have HB5 := hide hb5; obtain ⟨⟨p50, p51, p52, p53, p54, p55⟩, q50, q51, q52, q53, q54, q55⟩ := HX.out w5 hb5; clear hb5) | (go_at_call 33; refine (HNl.out _ HB3.out).mono ?_; rintro e w4 ⟨rfl, hb4⟩; have HB4 := hide hb4; obtain ⟨⟨p40, p41, p42, p43, p44, p45⟩, q40, q41, q42, q43, q44, q45⟩ := HX.out w4 hb4; clear hb4) | (go_at_call 32; refine (HEs.out _ HR.out).mono ?_; rintro e w3 ⟨rfl, hb3⟩; have HB3 := hide hb3; obtain ⟨⟨p30, p31, p32, p33, p34, p35⟩, q30, q31, q32, q33, q34, q35⟩ := HX.out w3 hb3; clear hb3) | fail)
  clear c0 c1 c2 c3 c4 c5 d0 d1 d2 d3 d4 d5
  clear p60 p61 p62 p63 p64 p65 q60 q61 q62 q63 q64 q65
  obtain ⟨⟨c0, c1, c2, c3, c4, c5⟩, d0, d1, d2, d3, d4, d5⟩ := HX.out w6 HB6.out
  rw [Hgr.out] at c2
  rw [Hgo.out] at c5
  have HB1 := HB6
  go_wp2
  go_loopw [6] (fun i wr => ∃ k : Nat, k ≤ 9 ∧ i = .int .i64 ((s.rn + k : Nat) : Int) ∧ Hid (Below w2.heap.size w2 wr)) (fun i _ => s.rn + 9 - (intOf i).toNat)
  case atStart => exact ⟨0, by omega, by simp, by first | exact HB1 | exact Below.refl _ _ | assumption⟩
  case round =>
    obtain ⟨k, hk, rfl, HB⟩ := hrel
    clear c0 c1 c2 c3 c4 c5 d0 d1 d2 d3 d4 d5
    obtain ⟨⟨c0, c1, c2, c3, c4, c5⟩, d0, d1, d2, d3, d4, d5⟩ := HX.out wr HB.out
    rw [Hgr.out] at c2
    rw [Hgo.out] at c5
    by_cases hlt : k < 9
    · have hlt' : ((s.rn + k : Nat) : Int) < (M : Int) := by have := HMn.out; omega
      have i0 : (0 : Int) ≤ ((s.rn + k : Nat) : Int) := by omega
      obtain ⟨b, o, e, hbl, hc⟩ := (HKr.out wr HB.out).mark (k := k) (x := mkPrices) (List.getElem?_replicate_of_lt hlt)
      cases e
      have a0 : wr.cell? ⟨gr, (s.rn + k) * 2, none⟩ = some (.int .i64 777) := by have h := hc 0 _ rfl; simpa [mkPrices] using h
      have a1 : wr.cell? ⟨gr, (s.rn + k) * 2 + 1, none⟩ = some (.int .i64 0) := by have h := hc 1 _ rfl; simpa [mkPrices] using h
      clear hc
      obtain ⟨q, hq⟩ : ∃ q, s.rn + k = q := ⟨_, rfl⟩
      have HQ := hide hq
      have hq2 : q + 1 ≤ 1073741900 := by omega
      rw [hq] at hlt' i0 a0 a1 ⊢
      clear hq
      go_wp2
      go_roundw
      case rel => exact ⟨k + 1, by omega, by have := HQ.out; rw [← this]; go_num, by first | exact HB | exact HBd⟩
      case measure => have := HQ.out; simp [intOf]; omega
    · have e1 : ¬ ((s.rn + k : Nat) : Int) < (M : Int) := by have := HMn.out; omega
      obtain ⟨q, hq⟩ : ∃ q, s.rn + k = q := ⟨_, rfl⟩
      rw [hq] at e1 ⊢
      clear hq
      have HB1 := HB
      clear hMi hM1 hM2 HMn
      obtain ⟨M2, hMi, hMn⟩ : ∃ M : Nat, (s.on : Int) + 9 = (M : Int) ∧ M = s.on + 9 := ⟨s.on + 9, by omega, rfl⟩
      have hM1 : s.on ≤ M2 := by omega
      have HMn := hide hMn
      have hM2 : M2 ≤ r.oc := by omega
      clear hMn
      go_wp2
      go_loopw [8] (fun i wr => ∃ k : Nat, k ≤ 9 ∧ i = .int .i64 ((s.on + k : Nat) : Int) ∧ Hid (Below w2.heap.size w2 wr)) (fun i _ => s.on + 9 - (intOf i).toNat)
      case atStart => exact ⟨0, by omega, by simp, by first | exact HB1 | exact Below.refl _ _ | assumption⟩
      case round =>
        obtain ⟨k, hk, rfl, HB⟩ := hrel
        clear c0 c1 c2 c3 c4 c5 d0 d1 d2 d3 d4 d5
        obtain ⟨⟨c0, c1, c2, c3, c4, c5⟩, d0, d1, d2, d3, d4, d5⟩ := HX.out wr HB.out
        rw [Hgr.out] at c2
        rw [Hgo.out] at c5
        by_cases hlt : k < 9
        · have hlt' : ((s.on + k : Nat) : Int) < (M2 : Int) := by have := HMn.out; omega
          have i0 : (0 : Int) ≤ ((s.on + k : Nat) : Int) := by omega
          obtain ⟨b, o, e, hbl, hc⟩ := (HKo.out wr HB.out).mark (k := k) (x := par k) (by rw [marksOwed, List.getElem?_map, List.getElem?_range hlt]; rfl)
          cases e
          obtain ⟨bk, hbk⟩ : ∃ b, par k = b := ⟨_, rfl⟩
          have a0 : wr.cell? ⟨go, s.on + k, none⟩ = some (.bool bk) := by have h := hc 0 _ rfl; rw [hbk] at h; simpa using h
          have hpk : (bk == ((k : Int) % 2 == 0)) = true := by rw [← hbk]; unfold par; rw [Int.tmod_eq_emod_of_nonneg (by omega)]; exact beq_self_eq_true _
          have hdk : ((s.on + k : Nat) : Int) - (s.on : Int) = (k : Int) := by omega
          have HBd : Hid (Below w2.heap.size w2 wr.drew) := HB.out.drew
          clear hc hbk
          obtain ⟨q, hq⟩ : ∃ q, s.on + k = q := ⟨_, rfl⟩
          have HQ := hide hq
          have hq2 : q + 1 ≤ 1073741900 := by omega
          rw [hq] at hlt' i0 a0 hdk ⊢
          clear hq
          go_upto_region 13 with (fail)
          go_region
          go_wp2
          go_roundw
          case rel => exact ⟨k + 1, by omega, by have := HQ.out; rw [← this]; go_num, by first | exact HB | exact HBd⟩
          case measure => have := HQ.out; simp [intOf]; omega
        · have e1 : ¬ ((s.on + k : Nat) : Int) < (M2 : Int) := by have := HMn.out; omega
          obtain ⟨q, hq⟩ : ∃ q, s.on + k = q := ⟨_, rfl⟩
          rw [hq] at e1 ⊢
          clear hq
          go_wp2
          go_ret
          exact ⟨rfl, HB2.out.trans (HB.out.mono HB2.out.size)⟩
end Go.Proofs.YtfdanocpbhbieaaGreat
