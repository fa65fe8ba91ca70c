import Derived.Test.YtgfegkcmoedgkaaListsO
import Derived.Deep.Strs
namespace Go.Proofs.Ytgfegkcmoedgkaa
open Go.RowKit Go.ChangeShapes Go.WideShapes Go.Deep
section
variable {H : Type} {enc : TypeId × Value → H} {w : World} {base : Nat} {held : Bool}
theorem Try.cellsIn' : Try.prog.cellsOf 3 = 1 := by kernel_rfl
theorem Try.cellsAsk : Try.prog.cellsOf 52 = 4 := by kernel_rfl
theorem Try.bytesAsk : Try.prog.bytesOf 52 = 32 := by kernel_rfl
theorem Try.cellsAsks : Try.prog.cellsOf 41 = 1 := by kernel_rfl
theorem Try.cellsRanges : Try.prog.cellsOf 43 = 3 := by kernel_rfl
/-- A question that came in. -/
structure Qn where
  wh : Int
  a : Int
  ch : Int
  y : Int
structure Qn.Good (q : Qn) : Prop where
  i0 : I64 q.wh
  i1 : I64 q.a
  i2 : I64 q.ch
  i3 : I64 q.y
def Qn.vals (q : Qn) : List Value := [.int .i64 q.wh, .int .i64 q.a, .int .i64 q.ch, .int .i64 q.y]
theorem four {l : List Value} (h : l.length = 4) : ∃ a b c d, l = [a, b, c, d] := by
  match l, h with
  | [a, b, c, d], _ => exact ⟨a, b, c, d, rfl⟩
theorem ask_open {fuel : Nat} {cs : List Value} {x : DataW H × List MemPlace} (h : DataW.trod enc Try.prog w base (fun _ => true) held fuel 52 cs = some x) :
    ∃ q : Qn, cs = q.vals ∧ q.Good := by
  obtain ⟨ys, n, _, rfl, hl, hlen, hf⟩ := DataW.trod_struct Try.underlying52 h
  rw [Try.cellsAsk] at hl
  obtain ⟨a, b, c, d, rfl⟩ := four hl
  have f0 : DataW.trod enc Try.prog w base (fun _ => true) held n 3 (([a, b, c, d].drop 0).take (Try.prog.cellsOf 3)) = ys[0]? := hf 0 _ rfl
  have f1 : DataW.trod enc Try.prog w base (fun _ => true) held n 2 (([a, b, c, d].drop 1).take (Try.prog.cellsOf 2)) = ys[1]? := hf 1 _ rfl
  have f2 : DataW.trod enc Try.prog w base (fun _ => true) held n 2 (([a, b, c, d].drop 2).take (Try.prog.cellsOf 2)) = ys[2]? := hf 2 _ rfl
  have f3 : DataW.trod enc Try.prog w base (fun _ => true) held n 3 (([a, b, c, d].drop 3).take (Try.prog.cellsOf 3)) = ys[3]? := hf 3 _ rfl
  simp only [Try.cellsIn', Try.cellsI64, List.drop_zero, List.drop_succ_cons, List.take_succ_cons, List.take_zero] at f0 f1 f2 f3
  have hy : ∀ i, i < 4 → ∃ y, ys[i]? = some y := fun i hi => ⟨ys[i]'(by rw [hlen]; exact hi), List.getElem?_eq_getElem _⟩
  obtain ⟨y0, e0⟩ := hy 0 (by omega)
  obtain ⟨y1, e1⟩ := hy 1 (by omega)
  obtain ⟨y2, e2⟩ := hy 2 (by omega)
  obtain ⟨y3, e3⟩ := hy 3 (by omega)
  rw [e0] at f0; rw [e1] at f1; rw [e2] at f2; rw [e3] at f3
  obtain ⟨z0, g0, _, w0⟩ := DataW.trod_int Try.underlying3 f0
  obtain ⟨z1, g1, _, w1⟩ := DataW.trod_int Try.underlying2 f1
  obtain ⟨z2, g2, _, w2⟩ := DataW.trod_int Try.underlying2 f2
  obtain ⟨z3, g3, _, w3⟩ := DataW.trod_int Try.underlying3 f3
  simp at g0 g1 g2 g3
  subst g0 g1 g2 g3
  exact ⟨⟨z0, z1, z2, z3⟩, rfl, i64_of w0, i64_of w1, i64_of w2, i64_of w3⟩
/-- Questions that came in. -/
structure InA (w : World) (sp : Option Addr) (l c : Nat) (qs : List Qn) : Prop where
  len : qs.length = l
  cap : l ≤ c
  most : c ≤ 140737488351232
  each : ∀ x ∈ qs, x.Good
  lie : qs = [] ∨ ∃ g o, sp = some ⟨g, o, none⟩ ∧ g < w.heap.size ∧ ∀ j q, qs[j]? = some q → w.cell? ⟨g, o + j * 4, none⟩ = some (.int .i64 q.wh) ∧ w.cell? ⟨g, o + j * 4 + 1, none⟩ = some (.int .i64 q.a) ∧ w.cell? ⟨g, o + j * 4 + 2, none⟩ = some (.int .i64 q.ch) ∧ w.cell? ⟨g, o + j * 4 + 3, none⟩ = some (.int .i64 q.y)
theorem InA.below {w w' : World} {sp : Option Addr} {l c : Nat} {qs : List Qn} (h : InA w sp l c qs) {B : Nat} (hb : Below B w w') (hB : w.heap.size ≤ B) : InA w' sp l c qs :=
  ⟨h.len, h.cap, h.most, h.each, by
    rcases h.lie with h | ⟨g, o, e, hg, hc⟩
    · exact Or.inl h
    · have hgB : g < B := Nat.lt_of_lt_of_le hg hB
      exact Or.inr ⟨g, o, e, Nat.lt_of_lt_of_le hg hb.size, fun j s hs => by
        rw [hb.cell (p := ⟨g, o + j * 4, none⟩) hgB, hb.cell (p := ⟨g, o + j * 4 + 1, none⟩) hgB, hb.cell (p := ⟨g, o + j * 4 + 2, none⟩) hgB, hb.cell (p := ⟨g, o + j * 4 + 3, none⟩) hgB]; exact hc j s hs⟩⟩
theorem InA.at {w : World} {sp : Option Addr} {l c : Nat} {qs : List Qn} (h : InA w sp l c qs) {k : Nat} (hk : k < qs.length) : ∃ g o, sp = some ⟨g, o, none⟩ ∧ w.cell? ⟨g, o + k * 4, none⟩ = some (.int .i64 (qs[k]'hk).wh) ∧ w.cell? ⟨g, o + k * 4 + 1, none⟩ = some (.int .i64 (qs[k]'hk).a) ∧ w.cell? ⟨g, o + k * 4 + 2, none⟩ = some (.int .i64 (qs[k]'hk).ch) ∧ w.cell? ⟨g, o + k * 4 + 3, none⟩ = some (.int .i64 (qs[k]'hk).y) := by
  rcases h.lie with h | ⟨g, o, e, hg, hc⟩
  · subst h; simp at hk
  · exact ⟨g, o, e, hc k _ (List.getElem?_eq_getElem hk)⟩
theorem asks_open {fuel : Nat} {v : Value} {x : DataW H × List MemPlace} (h : DataW.trod enc Try.prog w base (fun _ => true) held fuel 41 [v] = some x) (hw : ∀ n ∈ x.1.weights Try.prog 41, n ≤ reachBytes) :
    ∃ sp l c qs, v = .slice sp l c ∧ InA w sp l c qs := by
  rcases open_slice Try.underlying41 h with ⟨hcs, hx⟩ | ⟨a, len, cap, m, n, D, Pl, hcs, _, hl, hm, hmm, hx, hel⟩
  · simp at hcs
    exact ⟨none, 0, 0, [], hcs, rfl, by omega, by omega, by simp, Or.inl rfl⟩
  · simp at hcs hmm
    rw [Try.cellsAsk] at hel
    have hD : x.1 = .slice ((List.range len).map D) ((List.range (m - len)).map fun j => D (len + j)) := by rw [hx]
    have hcap : cap ≤ 140737488351232 := by
      have h1 := hw ((len + (m - len)) * 32) (by rw [hD]; simp [DataW.weights, Try.underlying41, Try.bytesAsk])
      simp only [reachBytes] at h1
      omega
    obtain ⟨f, hf⟩ := @choose_lt Qn ⟨⟨0, 0, 0, 0⟩⟩ len (fun i p => w.cells? base (a.add (i * 4)) 4 = some p.vals ∧ p.Good) (fun i hi => by
      obtain ⟨cs', h1, h2⟩ := hel i (by omega)
      obtain ⟨p, rfl, hp⟩ := ask_open h2
      exact ⟨p, h1, hp⟩)
    refine ⟨some a, len, cap, (List.range len).map f, hcs, by simp, hl, hcap, ?_, ?_⟩
    · intro p hp
      simp only [List.mem_map, List.mem_range] at hp
      obtain ⟨i, hi, rfl⟩ := hp
      exact (hf i hi).2
    · by_cases h0 : len = 0
      · left; simp [h0]
      · right
        have c0 := (World.cells?_some (hf 0 (by omega)).1).2.2 0 (by omega)
        obtain ⟨g, o, rfl⟩ : ∃ g o, a = ⟨g, o, none⟩ := by
          obtain ⟨g, o, e⟩ := addr_plain (v := .int .i64 (f 0).wh) (by simpa [Qn.vals] using c0)
          exact ⟨g, o, by simpa [Addr.add] using e⟩
        refine ⟨g, o, rfl, ?_, fun j p hj => ?_⟩
        · have := block_lt_of_cell (v := .int .i64 (f 0).wh) (by simpa [Qn.vals] using c0)
          simpa [add_plain] using this
        · simp only [List.getElem?_map, Option.map_eq_some_iff] at hj
          obtain ⟨i, hi, rfl⟩ := hj
          obtain ⟨hlt, rfl⟩ := List.getElem?_eq_some_iff.1 hi
          simp at hlt
          simp only [List.getElem_range]
          have hc := (World.cells?_some (hf j hlt).1).2.2
          have k0 := hc 0 (by omega)
          have k1 := hc 1 (by omega)
          have k2 := hc 2 (by omega)
          have k3 := hc 3 (by omega)
          simp only [add_plain] at k0 k1 k2 k3
          exact ⟨by simpa [Qn.vals] using k0, by simpa [Qn.vals] using k1, by simpa [Qn.vals] using k2, by simpa [Qn.vals] using k3⟩
/-- Ranges and questions that came in. -/
structure RScr where
  lp : Option Addr
  lm : Nat
  ld : Nat
  ls : List Int
  hp : Option Addr
  hm : Nat
  hd : Nat
  hs : List Int
  ap : Option Addr
  am : Nat
  ad : Nat
  qs : List Qn
structure RScr.In (w : World) (s : RScr) : Prop where
  l : InN w s.lp s.lm s.ld s.ls
  h : InN w s.hp s.hm s.hd s.hs
  a : InA w s.ap s.am s.ad s.qs
set_option maxRecDepth 100000 in
theorem ranges_open {r : Reach} {b0 : Nat} {v : Value} {d : DataW H} {pl : List MemPlace} (hv : Value.okWide Try.prog w r b0 43 v) (h : DataW.Trod enc Try.prog w base (fun _ => true) held 43 v d pl)
    (hw : ∀ n ∈ d.weights Try.prog 43, n ≤ reachBytes) : ∃ s : RScr, v = .agg #[.slice s.lp s.lm s.ld, .slice s.hp s.hm s.hd, .slice s.ap s.am s.ad] ∧ s.In w := by
  obtain ⟨cs, rfl, hsz⟩ := okWide_struct Try.underlying43 hv
  obtain ⟨c0, c1, c2, rfl⟩ := Joins.array3 (hsz.trans Try.cellsRanges)
  obtain ⟨fuel, hf⟩ := h
  obtain ⟨y0, y1, y2, n, hx, _, h0, h1, h2⟩ := trod_struct3 Try.underlying43 hf
  have h0' : DataW.trod enc Try.prog w base (fun _ => true) held n 32 [c0] = some y0 := by
    have : DataW.trod enc Try.prog w base (fun _ => true) held n 32 (([c0, c1, c2].drop 0).take (Try.prog.cellsOf 32)) = some y0 := h0
    simpa [Try.cellsNs] using this
  have h1' : DataW.trod enc Try.prog w base (fun _ => true) held n 32 [c1] = some y1 := by
    have : DataW.trod enc Try.prog w base (fun _ => true) held n 32 (([c0, c1, c2].drop 1).take (Try.prog.cellsOf 32)) = some y1 := h1
    simpa [Try.cellsNs] using this
  have h2' : DataW.trod enc Try.prog w base (fun _ => true) held n 41 [c2] = some y2 := by
    have : DataW.trod enc Try.prog w base (fun _ => true) held n 41 (([c0, c1, c2].drop 2).take (Try.prog.cellsOf 41)) = some y2 := h2
    simpa [Try.cellsAsks] using this
  simp only [Prod.mk.injEq] at hx
  obtain ⟨rfl, _⟩ := hx
  have hw0 : ∀ n ∈ y0.1.weights Try.prog 32, n ≤ reachBytes := fun n hn => hw n (by
    simp only [DataW.weights, Try.underlying43]
    exact DataW.weights_mem_each (j := 0) (t := 32) rfl rfl n hn)
  have hw1 : ∀ n ∈ y1.1.weights Try.prog 32, n ≤ reachBytes := fun n hn => hw n (by
    simp only [DataW.weights, Try.underlying43]
    exact DataW.weights_mem_each (j := 1) (t := 32) rfl rfl n hn)
  have hw2 : ∀ n ∈ y2.1.weights Try.prog 41, n ≤ reachBytes := fun n hn => hw n (by
    simp only [DataW.weights, Try.underlying43]
    exact DataW.weights_mem_each (j := 2) (t := 41) rfl rfl n hn)
  obtain ⟨lp, lm, ld, ls, rfl, a1⟩ := ints_open h0' hw0
  obtain ⟨hp, hm, hd, hs, rfl, a2⟩ := ints_open h1' hw1
  obtain ⟨ap, am, ad, qs, rfl, a3⟩ := asks_open h2' hw2
  exact ⟨⟨lp, lm, ld, ls, hp, hm, hd, hs, ap, am, ad, qs⟩, rfl, a1, a2, a3⟩
end
end Go.Proofs.Ytgfegkcmoedgkaa
