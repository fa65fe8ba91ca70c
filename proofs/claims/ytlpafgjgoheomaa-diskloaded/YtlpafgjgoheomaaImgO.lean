import Derived.Test.YtlpafgjgoheomaaPowO
import Derived.Test.YtlpafgjgoheomaaImgIn
namespace Go.Proofs.Ytlpafgjgoheomaa
open Go.RowKit Go.ChangeShapes Go.WideShapes Go.Deep

section
variable {H : Type} {enc : TypeId × Value → H} {w : World} {base : Nat} {held : Bool}

theorem Try.cellsImg : Try.prog.cellsOf 25 = 3 := by kernel_rfl
theorem Try.cellsFb : Try.prog.cellsOf 28 = 2 := by kernel_rfl
theorem Try.bytesFb : Try.prog.bytesOf 28 = 40 := by kernel_rfl
theorem Try.cellsFbs : Try.prog.cellsOf 22 = 1 := by kernel_rfl
theorem twoL {l : List Value} (h : l.length = 2) : ∃ a b, l = [a, b] := by
  match l, h with
  | [a, b], _ => exact ⟨a, b, rfl⟩
theorem threeL {l : List Value} (h : l.length = 3) : ∃ a b c, l = [a, b, c] := by
  match l, h with
  | [a, b, c], _ => exact ⟨a, b, c, rfl⟩
/-- One file that came in. -/
theorem fb_open {fuel : Nat} {cs : List Value} {x : DataW H × List MemPlace} (h : DataW.trod enc Try.prog w base (fun _ => true) held fuel 28 cs = some x) (hw : ∀ n ∈ x.1.weights Try.prog 28, n ≤ reachBytes) :
    ∃ (p : Nm × List Nat) (ap : Option Addr) (cp : Nat), cs = [.string ⟨p.1.toArray⟩, .slice ap p.2.length cp] ∧ Bytes w ap p.2 ∧ p.2.length ≤ 140737488351232 ∧ p.1.length ≤ 140737488355328 := by
  obtain ⟨ys, n, _, rfl, hl, hlen, hf⟩ := DataW.trod_struct Try.underlying28 h
  rw [Try.cellsFb] at hl
  obtain ⟨a, b, rfl⟩ := twoL hl
  have f0 : DataW.trod enc Try.prog w base (fun _ => true) held n 9 (([a, b].drop 0).take (Try.prog.cellsOf 9)) = ys[0]? := hf 0 _ rfl
  have f1 : DataW.trod enc Try.prog w base (fun _ => true) held n 26 (([a, b].drop 1).take (Try.prog.cellsOf 26)) = ys[1]? := hf 1 _ rfl
  simp only [Try.cellsS, Try.cellsB, List.drop_zero, List.drop_succ_cons, List.take_succ_cons, List.take_zero] at f0 f1
  have hy : ∀ i, i < 2 → ∃ y, ys[i]? = some y := fun i hi => ⟨ys[i]'(by rw [hlen]; exact hi), List.getElem?_eq_getElem _⟩
  obtain ⟨y0, e0⟩ := hy 0 (by omega)
  obtain ⟨y1, e1⟩ := hy 1 (by omega)
  rw [e0] at f0; rw [e1] at f1
  obtain ⟨s0, g0, x0, _⟩ := DataW.trod_string Try.underlying9 f0
  have hw1 : ∀ n ∈ y1.1.weights Try.prog 26, n ≤ reachBytes := fun n hn => hw n (by
    simp only [DataW.weights, Try.underlying28]
    exact DataW.weights_mem_each (j := 1) (t := 26) rfl (by simp [e1]) n hn)
  have hw0 : ∀ n ∈ y0.1.weights Try.prog 9, n ≤ reachBytes := fun n hn => hw n (by
    simp only [DataW.weights, Try.underlying28]
    exact DataW.weights_mem_each (j := 0) (t := 9) rfl (by simp [e0]) n hn)
  obtain ⟨sp, l, cp, xs, g1, b1, b2, b3, b4, b5⟩ := bytes_open f1 hw1
  simp at g0
  subst g0 g1
  have n0 : s0.data.toList.length ≤ 140737488355328 := by
    have := hw0 s0.data.toList.length (by rw [x0]; simp [DataW.weights])
    simp only [reachBytes] at this; omega
  exact ⟨(s0.data.toList, xs), sp, cp, by simp only [str_back, b1], b4, by show xs.length ≤ _; omega, n0⟩
/-- Files that came in. -/
theorem fbs_open {fuel : Nat} {v : Value} {x : DataW H × List MemPlace} (h : DataW.trod enc Try.prog w base (fun _ => true) held fuel 22 [v] = some x) (hw : ∀ n ∈ x.1.weights Try.prog 22, n ≤ reachBytes) :
    ∃ sp l c img, v = .slice sp l c ∧ img.length = l ∧ l ≤ 3518437208784 ∧ Imi w sp img := by
  rcases open_slice Try.underlying22 h with ⟨hcs, hx⟩ | ⟨a, len, cap, m, n, D, Pl, hcs, _, hl, hm, hmm, hx, hel⟩
  · simp at hcs
    exact ⟨none, 0, 0, [], hcs, rfl, by omega, ⟨fun _ h => (by cases h), Or.inl rfl⟩⟩
  · simp at hcs hmm
    rw [Try.cellsFb] at hel
    have hD : x.1 = .slice ((List.range len).map D) ((List.range (m - len)).map fun j => D (len + j)) := by rw [hx]
    have hcap : len ≤ 3518437208784 := by
      have h1 := hw ((len + (m - len)) * 40) (by rw [hD]; simp [DataW.weights, Try.underlying22, Try.bytesFb])
      simp only [reachBytes] at h1
      omega
    have hDw : ∀ i, i < len → ∀ n ∈ (D i).weights Try.prog 28, n ≤ reachBytes := fun i hi n hn => hw n (by
      rw [hD]
      simp only [DataW.weights, Try.underlying22, List.mem_cons, List.mem_append]
      exact Or.inr (Or.inl (weights_all (List.mem_map.2 ⟨i, List.mem_range.2 hi, rfl⟩) n hn)))
    obtain ⟨f, hf⟩ := @choose_lt (Nm × List Nat) ⟨([], [])⟩ len (fun i p => ∃ (ap : Option Addr) (cp : Nat), w.cells? base (a.add (i * 2)) 2 = some [.string ⟨p.1.toArray⟩, .slice ap p.2.length cp] ∧ Bytes w ap p.2 ∧ p.2.length ≤ 140737488351232 ∧ p.1.length ≤ 140737488355328) (fun i hi => by
      obtain ⟨cs', h1, h2⟩ := hel i (by omega)
      obtain ⟨p, ap, cp, rfl, hp⟩ := fb_open h2 (hDw i hi)
      exact ⟨p, ap, cp, h1, hp⟩)
    refine ⟨some a, len, cap, (List.range len).map f, hcs, by simp, hcap, ⟨fun p hp => ?_, ?_⟩⟩
    · simp only [List.mem_map, List.mem_range] at hp
      obtain ⟨i, hi, rfl⟩ := hp
      obtain ⟨_, _, _, _, h3, h4⟩ := hf i hi
      exact ⟨h3, h4⟩
    · by_cases h0 : len = 0
      · left; simp [h0]
      · right
        obtain ⟨ap0, cp0, hc0, _⟩ := hf 0 (by omega)
        have c0 := (World.cells?_some hc0).2.2 0 (by omega)
        obtain ⟨g, o, rfl⟩ : ∃ g o, a = ⟨g, o, none⟩ := by
          obtain ⟨g, o, e⟩ := addr_plain (v := .string ⟨(f 0).1.toArray⟩) (by simpa using c0)
          exact ⟨g, o, by simpa [Addr.add] using e⟩
        refine ⟨g, o, rfl, ?_, fun k p hp => ?_⟩
        · have := cell_block (v := .string ⟨(f 0).1.toArray⟩) (by simpa using c0)
          simpa [add_plain] using this
        · have hk : k < len := by have := (List.getElem?_eq_some_iff.1 hp).1; simpa using this
          have hp2 : p = f k := by
            rw [List.getElem?_map, List.getElem?_range hk] at hp
            simpa using hp.symm
          subst hp2
          obtain ⟨ap, cp, hc, hb, _⟩ := hf k hk
          have d0 := (World.cells?_some hc).2.2 0 (by omega)
          have d1 := (World.cells?_some hc).2.2 1 (by omega)
          simp only [add_plain] at d0 d1
          exact ⟨ap, cp, by simpa using d0, by simpa [Nat.add_assoc] using d1, hb⟩

set_option maxRecDepth 100000 in
theorem image_open {r : Reach} {b0 : Nat} {v : Value} {d : DataW H} {pl : List MemPlace} (hv : Value.okWide Try.prog w r b0 25 v) (h : DataW.Trod enc Try.prog w base (fun _ => true) held 25 v d pl)
    (hw : ∀ n ∈ d.weights Try.prog 25, n ≤ reachBytes) : ∃ sp l c img z pp pm pc ps, v = .agg #[.slice sp l c, .int .i64 z, .slice pp pm pc] ∧
      (img.length = l ∧ l ≤ 3518437208784 ∧ Imi w sp img) ∧ (-9223372036854775808 ≤ z ∧ z ≤ 9223372036854775807) ∧ (ps.length = pm ∧ pm ≤ 140737488351232 ∧ Ins w pp ps) := by
  obtain ⟨cs, rfl, hsz⟩ := okWide_struct Try.underlying25 hv
  obtain ⟨fuel, hf0⟩ := h
  obtain ⟨ys, n, hx0, hxx, hl, hlen, hf⟩ := DataW.trod_struct Try.underlying25 hf0
  obtain ⟨c0, c1, c2, hcs⟩ := threeL (l := cs.toList) (by simpa using hsz.trans Try.cellsImg)
  have hcs2 : cs = #[c0, c1, c2] := by rw [← Array.toArray_toList (xs := cs), hcs]
  subst hcs2
  have f0 : DataW.trod enc Try.prog w base (fun _ => true) held n 22 (([c0, c1, c2].drop 0).take (Try.prog.cellsOf 22)) = ys[0]? := hf 0 _ rfl
  have f1 : DataW.trod enc Try.prog w base (fun _ => true) held n 3 (([c0, c1, c2].drop 1).take (Try.prog.cellsOf 3)) = ys[1]? := hf 1 _ rfl
  have f2 : DataW.trod enc Try.prog w base (fun _ => true) held n 23 (([c0, c1, c2].drop 2).take (Try.prog.cellsOf 23)) = ys[2]? := hf 2 _ rfl
  simp only [Try.cellsInt, Try.cellsFbs, Try.cellsIs, List.drop_zero, List.drop_succ_cons, List.take_succ_cons, List.take_zero] at f0 f1 f2
  have hy : ∀ i, i < 3 → ∃ y, ys[i]? = some y := fun i hi => ⟨ys[i]'(by rw [hlen]; exact hi), List.getElem?_eq_getElem _⟩
  obtain ⟨y0, e0⟩ := hy 0 (by omega)
  obtain ⟨y1, e1⟩ := hy 1 (by omega)
  obtain ⟨y2, e2⟩ := hy 2 (by omega)
  rw [e0] at f0; rw [e1] at f1; rw [e2] at f2
  have hww : ∀ (j : Nat) (t : TypeId) (y : DataW H × List MemPlace), [22, 3, 23][j]? = some t → ys[j]? = some y → ∀ n ∈ y.1.weights Try.prog t, n ≤ reachBytes := fun j t y ht hy n hn => hw n (by
    simp only [Prod.mk.injEq] at hxx
    rw [hxx.1]
    simp only [DataW.weights, Try.underlying25]
    exact DataW.weights_mem_each (j := j) (t := t) ht (by simp [hy]) n hn)
  obtain ⟨z1, g1, _, w1⟩ := DataW.trod_int Try.underlying3 f1
  obtain ⟨sp, l, c, img, g0, o1, o2, o3⟩ := fbs_open f0 (hww 0 _ y0 rfl e0)
  obtain ⟨pp, pm, pc, ps, g2, q1, q2, q3⟩ := ints_open f2 (hww 2 _ y2 rfl e2)
  simp at g1
  subst g0 g1 g2
  exact ⟨sp, l, c, img, z1, pp, pm, pc, ps, rfl, ⟨o1, o2, o3⟩, bounds_i64 w1, q1, q2, q3⟩

end
end Go.Proofs.Ytlpafgjgoheomaa
