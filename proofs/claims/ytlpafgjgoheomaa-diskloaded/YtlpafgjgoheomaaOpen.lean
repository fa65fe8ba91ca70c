import Derived.Test.YtlpafgjgoheomaaAppB
import Derived.ProofKit
import Derived.Lib.SmallJoins
import Derived.OpenShut
import Derived.SizedLaws
namespace Go.Proofs.Ytlpafgjgoheomaa
open Go.RowKit Go.ChangeShapes Go.WideShapes Go.Deep

section
variable {H : Type} {enc : TypeId × Value → H} {w : World} {base : Nat} {held : Bool}

theorem Try.cells5 : Try.prog.cellsOf 5 = 1 := by kernel_rfl
theorem Try.bytes5 : Try.prog.bytesOf 5 = 1 := by kernel_rfl
theorem Try.cellsOp : Try.prog.cellsOf 57 = 10 := by kernel_rfl
theorem Try.bytesOp : Try.prog.bytesOf 57 = 128 := by kernel_rfl
theorem Try.cellsInt : Try.prog.cellsOf 3 = 1 := by kernel_rfl
theorem Try.bytesInt : Try.prog.bytesOf 3 = 8 := by kernel_rfl
theorem Try.cellsS : Try.prog.cellsOf 9 = 1 := by kernel_rfl
theorem Try.cellsB : Try.prog.cellsOf 26 = 1 := by kernel_rfl
theorem Try.cellsIs : Try.prog.cellsOf 23 = 1 := by kernel_rfl
theorem Try.cellsOps : Try.prog.cellsOf 48 = 1 := by kernel_rfl
theorem Try.cellsPl : Try.prog.cellsOf 55 = 3 := by kernel_rfl
theorem Try.cellsRoom : Try.prog.cellsOf 68 = 2 := by kernel_rfl

theorem addr_plain {a : Addr} {v : Value} (h : w.cell? a = some v) : ∃ g o, a = ⟨g, o, none⟩ := by
  obtain ⟨g, o, sp⟩ := a
  unfold World.cell? at h
  cases sp with
  | none => exact ⟨g, o, rfl⟩
  | some x => split at h <;> simp at h
theorem add_plain (g o j : Nat) : (⟨g, o, none⟩ : Addr).add j = ⟨g, o + j, none⟩ := by
  unfold Addr.add; split <;> simp_all
/-- Bytes that came in. -/
theorem bytes_open {fuel : Nat} {v : Value} {x : DataW H × List MemPlace} (h : DataW.trod enc Try.prog w base (fun _ => true) held fuel 26 [v] = some x) (hw : ∀ n ∈ x.1.weights Try.prog 26, n ≤ reachBytes) :
    ∃ sp l c xs, v = .slice sp l c ∧ xs.length = l ∧ l ≤ c ∧ c ≤ 140737488351232 ∧ Bytes w sp xs ∧ (xs = [] ∨ ∀ g o, sp = some ⟨g, o, none⟩ → g < w.heap.size) := by
  rcases open_ints Try.underlying26 Try.underlying5 Try.cells5 h with ⟨hcs, hx⟩ | ⟨a, len, cap, zs, hcs, _, hl, hm, hz, hx, hcell, hwz⟩
  · simp at hcs
    exact ⟨none, 0, 0, [], hcs, rfl, by omega, by omega, ⟨fun _ h => (by cases h), Or.inl rfl⟩, Or.inl rfl⟩
  · simp at hcs hz
    have h1 := hw (cap * 1) (by rw [hx]; simp [DataW.weights, Try.underlying26, Try.bytes5, lits, hz]; left; omega)
    have h2 : cap ≤ 140737488351232 := by simpa [reachBytes] using h1
    have hsm : ∀ y ∈ (zs.take len).map Int.toNat, y < 256 := by
      intro y hy
      simp only [List.mem_map] at hy
      obtain ⟨z, hz', rfl⟩ := hy
      have := bounds_u8 (hwz z (List.mem_of_mem_take hz'))
      omega
    by_cases h0 : len = 0
    · subst h0
      exact ⟨some a, 0, cap, [], hcs, rfl, hl, h2, ⟨fun _ h => (by cases h), Or.inl rfl⟩, Or.inl rfl⟩
    · obtain ⟨g, o, rfl⟩ : ∃ g o, a = ⟨g, o, none⟩ := by
        have := hcell 0 (by omega)
        obtain ⟨g, o, e⟩ := addr_plain this
        refine ⟨g, o, ?_⟩
        simpa [Addr.add] using e
      have hg : g < w.heap.size := by have := cell_block (hcell 0 (by omega)); rw [add_plain] at this; exact this
      refine ⟨some ⟨g, o, none⟩, len, cap, (zs.take len).map Int.toNat, hcs, by simp; omega, hl, h2, ⟨hsm, Or.inr ⟨g, o, rfl, hg, fun j hj => ?_⟩⟩, Or.inr (fun g' o' e => by cases e; exact hg)⟩
      simp at hj
      have := hcell j (by omega)
      rw [add_plain] at this
      rw [this]
      have hb := bounds_u8 (hwz _ (List.getElem_mem (show j < zs.length by omega)))
      simp [List.getD, show j < len by omega, List.getElem?_eq_getElem (show j < zs.length by omega)]
      omega
theorem weights_all {P : Program} {e : TypeId} : ∀ {l : List (DataW H)} {d : DataW H}, d ∈ l → ∀ n ∈ d.weights P e, n ∈ DataW.weightsAll P e l
  | d0 :: r, d, hd, n, hn => by
    simp only [DataW.weightsAll, List.mem_append]
    rcases List.mem_cons.1 hd with rfl | h
    · exact Or.inl hn
    · exact Or.inr (weights_all h n hn)
  | [], _, hd, _, _ => by cases hd
theorem ten {l : List Value} (h : l.length = 10) : ∃ a b c d e f g i j k, l = [a, b, c, d, e, f, g, i, j, k] := by
  match l, h with
  | [a, b, c, d, e, f, g, i, j, k], _ => exact ⟨a, b, c, d, e, f, g, i, j, k, rfl⟩
theorem str_back (s : ByteArray) : (⟨s.data.toList.toArray⟩ : ByteArray) = s := by cases s; simp

/-- One step that came in. -/
theorem op_open {fuel : Nat} {cs : List Value} {x : DataW H × List MemPlace} (h : DataW.trod enc Try.prog w base (fun _ => true) held fuel 57 cs = some x) (hw : ∀ n ∈ x.1.weights Try.prog 57, n ≤ reachBytes) :
    ∃ q : Opm, cs = opc q ∧ OpOk w (fun _ => (0, 0)) q ∧ q.bc ≤ 9223372036854775807 := by
  obtain ⟨ys, n, _, rfl, hl, hlen, hf⟩ := DataW.trod_struct Try.underlying57 h
  rw [Try.cellsOp] at hl
  obtain ⟨a, b, c, d, e, f, g, i, j, k, rfl⟩ := ten hl
  have f0 : DataW.trod enc Try.prog w base (fun _ => true) held n 3 (([a, b, c, d, e, f, g, i, j, k].drop 0).take (Try.prog.cellsOf 3)) = ys[0]? := hf 0 _ rfl
  have f1 : DataW.trod enc Try.prog w base (fun _ => true) held n 3 (([a, b, c, d, e, f, g, i, j, k].drop 1).take (Try.prog.cellsOf 3)) = ys[1]? := hf 1 _ rfl
  have f2 : DataW.trod enc Try.prog w base (fun _ => true) held n 3 (([a, b, c, d, e, f, g, i, j, k].drop 2).take (Try.prog.cellsOf 3)) = ys[2]? := hf 2 _ rfl
  have f3 : DataW.trod enc Try.prog w base (fun _ => true) held n 9 (([a, b, c, d, e, f, g, i, j, k].drop 3).take (Try.prog.cellsOf 9)) = ys[3]? := hf 3 _ rfl
  have f4 : DataW.trod enc Try.prog w base (fun _ => true) held n 9 (([a, b, c, d, e, f, g, i, j, k].drop 4).take (Try.prog.cellsOf 9)) = ys[4]? := hf 4 _ rfl
  have f5 : DataW.trod enc Try.prog w base (fun _ => true) held n 26 (([a, b, c, d, e, f, g, i, j, k].drop 5).take (Try.prog.cellsOf 26)) = ys[5]? := hf 5 _ rfl
  have f6 : DataW.trod enc Try.prog w base (fun _ => true) held n 55 (([a, b, c, d, e, f, g, i, j, k].drop 6).take (Try.prog.cellsOf 55)) = ys[6]? := hf 6 _ rfl
  have f7 : DataW.trod enc Try.prog w base (fun _ => true) held n 23 (([a, b, c, d, e, f, g, i, j, k].drop 9).take (Try.prog.cellsOf 23)) = ys[7]? := hf 7 _ rfl
  simp only [Try.cellsInt, Try.cellsS, Try.cellsB, Try.cellsPl, Try.cellsIs, List.drop_zero, List.drop_succ_cons, List.take_succ_cons, List.take_zero] at f0 f1 f2 f3 f4 f5 f6 f7
  have hy : ∀ i, i < 8 → ∃ y, ys[i]? = some y := fun i hi => ⟨ys[i]'(by rw [hlen]; exact hi), List.getElem?_eq_getElem _⟩
  obtain ⟨y0, e0⟩ := hy 0 (by omega)
  obtain ⟨y1, e1⟩ := hy 1 (by omega)
  obtain ⟨y2, e2⟩ := hy 2 (by omega)
  obtain ⟨y3, e3⟩ := hy 3 (by omega)
  obtain ⟨y4, e4⟩ := hy 4 (by omega)
  obtain ⟨y5, e5⟩ := hy 5 (by omega)
  obtain ⟨y6, e6⟩ := hy 6 (by omega)
  obtain ⟨y7, e7⟩ := hy 7 (by omega)
  rw [e0] at f0; rw [e1] at f1; rw [e2] at f2; rw [e3] at f3; rw [e4] at f4; rw [e5] at f5; rw [e6] at f6; rw [e7] at f7
  obtain ⟨z0, g0, _, w0⟩ := DataW.trod_int Try.underlying3 f0
  obtain ⟨z1, g1, _, w1⟩ := DataW.trod_int Try.underlying3 f1
  obtain ⟨z2, g2, _, w2⟩ := DataW.trod_int Try.underlying3 f2
  obtain ⟨s3, g3, x3, _⟩ := DataW.trod_string Try.underlying9 f3
  obtain ⟨s4, g4, x4, _⟩ := DataW.trod_string Try.underlying9 f4
  have hw5 : ∀ n ∈ y5.1.weights Try.prog 26, n ≤ reachBytes := fun n hn => hw n (by
    simp only [DataW.weights, Try.underlying57]
    exact DataW.weights_mem_each (j := 5) (t := 26) rfl (by simp [e5]) n hn)
  have hw3 : ∀ n ∈ y3.1.weights Try.prog 9, n ≤ reachBytes := fun n hn => hw n (by
    simp only [DataW.weights, Try.underlying57]
    exact DataW.weights_mem_each (j := 3) (t := 9) rfl (by simp [e3]) n hn)
  have hw4 : ∀ n ∈ y4.1.weights Try.prog 9, n ≤ reachBytes := fun n hn => hw n (by
    simp only [DataW.weights, Try.underlying57]
    exact DataW.weights_mem_each (j := 4) (t := 9) rfl (by simp [e4]) n hn)
  obtain ⟨sp, l, cp, xs, g5, b1, b2, b3, b4, b5⟩ := bytes_open f5 hw5
  obtain ⟨zs, m, _, x6, hl6, hlen6, hf6⟩ := DataW.trod_struct Try.underlying55 f6
  have k0 : DataW.trod enc Try.prog w base (fun _ => true) held m 3 (([g, i, j].drop 0).take (Try.prog.cellsOf 3)) = zs[0]? := hf6 0 _ rfl
  have k1 : DataW.trod enc Try.prog w base (fun _ => true) held m 3 (([g, i, j].drop 1).take (Try.prog.cellsOf 3)) = zs[1]? := hf6 1 _ rfl
  have k2 : DataW.trod enc Try.prog w base (fun _ => true) held m 3 (([g, i, j].drop 2).take (Try.prog.cellsOf 3)) = zs[2]? := hf6 2 _ rfl
  simp only [Try.cellsInt, List.drop_zero, List.drop_succ_cons, List.take_succ_cons, List.take_zero] at k0 k1 k2
  have hz6 : ∀ i, i < 3 → ∃ y, zs[i]? = some y := fun i hi => ⟨zs[i]'(by rw [hlen6]; exact hi), List.getElem?_eq_getElem _⟩
  obtain ⟨v0, d0⟩ := hz6 0 (by omega)
  obtain ⟨v1, d1⟩ := hz6 1 (by omega)
  obtain ⟨v2, d2⟩ := hz6 2 (by omega)
  rw [d0] at k0; rw [d1] at k1; rw [d2] at k2
  obtain ⟨r0, j0, _, _⟩ := DataW.trod_int Try.underlying3 k0
  obtain ⟨r1, j1, _, _⟩ := DataW.trod_int Try.underlying3 k1
  obtain ⟨r2, j2, _, _⟩ := DataW.trod_int Try.underlying3 k2
  obtain ⟨kp, kl, kc, g7⟩ : ∃ kp kl kc, k = .slice kp kl kc := by
    rcases open_ints Try.underlying23 Try.underlying3 Try.cellsInt f7 with ⟨hcs, _⟩ | ⟨a, len, cap, zs, hcs, _⟩
    · simp at hcs; exact ⟨_, _, _, hcs⟩
    · simp at hcs; exact ⟨_, _, _, hcs⟩
  simp at g0 g1 g2 g3 g4 j0 j1 j2
  subst g0 g1 g2 g3 g4 g5 j0 j1 j2 g7
  have n3 : s3.data.toList.length ≤ 140737488355328 := by
    have := hw3 s3.data.toList.length (by rw [x3]; simp [DataW.weights])
    simp only [reachBytes] at this; omega
  have n4 : s4.data.toList.length ≤ 140737488355328 := by
    have := hw4 s4.data.toList.length (by rw [x4]; simp [DataW.weights])
    simp only [reachBytes] at this; omega
  refine ⟨⟨⟨z0, z2, s3.data.toList, s4.data.toList, xs⟩, z1, sp, cp, r0, r1, r2, kp, kl, kc⟩, ?_, ⟨bounds_i64 w2, n3, n4, b4, b5.imp id (fun h g o e => ⟨rfl, h g o e⟩), by rw [b1]; exact b2⟩, by show cp ≤ _; omega⟩
  simp only [opc, str_back, b1]

/-- The steps that came in. -/
theorem ops_open {fuel : Nat} {v : Value} {x : DataW H × List MemPlace} (h : DataW.trod enc Try.prog w base (fun _ => true) held fuel 48 [v] = some x) (hw : ∀ n ∈ x.1.weights Try.prog 48, n ≤ reachBytes) :
    ∃ sp l c ops, v = .slice sp l c ∧ ops.length = l ∧ l ≤ 140737488351232 ∧ Opi w sp ops ∧ ∀ q ∈ ops, OpOk w (fun _ => (0, 0)) q ∧ q.bc ≤ 9223372036854775807 := by
  rcases open_slice Try.underlying48 h with ⟨hcs, hx⟩ | ⟨a, len, cap, m, n, D, Pl, hcs, _, hl, hm, hmm, hx, hel⟩
  · simp at hcs
    exact ⟨none, 0, 0, [], hcs, rfl, by omega, ⟨Or.inl rfl⟩, fun _ h => (by cases h)⟩
  · simp at hcs hmm
    rw [Try.cellsOp] at hel
    have hD : x.1 = .slice ((List.range len).map D) ((List.range (m - len)).map fun j => D (len + j)) := by rw [hx]
    have hcap : cap ≤ 140737488351232 := by
      have h1 := hw ((len + (m - len)) * 128) (by rw [hD]; simp [DataW.weights, Try.underlying48, Try.bytesOp])
      simp only [reachBytes] at h1
      omega
    have hDw : ∀ i, i < len → ∀ n ∈ (D i).weights Try.prog 57, n ≤ reachBytes := fun i hi n hn => hw n (by
      rw [hD]
      simp only [DataW.weights, Try.underlying48, List.mem_cons, List.mem_append]
      exact Or.inr (Or.inl (weights_all (List.mem_map.2 ⟨i, List.mem_range.2 hi, rfl⟩) n hn)))
    obtain ⟨f, hf⟩ := @choose_lt Opm ⟨⟨⟨0, 0, [], [], []⟩, 0, none, 0, 0, 0, 0, none, 0, 0⟩⟩ len (fun i p => w.cells? base (a.add (i * 10)) 10 = some (opc p) ∧ OpOk w (fun _ => (0, 0)) p ∧ p.bc ≤ 9223372036854775807) (fun i hi => by
      obtain ⟨cs', h1, h2⟩ := hel i (by omega)
      obtain ⟨p, rfl, hp⟩ := op_open h2 (hDw i hi)
      exact ⟨p, h1, hp⟩)
    refine ⟨some a, len, cap, (List.range len).map f, hcs, by simp, by omega, ⟨?_⟩, ?_⟩
    · by_cases h0 : len = 0
      · left; simp [h0]
      · right
        have c0 := (World.cells?_some (hf 0 (by omega)).1).2.2 0 (by omega)
        obtain ⟨g, o, rfl⟩ : ∃ g o, a = ⟨g, o, none⟩ := by
          obtain ⟨g, o, e⟩ := addr_plain (v := .int .i64 (f 0).x.kind) (by simpa [opc] using c0)
          exact ⟨g, o, by simpa [Addr.add] using e⟩
        refine ⟨g, o, rfl, ?_, fun i u hu => ?_⟩
        · have := cell_block (v := .int .i64 (f 0).x.kind) (by simpa [opc] using c0)
          simpa [add_plain] using this
        · have hil : i < (opvs ((List.range len).map f)).length := (List.getElem?_eq_some_iff.1 hu).1
          rw [opvs_len] at hil
          simp at hil
          have hq : ((List.range len).map f)[i / 10]? = some (f (i / 10)) := by
            rw [List.getElem?_map, List.getElem?_range (by omega)]; rfl
          have hat := opvs_at _ (i / 10) _ hq (i % 10) (Nat.mod_lt _ (by omega))
          rw [show i / 10 * 10 + i % 10 = i by omega, hu] at hat
          have hc := (World.cells?_some (hf (i / 10) (by omega)).1).2.2 (i % 10) (Nat.mod_lt _ (by omega))
          rw [← hat] at hc
          simp only [add_plain] at hc
          rw [show o + i = o + i / 10 * 10 + i % 10 by omega]
          exact hc
    · intro p hp
      simp only [List.mem_map, List.mem_range] at hp
      obtain ⟨i, hi, rfl⟩ := hp
      exact (hf i hi).2

set_option maxRecDepth 100000 in
/-- A room and steps that came in. -/
theorem room_open {r : Reach} {b0 : Nat} {v : Value} {d : DataW H} {pl : List MemPlace} (hv : Value.okWide Try.prog w r b0 68 v) (h : DataW.Trod enc Try.prog w base (fun _ => true) held 68 v d pl)
    (hw : ∀ n ∈ d.weights Try.prog 68, n ≤ reachBytes) : ∃ z sp l c ops, v = .agg #[.int .i64 z, .slice sp l c] ∧ ops.length = l ∧ l ≤ 140737488351232 ∧ Opi w sp ops ∧ ∀ q ∈ ops, OpOk w (fun _ => (0, 0)) q ∧ q.bc ≤ 9223372036854775807 := by
  obtain ⟨cs, rfl, hsz⟩ := okWide_struct Try.underlying68 hv
  obtain ⟨c0, c1, rfl⟩ := Joins.array2 (hsz.trans Try.cellsRoom)
  obtain ⟨fuel, hf⟩ := h
  obtain ⟨y0, y1, n, hx, _, h0, h1⟩ := trod_struct2 Try.underlying68 hf
  have h0' : DataW.trod enc Try.prog w base (fun _ => true) held n 3 [c0] = some y0 := by
    have : DataW.trod enc Try.prog w base (fun _ => true) held n 3 (([c0, c1].drop 0).take (Try.prog.cellsOf 3)) = some y0 := h0
    simpa [Try.cellsInt] using this
  have h1' : DataW.trod enc Try.prog w base (fun _ => true) held n 48 [c1] = some y1 := by
    have : DataW.trod enc Try.prog w base (fun _ => true) held n 48 (([c0, c1].drop 1).take (Try.prog.cellsOf 48)) = some y1 := h1
    simpa [Try.cellsOps] using this
  simp only [Prod.mk.injEq] at hx
  obtain ⟨rfl, _⟩ := hx
  have hw1 : ∀ n ∈ y1.1.weights Try.prog 48, n ≤ reachBytes := fun n hn => hw n (by
    simp only [DataW.weights, Try.underlying68]
    exact DataW.weights_mem_each (j := 1) (t := 48) rfl rfl n hn)
  obtain ⟨z0, g0, _, _⟩ := DataW.trod_int Try.underlying3 h0'
  obtain ⟨sp, l, c, ops, rfl, o1, o2, o3, o4⟩ := ops_open h1' hw1
  simp at g0
  subst g0
  exact ⟨z0, sp, l, c, ops, rfl, o1, o2, o3, o4⟩

end
end Go.Proofs.Ytlpafgjgoheomaa
