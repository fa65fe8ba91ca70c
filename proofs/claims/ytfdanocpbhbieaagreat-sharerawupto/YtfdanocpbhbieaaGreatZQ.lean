import Derived.Test.YtfdanocpbhbieaaGreatZLE
import Derived.Test.YtfdanocpbhbieaaGreatLnS
import Derived.Test.YtfdanocpbhbieaaGreatShJ
import Derived.Test.YtfdanocpbhbieaaGreatRows
import Derived.ProofKit
import Derived.OpenShut
import Derived.SizedLaws
import Derived.Deep.Slices
namespace Go.Proofs.YtfdanocpbhbieaaGreat.Z
open Go.RowKit Go.ChangeShapes Go.WideShapes Go.Deep

namespace Blk
theorem one_le {H : Type} (d : DataW H) : 1 ≤ Rows.uptoBulk d := by
  cases d with
  | lit l => cases l <;> simp [Rows.uptoBulk]
  | nil => simp [Rows.uptoBulk]
  | ptr d => simp [Rows.uptoBulk]
  | slice elems spare => simp [Rows.uptoBulk]
  | agg parts => simp [Rows.uptoBulk]
  | iface t d => simp [Rows.uptoBulk]
  | map entries => simp [Rows.uptoBulk]
  | held h => simp [Rows.uptoBulk]
theorem part_le {H : Type} {d : DataW H} {l : List (DataW H)} (h : d ∈ l) : Rows.uptoBulk d ≤ Rows.uptoBulkAll l := by
  induction l with
  | nil => cases h
  | cons x r ih =>
    simp only [Rows.uptoBulkAll]
    cases List.mem_cons.1 h with
    | inl e => subst e; omega
    | inr e => have := ih e; omega
theorem length_le {H : Type} (l : List (DataW H)) : l.length ≤ Rows.uptoBulkAll l := by
  induction l with
  | nil => simp [Rows.uptoBulkAll]
  | cons x r ih => have := one_le x; simp only [Rows.uptoBulkAll, List.length_cons]; omega
theorem all_sum {H : Type} (l : List (DataW H)) : Rows.uptoBulkAll l = (l.map Rows.uptoBulk).sum := by
  induction l with
  | nil => rfl
  | cons x r ih => simp [Rows.uptoBulkAll, ih]
theorem sum_le {α : Type} (f g : α → Nat) : ∀ (l : List α), (∀ x ∈ l, f x ≤ g x) → (l.map f).sum ≤ (l.map g).sum
  | [], _ => Nat.le_refl _
  | x :: r, h => by
    have h1 := h x (List.mem_cons_self)
    have h2 := sum_le f g r (fun y hy => h y (List.mem_cons_of_mem _ hy))
    simp only [List.map_cons, List.sum_cons]
    omega
end Blk
theorem addr_flat {w : World} {a : Addr} {v : Value} (h : w.cell? a = some v) : ∃ g o, a = ⟨g, o, none⟩ := by
  obtain ⟨g, o, sp⟩ := a
  unfold World.cell? at h
  cases sp with
  | none => exact ⟨g, o, rfl⟩
  | some x => split at h <;> simp at h
theorem cell_lies {w : World} {p : Addr} {v : Value} (h : w.cell? p = some v) : p.block < w.heap.size := by
  unfold World.cell? at h
  rcases Nat.lt_or_ge p.block w.heap.size with hl | hl
  · exact hl
  · rw [Array.getElem?_eq_none hl] at h; cases h

section
variable {H : Type} {enc : TypeId × Value → H} {w : World} {base : Nat} {held : Bool}
/-- A slice that came in, its elements as f tells them. -/
theorem slice_in {α : Type} [Inhabited α] {f : α → List Value} {sz : Nat} {t e : TypeId} (ht : Tryz.prog.underlying t = some (.slice e)) (hce : Tryz.prog.cellsOf e = sz) (hsz : 0 < sz) (hf : ∀ x, (f x).length = sz) (V : α → Prop) (g : α → Nat)
    (hopen : ∀ (fuel : Nat) (cs : List Value) (x : DataW H × List MemPlace), DataW.trod enc Tryz.prog w base (fun _ => true) held fuel e cs = some x → Rows.uptoBulk x.1 ≤ 1048576 → ∃ a, cs = f a ∧ V a ∧ g a ≤ Rows.uptoBulk x.1)
    {fuel : Nat} {v : Value} {x : DataW H × List MemPlace} (h : DataW.trod enc Tryz.prog w base (fun _ => true) held fuel t [v] = some x) (hb : Rows.uptoBulk x.1 ≤ 1048576) :
    ∃ s : Sli α, v = .slice s.p s.n s.c ∧ SlOk w sz f s ∧ (∀ a ∈ s.xs, V a) ∧ (s.xs.map g).sum ≤ Rows.uptoBulk x.1 ∧ s.xs.length ≤ Rows.uptoBulk x.1 := by
  rcases open_slice ht h with ⟨hcs, hx⟩ | ⟨a, len, cap, m, n, D, Pl, hcs, _, hl, hm, hmm, hx, hel⟩
  · simp at hcs
    exact ⟨⟨none, 0, 0, []⟩, hcs, ⟨rfl, Nat.zero_le _, Or.inl rfl⟩, fun a ha => by simp at ha, Nat.zero_le _, Nat.zero_le _⟩
  · simp at hcs hmm
    rw [hce] at hel
    have hD : x.1 = .slice ((List.range len).map D) ((List.range (m - len)).map fun j => D (len + j)) := by rw [hx]
    have hbk : Rows.uptoBulk x.1 = Rows.uptoBulkAll ((List.range len).map D) + Rows.uptoBulkAll ((List.range (m - len)).map fun j => D (len + j)) + 1 := by rw [hD]; rfl
    have hDb : ∀ i, i < len → Rows.uptoBulk (D i) ≤ 1048576 := fun i hi => by
      have := Blk.part_le (List.mem_map.2 ⟨i, List.mem_range.2 hi, rfl⟩ : D i ∈ (List.range len).map D)
      omega
    have hlen : len ≤ Rows.uptoBulk x.1 := by
      have := Blk.length_le ((List.range len).map D)
      simp at this
      omega
    obtain ⟨q, hq⟩ := choose_lt (n := len) (p := fun i p => w.cells? base (a.add (i * sz)) sz = some (f p) ∧ V p ∧ g p ≤ Rows.uptoBulk (D i)) (fun i hi => by
      obtain ⟨cs', h1, h2⟩ := hel i (by omega)
      obtain ⟨p, rfl, hp, hg⟩ := hopen _ _ _ h2 (hDb i hi)
      exact ⟨p, h1, hp, hg⟩)
    refine ⟨⟨some a, len, cap, (List.range len).map q⟩, hcs, ⟨by simp, by show len ≤ 4194304; omega, ?_⟩, fun z hz => ?_, ?_, by simpa using hlen⟩
    · by_cases h0 : len = 0
      · left; simp [h0]
      · right
        have c0 := (World.cells?_some (hq 0 (by omega)).1).2.2 0 hsz
        obtain ⟨u, hu⟩ : ∃ u, (f (q 0))[0]? = some u := ⟨_, List.getElem?_eq_getElem (by rw [hf]; exact hsz)⟩
        rw [hu] at c0
        obtain ⟨gg, oo, rfl⟩ : ∃ g o, a = ⟨g, o, none⟩ := by
          obtain ⟨g, o, e⟩ := addr_flat c0
          exact ⟨g, o, by simpa [Addr.add] using e⟩
        refine ⟨gg, oo, rfl, by have := cell_lies c0; simpa [Addr.add_mid] using this, fun i r hr j v hv => ?_⟩
        have hi : i < len := by
          have := (List.getElem?_eq_some_iff.1 hr).1
          simpa using this
        rw [List.getElem?_map, List.getElem?_map, List.getElem?_range hi] at hr
        simp at hr
        subst hr
        have hj : j < sz := by
          have := (List.getElem?_eq_some_iff.1 hv).1
          rwa [hf] at this
        have e0 := (World.cells?_some (hq i hi).1).2.2 j hj
        simp only [Addr.add_mid] at e0
        rw [e0, hv]
    · obtain ⟨i, hi, rfl⟩ := List.mem_map.1 hz
      exact (hq i (List.mem_range.1 hi)).2.1
    · have h1 := Blk.sum_le (fun i => g (q i)) (fun i => Rows.uptoBulk (D i)) (List.range len) (fun i hi => (hq i (List.mem_range.1 hi)).2.2)
      have h2 : Rows.uptoBulkAll ((List.range len).map D) = ((List.range len).map (fun i => Rows.uptoBulk (D i))).sum := by rw [Blk.all_sum, List.map_map]; rfl
      rw [List.map_map]
      show ((List.range len).map (fun i => g (q i))).sum ≤ _
      omega
theorem cEint : Tryz.prog.cellsOf 3 = 1 := by kernel_rfl
theorem cEint64 : Tryz.prog.cellsOf 2 = 1 := by kernel_rfl
theorem cEuint64 : Tryz.prog.cellsOf 45 = 1 := by kernel_rfl
theorem cEbool : Tryz.prog.cellsOf 4 = 1 := by kernel_rfl
theorem cEapiLine : Tryz.prog.cellsOf 87 = 2 := by kernel_rfl
theorem cEapiGuard : Tryz.prog.cellsOf 139 = 3 := by kernel_rfl
theorem cEapiSet : Tryz.prog.cellsOf 141 = 3 := by kernel_rfl
theorem cEapiRight : Tryz.prog.cellsOf 82 = 3 := by kernel_rfl
theorem cEsapiLine : Tryz.prog.cellsOf 53 = 1 := by kernel_rfl
theorem cEsapiGuard : Tryz.prog.cellsOf 77 = 1 := by kernel_rfl
theorem cEsapiSet : Tryz.prog.cellsOf 78 = 1 := by kernel_rfl
theorem cEsapiRight : Tryz.prog.cellsOf 60 = 1 := by kernel_rfl
theorem cEapiHead : Tryz.prog.cellsOf 76 = 2 := by kernel_rfl
theorem cEapiMerge : Tryz.prog.cellsOf 80 = 2 := by kernel_rfl
theorem cEapiAct : Tryz.prog.cellsOf 84 = 15 := by kernel_rfl
theorem cEsapiAct : Tryz.prog.cellsOf 52 = 1 := by kernel_rfl
theorem cE2int64 : Tryz.prog.cellsOf 105 = 2 := by kernel_rfl
theorem cEs2int64 : Tryz.prog.cellsOf 106 = 1 := by kernel_rfl
theorem cEapiPool : Tryz.prog.cellsOf 108 = 4 := by kernel_rfl
theorem cEsapiPool : Tryz.prog.cellsOf 46 = 1 := by kernel_rfl
theorem cEapiPriced : Tryz.prog.cellsOf 101 = 2 := by kernel_rfl
theorem cEsapiPriced : Tryz.prog.cellsOf 47 = 1 := by kernel_rfl
theorem cEsuint64 : Tryz.prog.cellsOf 48 = 1 := by kernel_rfl
theorem cEsbool : Tryz.prog.cellsOf 49 = 1 := by kernel_rfl
theorem cEapiState : Tryz.prog.cellsOf 51 = 6 := by kernel_rfl
theorem cEtilllaw12RawAsk : Tryz.prog.cellsOf 55 = 9 := by kernel_rfl
theorem cEstilllaw12RawAsk : Tryz.prog.cellsOf 22 = 1 := by kernel_rfl
theorem len2 {l : List Value} (h : l.length = 2) : ∃ v0 v1, l = [v0, v1] := by
  match l, h with
  | [v0, v1], _ => exact ⟨v0, v1, rfl⟩
theorem len3 {l : List Value} (h : l.length = 3) : ∃ v0 v1 v2, l = [v0, v1, v2] := by
  match l, h with
  | [v0, v1, v2], _ => exact ⟨v0, v1, v2, rfl⟩
theorem len4 {l : List Value} (h : l.length = 4) : ∃ v0 v1 v2 v3, l = [v0, v1, v2, v3] := by
  match l, h with
  | [v0, v1, v2, v3], _ => exact ⟨v0, v1, v2, v3, rfl⟩
theorem len6 {l : List Value} (h : l.length = 6) : ∃ v0 v1 v2 v3 v4 v5, l = [v0, v1, v2, v3, v4, v5] := by
  match l, h with
  | [v0, v1, v2, v3, v4, v5], _ => exact ⟨v0, v1, v2, v3, v4, v5, rfl⟩
theorem len9 {l : List Value} (h : l.length = 9) : ∃ v0 v1 v2 v3 v4 v5 v6 v7 v8, l = [v0, v1, v2, v3, v4, v5, v6, v7, v8] := by
  match l, h with
  | [v0, v1, v2, v3, v4, v5, v6, v7, v8], _ => exact ⟨v0, v1, v2, v3, v4, v5, v6, v7, v8, rfl⟩
theorem len15 {l : List Value} (h : l.length = 15) : ∃ v0 v1 v2 v3 v4 v5 v6 v7 v8 v9 v10 v11 v12 v13 v14, l = [v0, v1, v2, v3, v4, v5, v6, v7, v8, v9, v10, v11, v12, v13, v14] := by
  match l, h with
  | [v0, v1, v2, v3, v4, v5, v6, v7, v8, v9, v10, v11, v12, v13, v14], _ => exact ⟨v0, v1, v2, v3, v4, v5, v6, v7, v8, v9, v10, v11, v12, v13, v14, rfl⟩
set_option linter.unusedVariables false
set_option linter.unusedSimpArgs false
theorem uint64_open {fuel : Nat} {cs : List Value} {x : DataW H × List MemPlace} (h : DataW.trod enc Tryz.prog w base (fun _ => true) held fuel 45 cs = some x) (hb : Rows.uptoBulk x.1 ≤ 1048576) : ∃ a : Int, cs = uc a ∧ True ∧ 0 ≤ Rows.uptoBulk x.1 := by
  obtain ⟨z, g, _, _⟩ := DataW.trod_int Tryz.underlying45 h
  exact ⟨z, g, trivial, Nat.zero_le _⟩
theorem bool_open {fuel : Nat} {cs : List Value} {x : DataW H × List MemPlace} (h : DataW.trod enc Tryz.prog w base (fun _ => true) held fuel 4 cs = some x) (hb : Rows.uptoBulk x.1 ≤ 1048576) : ∃ a : Bool, cs = boolc a ∧ True ∧ 0 ≤ Rows.uptoBulk x.1 := by
  obtain ⟨z, g, _⟩ := DataW.trod_bool Tryz.underlying4 h
  exact ⟨z, g, trivial, Nat.zero_le _⟩
theorem two_open {fuel : Nat} {cs : List Value} {x : DataW H × List MemPlace} (h : DataW.trod enc Tryz.prog w base (fun _ => true) held fuel 105 cs = some x) (hb : Rows.uptoBulk x.1 ≤ 1048576) : ∃ a : Lin, cs = linc a ∧ LinWf a ∧ 0 ≤ Rows.uptoBulk x.1 := by
  obtain ⟨ys, n, _, rfl, hl, hlen, hf⟩ := DataW.trod_array Tryz.underlying105 h
  rw [cE2int64] at hl
  obtain ⟨v0, v1, rfl⟩ := len2 hl
  have f0 := hf 0 (by omega)
  have f1 := hf 1 (by omega)
  simp only [cEint64, Nat.zero_mul, Nat.one_mul, List.drop_zero, List.drop_succ_cons, List.take_succ_cons, List.take_zero] at f0 f1
  obtain ⟨y0, e0⟩ : ∃ y, ys[0]? = some y := ⟨_, List.getElem?_eq_getElem (by rw [hlen]; omega)⟩
  obtain ⟨y1, e1⟩ : ∃ y, ys[1]? = some y := ⟨_, List.getElem?_eq_getElem (by rw [hlen]; omega)⟩
  rw [e0] at f0
  rw [e1] at f1
  obtain ⟨z0, g0, _, w0⟩ := DataW.trod_int Tryz.underlying2 f0
  obtain ⟨z1, g1, _, w1⟩ := DataW.trod_int Tryz.underlying2 f1
  simp only [List.cons.injEq, and_true] at g0 g1
  subst g0 g1
  exact ⟨⟨z0, z1⟩, rfl, ⟨w0, w1⟩, Nat.zero_le _⟩
theorem line_open {fuel : Nat} {cs : List Value} {x : DataW H × List MemPlace} (h : DataW.trod enc Tryz.prog w base (fun _ => true) held fuel 87 cs = some x) (hb : Rows.uptoBulk x.1 ≤ 1048576) : ∃ a : Lin, cs = linc a ∧ LinWf a ∧ 0 ≤ Rows.uptoBulk x.1 := by
  obtain ⟨ys, n, _, rfl, hl, hlen, hf⟩ := DataW.trod_struct Tryz.underlying87 h
  rw [cEapiLine] at hl
  obtain ⟨v0, v1, rfl⟩ := len2 hl
  have f0 : DataW.trod enc Tryz.prog w base (fun _ => true) held n 3 (([v0, v1].drop 0).take (Tryz.prog.cellsOf 3)) = ys[0]? := hf 0 _ rfl
  have f1 : DataW.trod enc Tryz.prog w base (fun _ => true) held n 2 (([v0, v1].drop 1).take (Tryz.prog.cellsOf 2)) = ys[1]? := hf 1 _ rfl
  simp only [cEint, cEint64, List.drop_zero, List.drop_succ_cons, List.take_succ_cons, List.take_zero] at f0 f1
  have hbk : Rows.uptoBulkAll (ys.map (·.1)) + 1 ≤ 1048576 := hb
  have hy : ∀ i, i < 2 → ∃ y, ys[i]? = some y ∧ Rows.uptoBulk y.1 ≤ Rows.uptoBulkAll (ys.map (·.1)) := fun i hi => ⟨ys[i]'(by rw [hlen]; exact hi), List.getElem?_eq_getElem _, Blk.part_le (List.mem_map.2 ⟨_, List.getElem_mem _, rfl⟩)⟩
  obtain ⟨y0, e0, b0⟩ := hy 0 (by omega)
  rw [e0] at f0
  obtain ⟨z0, g0, _, w0⟩ := DataW.trod_int Tryz.underlying3 f0
  simp only [List.cons.injEq, and_true] at g0
  subst g0
  obtain ⟨y1, e1, b1⟩ := hy 1 (by omega)
  rw [e1] at f1
  obtain ⟨z1, g1, _, w1⟩ := DataW.trod_int Tryz.underlying2 f1
  simp only [List.cons.injEq, and_true] at g1
  subst g1
  have htop : Rows.uptoBulk (DataW.agg (ys.map (·.1))) = Rows.uptoBulkAll (ys.map (·.1)) + 1 := rfl
  exact ⟨⟨z0, z1⟩, rfl, ⟨w0, w1⟩, Nat.zero_le _⟩
theorem priced_open {fuel : Nat} {cs : List Value} {x : DataW H × List MemPlace} (h : DataW.trod enc Tryz.prog w base (fun _ => true) held fuel 101 cs = some x) (hb : Rows.uptoBulk x.1 ≤ 1048576) : ∃ a : Lin, cs = linc a ∧ True ∧ 0 ≤ Rows.uptoBulk x.1 := by
  obtain ⟨ys, n, _, rfl, hl, hlen, hf⟩ := DataW.trod_struct Tryz.underlying101 h
  rw [cEapiPriced] at hl
  obtain ⟨v0, v1, rfl⟩ := len2 hl
  have f0 : DataW.trod enc Tryz.prog w base (fun _ => true) held n 2 (([v0, v1].drop 0).take (Tryz.prog.cellsOf 2)) = ys[0]? := hf 0 _ rfl
  have f1 : DataW.trod enc Tryz.prog w base (fun _ => true) held n 2 (([v0, v1].drop 1).take (Tryz.prog.cellsOf 2)) = ys[1]? := hf 1 _ rfl
  simp only [cEint64, List.drop_zero, List.drop_succ_cons, List.take_succ_cons, List.take_zero] at f0 f1
  have hbk : Rows.uptoBulkAll (ys.map (·.1)) + 1 ≤ 1048576 := hb
  have hy : ∀ i, i < 2 → ∃ y, ys[i]? = some y ∧ Rows.uptoBulk y.1 ≤ Rows.uptoBulkAll (ys.map (·.1)) := fun i hi => ⟨ys[i]'(by rw [hlen]; exact hi), List.getElem?_eq_getElem _, Blk.part_le (List.mem_map.2 ⟨_, List.getElem_mem _, rfl⟩)⟩
  obtain ⟨y0, e0, b0⟩ := hy 0 (by omega)
  rw [e0] at f0
  obtain ⟨z0, g0, _, w0⟩ := DataW.trod_int Tryz.underlying2 f0
  simp only [List.cons.injEq, and_true] at g0
  subst g0
  obtain ⟨y1, e1, b1⟩ := hy 1 (by omega)
  rw [e1] at f1
  obtain ⟨z1, g1, _, w1⟩ := DataW.trod_int Tryz.underlying2 f1
  simp only [List.cons.injEq, and_true] at g1
  subst g1
  have htop : Rows.uptoBulk (DataW.agg (ys.map (·.1))) = Rows.uptoBulkAll (ys.map (·.1)) + 1 := rfl
  exact ⟨⟨z0, z1⟩, rfl, trivial, Nat.zero_le _⟩
theorem right_open {fuel : Nat} {cs : List Value} {x : DataW H × List MemPlace} (h : DataW.trod enc Tryz.prog w base (fun _ => true) held fuel 82 cs = some x) (hb : Rows.uptoBulk x.1 ≤ 1048576) : ∃ a : Tri, cs = tric a ∧ TriWf a ∧ 0 ≤ Rows.uptoBulk x.1 := by
  obtain ⟨ys, n, _, rfl, hl, hlen, hf⟩ := DataW.trod_struct Tryz.underlying82 h
  rw [cEapiRight] at hl
  obtain ⟨v0, v1, v2, rfl⟩ := len3 hl
  have f0 : DataW.trod enc Tryz.prog w base (fun _ => true) held n 3 (([v0, v1, v2].drop 0).take (Tryz.prog.cellsOf 3)) = ys[0]? := hf 0 _ rfl
  have f1 : DataW.trod enc Tryz.prog w base (fun _ => true) held n 3 (([v0, v1, v2].drop 1).take (Tryz.prog.cellsOf 3)) = ys[1]? := hf 1 _ rfl
  have f2 : DataW.trod enc Tryz.prog w base (fun _ => true) held n 2 (([v0, v1, v2].drop 2).take (Tryz.prog.cellsOf 2)) = ys[2]? := hf 2 _ rfl
  simp only [cEint, cEint64, List.drop_zero, List.drop_succ_cons, List.take_succ_cons, List.take_zero] at f0 f1 f2
  have hbk : Rows.uptoBulkAll (ys.map (·.1)) + 1 ≤ 1048576 := hb
  have hy : ∀ i, i < 3 → ∃ y, ys[i]? = some y ∧ Rows.uptoBulk y.1 ≤ Rows.uptoBulkAll (ys.map (·.1)) := fun i hi => ⟨ys[i]'(by rw [hlen]; exact hi), List.getElem?_eq_getElem _, Blk.part_le (List.mem_map.2 ⟨_, List.getElem_mem _, rfl⟩)⟩
  obtain ⟨y0, e0, b0⟩ := hy 0 (by omega)
  rw [e0] at f0
  obtain ⟨z0, g0, _, w0⟩ := DataW.trod_int Tryz.underlying3 f0
  simp only [List.cons.injEq, and_true] at g0
  subst g0
  obtain ⟨y1, e1, b1⟩ := hy 1 (by omega)
  rw [e1] at f1
  obtain ⟨z1, g1, _, w1⟩ := DataW.trod_int Tryz.underlying3 f1
  simp only [List.cons.injEq, and_true] at g1
  subst g1
  obtain ⟨y2, e2, b2⟩ := hy 2 (by omega)
  rw [e2] at f2
  obtain ⟨z2, g2, _, w2⟩ := DataW.trod_int Tryz.underlying2 f2
  simp only [List.cons.injEq, and_true] at g2
  subst g2
  have htop : Rows.uptoBulk (DataW.agg (ys.map (·.1))) = Rows.uptoBulkAll (ys.map (·.1)) + 1 := rfl
  exact ⟨⟨z0, z1, z2⟩, rfl, ⟨w0, w1, w2⟩, Nat.zero_le _⟩
theorem guard_open {fuel : Nat} {cs : List Value} {x : DataW H × List MemPlace} (h : DataW.trod enc Tryz.prog w base (fun _ => true) held fuel 139 cs = some x) (hb : Rows.uptoBulk x.1 ≤ 1048576) : ∃ a : Tri, cs = tric a ∧ True ∧ 0 ≤ Rows.uptoBulk x.1 := by
  obtain ⟨ys, n, _, rfl, hl, hlen, hf⟩ := DataW.trod_struct Tryz.underlying139 h
  rw [cEapiGuard] at hl
  obtain ⟨v0, v1, v2, rfl⟩ := len3 hl
  have f0 : DataW.trod enc Tryz.prog w base (fun _ => true) held n 3 (([v0, v1, v2].drop 0).take (Tryz.prog.cellsOf 3)) = ys[0]? := hf 0 _ rfl
  have f1 : DataW.trod enc Tryz.prog w base (fun _ => true) held n 3 (([v0, v1, v2].drop 1).take (Tryz.prog.cellsOf 3)) = ys[1]? := hf 1 _ rfl
  have f2 : DataW.trod enc Tryz.prog w base (fun _ => true) held n 2 (([v0, v1, v2].drop 2).take (Tryz.prog.cellsOf 2)) = ys[2]? := hf 2 _ rfl
  simp only [cEint, cEint64, List.drop_zero, List.drop_succ_cons, List.take_succ_cons, List.take_zero] at f0 f1 f2
  have hbk : Rows.uptoBulkAll (ys.map (·.1)) + 1 ≤ 1048576 := hb
  have hy : ∀ i, i < 3 → ∃ y, ys[i]? = some y ∧ Rows.uptoBulk y.1 ≤ Rows.uptoBulkAll (ys.map (·.1)) := fun i hi => ⟨ys[i]'(by rw [hlen]; exact hi), List.getElem?_eq_getElem _, Blk.part_le (List.mem_map.2 ⟨_, List.getElem_mem _, rfl⟩)⟩
  obtain ⟨y0, e0, b0⟩ := hy 0 (by omega)
  rw [e0] at f0
  obtain ⟨z0, g0, _, w0⟩ := DataW.trod_int Tryz.underlying3 f0
  simp only [List.cons.injEq, and_true] at g0
  subst g0
  obtain ⟨y1, e1, b1⟩ := hy 1 (by omega)
  rw [e1] at f1
  obtain ⟨z1, g1, _, w1⟩ := DataW.trod_int Tryz.underlying3 f1
  simp only [List.cons.injEq, and_true] at g1
  subst g1
  obtain ⟨y2, e2, b2⟩ := hy 2 (by omega)
  rw [e2] at f2
  obtain ⟨z2, g2, _, w2⟩ := DataW.trod_int Tryz.underlying2 f2
  simp only [List.cons.injEq, and_true] at g2
  subst g2
  have htop : Rows.uptoBulk (DataW.agg (ys.map (·.1))) = Rows.uptoBulkAll (ys.map (·.1)) + 1 := rfl
  exact ⟨⟨z0, z1, z2⟩, rfl, trivial, Nat.zero_le _⟩
theorem set_open {fuel : Nat} {cs : List Value} {x : DataW H × List MemPlace} (h : DataW.trod enc Tryz.prog w base (fun _ => true) held fuel 141 cs = some x) (hb : Rows.uptoBulk x.1 ≤ 1048576) : ∃ a : Tri, cs = tric a ∧ True ∧ 0 ≤ Rows.uptoBulk x.1 := by
  obtain ⟨ys, n, _, rfl, hl, hlen, hf⟩ := DataW.trod_struct Tryz.underlying141 h
  rw [cEapiSet] at hl
  obtain ⟨v0, v1, v2, rfl⟩ := len3 hl
  have f0 : DataW.trod enc Tryz.prog w base (fun _ => true) held n 3 (([v0, v1, v2].drop 0).take (Tryz.prog.cellsOf 3)) = ys[0]? := hf 0 _ rfl
  have f1 : DataW.trod enc Tryz.prog w base (fun _ => true) held n 3 (([v0, v1, v2].drop 1).take (Tryz.prog.cellsOf 3)) = ys[1]? := hf 1 _ rfl
  have f2 : DataW.trod enc Tryz.prog w base (fun _ => true) held n 2 (([v0, v1, v2].drop 2).take (Tryz.prog.cellsOf 2)) = ys[2]? := hf 2 _ rfl
  simp only [cEint, cEint64, List.drop_zero, List.drop_succ_cons, List.take_succ_cons, List.take_zero] at f0 f1 f2
  have hbk : Rows.uptoBulkAll (ys.map (·.1)) + 1 ≤ 1048576 := hb
  have hy : ∀ i, i < 3 → ∃ y, ys[i]? = some y ∧ Rows.uptoBulk y.1 ≤ Rows.uptoBulkAll (ys.map (·.1)) := fun i hi => ⟨ys[i]'(by rw [hlen]; exact hi), List.getElem?_eq_getElem _, Blk.part_le (List.mem_map.2 ⟨_, List.getElem_mem _, rfl⟩)⟩
  obtain ⟨y0, e0, b0⟩ := hy 0 (by omega)
  rw [e0] at f0
  obtain ⟨z0, g0, _, w0⟩ := DataW.trod_int Tryz.underlying3 f0
  simp only [List.cons.injEq, and_true] at g0
  subst g0
  obtain ⟨y1, e1, b1⟩ := hy 1 (by omega)
  rw [e1] at f1
  obtain ⟨z1, g1, _, w1⟩ := DataW.trod_int Tryz.underlying3 f1
  simp only [List.cons.injEq, and_true] at g1
  subst g1
  obtain ⟨y2, e2, b2⟩ := hy 2 (by omega)
  rw [e2] at f2
  obtain ⟨z2, g2, _, w2⟩ := DataW.trod_int Tryz.underlying2 f2
  simp only [List.cons.injEq, and_true] at g2
  subst g2
  have htop : Rows.uptoBulk (DataW.agg (ys.map (·.1))) = Rows.uptoBulkAll (ys.map (·.1)) + 1 := rfl
  exact ⟨⟨z0, z1, z2⟩, rfl, trivial, Nat.zero_le _⟩
theorem u64s_in {fuel : Nat} {v : Value} {x : DataW H × List MemPlace} (h : DataW.trod enc Tryz.prog w base (fun _ => true) held fuel 48 [v] = some x) (hb : Rows.uptoBulk x.1 ≤ 1048576) : ∃ s : Sli Int, v = .slice s.p s.n s.c ∧ SlOk w 1 uc s ∧ (∀ a ∈ s.xs, (fun _ => True) a) ∧ (s.xs.map (fun _ => 0)).sum ≤ Rows.uptoBulk x.1 ∧ s.xs.length ≤ Rows.uptoBulk x.1 :=
  @slice_in H enc w base held Int ⟨0⟩ _ _ _ _ Tryz.underlying48 cEuint64 (by omega) (fun _ => rfl) (V := (fun _ => True)) (g := (fun _ => 0)) (fun _ _ _ h hb => uint64_open h hb) fuel v x h hb
theorem bools_in {fuel : Nat} {v : Value} {x : DataW H × List MemPlace} (h : DataW.trod enc Tryz.prog w base (fun _ => true) held fuel 49 [v] = some x) (hb : Rows.uptoBulk x.1 ≤ 1048576) : ∃ s : Sli Bool, v = .slice s.p s.n s.c ∧ SlOk w 1 boolc s ∧ (∀ a ∈ s.xs, (fun _ => True) a) ∧ (s.xs.map (fun _ => 0)).sum ≤ Rows.uptoBulk x.1 ∧ s.xs.length ≤ Rows.uptoBulk x.1 :=
  @slice_in H enc w base held Bool ⟨false⟩ _ _ _ _ Tryz.underlying49 cEbool (by omega) (fun _ => rfl) (V := (fun _ => True)) (g := (fun _ => 0)) (fun _ _ _ h hb => bool_open h hb) fuel v x h hb
theorem helds_in {fuel : Nat} {v : Value} {x : DataW H × List MemPlace} (h : DataW.trod enc Tryz.prog w base (fun _ => true) held fuel 106 [v] = some x) (hb : Rows.uptoBulk x.1 ≤ 1048576) : ∃ s : Sli Lin, v = .slice s.p s.n s.c ∧ SlOk w 2 linc s ∧ (∀ a ∈ s.xs, LinWf a) ∧ (s.xs.map (fun _ => 0)).sum ≤ Rows.uptoBulk x.1 ∧ s.xs.length ≤ Rows.uptoBulk x.1 :=
  @slice_in H enc w base held Lin ⟨⟨0, 0⟩⟩ _ _ _ _ Tryz.underlying106 cE2int64 (by omega) (fun _ => rfl) (V := LinWf) (g := (fun _ => 0)) (fun _ _ _ h hb => two_open h hb) fuel v x h hb
theorem prices_in {fuel : Nat} {v : Value} {x : DataW H × List MemPlace} (h : DataW.trod enc Tryz.prog w base (fun _ => true) held fuel 47 [v] = some x) (hb : Rows.uptoBulk x.1 ≤ 1048576) : ∃ s : Sli Lin, v = .slice s.p s.n s.c ∧ SlOk w 2 linc s ∧ (∀ a ∈ s.xs, (fun _ => True) a) ∧ (s.xs.map (fun _ => 0)).sum ≤ Rows.uptoBulk x.1 ∧ s.xs.length ≤ Rows.uptoBulk x.1 :=
  @slice_in H enc w base held Lin ⟨⟨0, 0⟩⟩ _ _ _ _ Tryz.underlying47 cEapiPriced (by omega) (fun _ => rfl) (V := (fun _ => True)) (g := (fun _ => 0)) (fun _ _ _ h hb => priced_open h hb) fuel v x h hb
theorem lines_in {fuel : Nat} {v : Value} {x : DataW H × List MemPlace} (h : DataW.trod enc Tryz.prog w base (fun _ => true) held fuel 53 [v] = some x) (hb : Rows.uptoBulk x.1 ≤ 1048576) : ∃ s : Sli Lin, v = .slice s.p s.n s.c ∧ SlOk w 2 linc s ∧ (∀ a ∈ s.xs, LinWf a) ∧ (s.xs.map (fun _ => 0)).sum ≤ Rows.uptoBulk x.1 ∧ s.xs.length ≤ Rows.uptoBulk x.1 :=
  @slice_in H enc w base held Lin ⟨⟨0, 0⟩⟩ _ _ _ _ Tryz.underlying53 cEapiLine (by omega) (fun _ => rfl) (V := LinWf) (g := (fun _ => 0)) (fun _ _ _ h hb => line_open h hb) fuel v x h hb
theorem rights_in {fuel : Nat} {v : Value} {x : DataW H × List MemPlace} (h : DataW.trod enc Tryz.prog w base (fun _ => true) held fuel 60 [v] = some x) (hb : Rows.uptoBulk x.1 ≤ 1048576) : ∃ s : Sli Tri, v = .slice s.p s.n s.c ∧ SlOk w 3 tric s ∧ (∀ a ∈ s.xs, TriWf a) ∧ (s.xs.map (fun _ => 0)).sum ≤ Rows.uptoBulk x.1 ∧ s.xs.length ≤ Rows.uptoBulk x.1 :=
  @slice_in H enc w base held Tri ⟨⟨0, 0, 0⟩⟩ _ _ _ _ Tryz.underlying60 cEapiRight (by omega) (fun _ => rfl) (V := TriWf) (g := (fun _ => 0)) (fun _ _ _ h hb => right_open h hb) fuel v x h hb
theorem guards_in {fuel : Nat} {v : Value} {x : DataW H × List MemPlace} (h : DataW.trod enc Tryz.prog w base (fun _ => true) held fuel 77 [v] = some x) (hb : Rows.uptoBulk x.1 ≤ 1048576) : ∃ s : Sli Tri, v = .slice s.p s.n s.c ∧ SlOk w 3 tric s ∧ (∀ a ∈ s.xs, (fun _ => True) a) ∧ (s.xs.map (fun _ => 0)).sum ≤ Rows.uptoBulk x.1 ∧ s.xs.length ≤ Rows.uptoBulk x.1 :=
  @slice_in H enc w base held Tri ⟨⟨0, 0, 0⟩⟩ _ _ _ _ Tryz.underlying77 cEapiGuard (by omega) (fun _ => rfl) (V := (fun _ => True)) (g := (fun _ => 0)) (fun _ _ _ h hb => guard_open h hb) fuel v x h hb
theorem sets_in {fuel : Nat} {v : Value} {x : DataW H × List MemPlace} (h : DataW.trod enc Tryz.prog w base (fun _ => true) held fuel 78 [v] = some x) (hb : Rows.uptoBulk x.1 ≤ 1048576) : ∃ s : Sli Tri, v = .slice s.p s.n s.c ∧ SlOk w 3 tric s ∧ (∀ a ∈ s.xs, (fun _ => True) a) ∧ (s.xs.map (fun _ => 0)).sum ≤ Rows.uptoBulk x.1 ∧ s.xs.length ≤ Rows.uptoBulk x.1 :=
  @slice_in H enc w base held Tri ⟨⟨0, 0, 0⟩⟩ _ _ _ _ Tryz.underlying78 cEapiSet (by omega) (fun _ => rfl) (V := (fun _ => True)) (g := (fun _ => 0)) (fun _ _ _ h hb => set_open h hb) fuel v x h hb
theorem head_open {fuel : Nat} {cs : List Value} {x : DataW H × List MemPlace} (h : DataW.trod enc Tryz.prog w base (fun _ => true) held fuel 76 cs = some x) (hb : Rows.uptoBulk x.1 ≤ 1048576) : ∃ a b : Int, cs = [.int .i64 a, .int .u64 b] := by
  obtain ⟨ys, n, _, rfl, hl, hlen, hf⟩ := DataW.trod_struct Tryz.underlying76 h
  rw [cEapiHead] at hl
  obtain ⟨v0, v1, rfl⟩ := len2 hl
  have f0 : DataW.trod enc Tryz.prog w base (fun _ => true) held n 3 (([v0, v1].drop 0).take (Tryz.prog.cellsOf 3)) = ys[0]? := hf 0 _ rfl
  have f1 : DataW.trod enc Tryz.prog w base (fun _ => true) held n 45 (([v0, v1].drop 1).take (Tryz.prog.cellsOf 45)) = ys[1]? := hf 1 _ rfl
  simp only [cEint, cEuint64, List.drop_zero, List.drop_succ_cons, List.take_succ_cons, List.take_zero] at f0 f1
  have hbk : Rows.uptoBulkAll (ys.map (·.1)) + 1 ≤ 1048576 := hb
  have hy : ∀ i, i < 2 → ∃ y, ys[i]? = some y ∧ Rows.uptoBulk y.1 ≤ Rows.uptoBulkAll (ys.map (·.1)) := fun i hi => ⟨ys[i]'(by rw [hlen]; exact hi), List.getElem?_eq_getElem _, Blk.part_le (List.mem_map.2 ⟨_, List.getElem_mem _, rfl⟩)⟩
  obtain ⟨y0, e0, b0⟩ := hy 0 (by omega)
  rw [e0] at f0
  obtain ⟨z0, g0, _, w0⟩ := DataW.trod_int Tryz.underlying3 f0
  simp only [List.cons.injEq, and_true] at g0
  subst g0
  obtain ⟨y1, e1, b1⟩ := hy 1 (by omega)
  rw [e1] at f1
  obtain ⟨z1, g1, _, w1⟩ := DataW.trod_int Tryz.underlying45 f1
  simp only [List.cons.injEq, and_true] at g1
  subst g1
  have htop : Rows.uptoBulk (DataW.agg (ys.map (·.1))) = Rows.uptoBulkAll (ys.map (·.1)) + 1 := rfl
  exact ⟨z0, z1, rfl⟩
theorem merge_open {fuel : Nat} {cs : List Value} {x : DataW H × List MemPlace} (h : DataW.trod enc Tryz.prog w base (fun _ => true) held fuel 80 cs = some x) (hb : Rows.uptoBulk x.1 ≤ 1048576) : ∃ (a : Int) (s : Sli Lin), cs = [.int .i64 a, .slice s.p s.n s.c] ∧ SlOk w 2 linc s ∧ ∀ x ∈ s.xs, LinWf x := by
  obtain ⟨ys, n, _, rfl, hl, hlen, hf⟩ := DataW.trod_struct Tryz.underlying80 h
  rw [cEapiMerge] at hl
  obtain ⟨v0, v1, rfl⟩ := len2 hl
  have f0 : DataW.trod enc Tryz.prog w base (fun _ => true) held n 3 (([v0, v1].drop 0).take (Tryz.prog.cellsOf 3)) = ys[0]? := hf 0 _ rfl
  have f1 : DataW.trod enc Tryz.prog w base (fun _ => true) held n 53 (([v0, v1].drop 1).take (Tryz.prog.cellsOf 53)) = ys[1]? := hf 1 _ rfl
  simp only [cEint, cEsapiLine, List.drop_zero, List.drop_succ_cons, List.take_succ_cons, List.take_zero] at f0 f1
  have hbk : Rows.uptoBulkAll (ys.map (·.1)) + 1 ≤ 1048576 := hb
  have hy : ∀ i, i < 2 → ∃ y, ys[i]? = some y ∧ Rows.uptoBulk y.1 ≤ Rows.uptoBulkAll (ys.map (·.1)) := fun i hi => ⟨ys[i]'(by rw [hlen]; exact hi), List.getElem?_eq_getElem _, Blk.part_le (List.mem_map.2 ⟨_, List.getElem_mem _, rfl⟩)⟩
  obtain ⟨y0, e0, b0⟩ := hy 0 (by omega)
  rw [e0] at f0
  obtain ⟨z0, g0, _, w0⟩ := DataW.trod_int Tryz.underlying3 f0
  simp only [List.cons.injEq, and_true] at g0
  subst g0
  obtain ⟨y1, e1, b1⟩ := hy 1 (by omega)
  rw [e1] at f1
  obtain ⟨z1, rfl, k1, V1, m1, l1⟩ := lines_in f1 (by omega)
  have htop : Rows.uptoBulk (DataW.agg (ys.map (·.1))) = Rows.uptoBulkAll (ys.map (·.1)) + 1 := rfl
  exact ⟨z0, z1, rfl, k1, V1⟩
/-- An act that came in. -/
structure AcdIn (w : World) (a : Acd) : Prop where
  ok : AcdOk w a
  lines : ∀ x ∈ a.lines.xs, LinWf x
  other : ∀ x ∈ a.other.xs, LinWf x
  rights : ∀ x ∈ a.rights.xs, TriWf x
  right : TriWf ⟨a.ra, a.rb, a.rd⟩
set_option maxRecDepth 100000 in
theorem act_open {fuel : Nat} {cs : List Value} {x : DataW H × List MemPlace} (h : DataW.trod enc Tryz.prog w base (fun _ => true) held fuel 84 cs = some x) (hb : Rows.uptoBulk x.1 ≤ 1048576) : ∃ a : Acd, cs = a.list ∧ AcdIn w a ∧ 0 ≤ Rows.uptoBulk x.1 := by
  obtain ⟨ys, n, _, rfl, hl, hlen, hf⟩ := DataW.trod_struct Tryz.underlying84 h
  rw [cEapiAct] at hl
  obtain ⟨v0, v1, v2, v3, v4, v5, v6, v7, v8, v9, v10, v11, v12, v13, v14, rfl⟩ := len15 hl
  have f0 : DataW.trod enc Tryz.prog w base (fun _ => true) held n 76 (([v0, v1, v2, v3, v4, v5, v6, v7, v8, v9, v10, v11, v12, v13, v14].drop 0).take (Tryz.prog.cellsOf 76)) = ys[0]? := hf 0 _ rfl
  have f1 : DataW.trod enc Tryz.prog w base (fun _ => true) held n 3 (([v0, v1, v2, v3, v4, v5, v6, v7, v8, v9, v10, v11, v12, v13, v14].drop 2).take (Tryz.prog.cellsOf 3)) = ys[1]? := hf 1 _ rfl
  have f2 : DataW.trod enc Tryz.prog w base (fun _ => true) held n 4 (([v0, v1, v2, v3, v4, v5, v6, v7, v8, v9, v10, v11, v12, v13, v14].drop 3).take (Tryz.prog.cellsOf 4)) = ys[2]? := hf 2 _ rfl
  have f3 : DataW.trod enc Tryz.prog w base (fun _ => true) held n 53 (([v0, v1, v2, v3, v4, v5, v6, v7, v8, v9, v10, v11, v12, v13, v14].drop 4).take (Tryz.prog.cellsOf 53)) = ys[3]? := hf 3 _ rfl
  have f4 : DataW.trod enc Tryz.prog w base (fun _ => true) held n 77 (([v0, v1, v2, v3, v4, v5, v6, v7, v8, v9, v10, v11, v12, v13, v14].drop 5).take (Tryz.prog.cellsOf 77)) = ys[4]? := hf 4 _ rfl
  have f5 : DataW.trod enc Tryz.prog w base (fun _ => true) held n 78 (([v0, v1, v2, v3, v4, v5, v6, v7, v8, v9, v10, v11, v12, v13, v14].drop 6).take (Tryz.prog.cellsOf 78)) = ys[5]? := hf 5 _ rfl
  have f6 : DataW.trod enc Tryz.prog w base (fun _ => true) held n 80 (([v0, v1, v2, v3, v4, v5, v6, v7, v8, v9, v10, v11, v12, v13, v14].drop 7).take (Tryz.prog.cellsOf 80)) = ys[6]? := hf 6 _ rfl
  have f7 : DataW.trod enc Tryz.prog w base (fun _ => true) held n 82 (([v0, v1, v2, v3, v4, v5, v6, v7, v8, v9, v10, v11, v12, v13, v14].drop 9).take (Tryz.prog.cellsOf 82)) = ys[7]? := hf 7 _ rfl
  have f8 : DataW.trod enc Tryz.prog w base (fun _ => true) held n 3 (([v0, v1, v2, v3, v4, v5, v6, v7, v8, v9, v10, v11, v12, v13, v14].drop 12).take (Tryz.prog.cellsOf 3)) = ys[8]? := hf 8 _ rfl
  have f9 : DataW.trod enc Tryz.prog w base (fun _ => true) held n 45 (([v0, v1, v2, v3, v4, v5, v6, v7, v8, v9, v10, v11, v12, v13, v14].drop 13).take (Tryz.prog.cellsOf 45)) = ys[9]? := hf 9 _ rfl
  have f10 : DataW.trod enc Tryz.prog w base (fun _ => true) held n 60 (([v0, v1, v2, v3, v4, v5, v6, v7, v8, v9, v10, v11, v12, v13, v14].drop 14).take (Tryz.prog.cellsOf 60)) = ys[10]? := hf 10 _ rfl
  simp only [cEapiHead, cEapiMerge, cEapiRight, cEbool, cEint, cEsapiGuard, cEsapiLine, cEsapiRight, cEsapiSet, cEuint64, List.drop_zero, List.drop_succ_cons, List.take_succ_cons, List.take_zero] at f0 f1 f2 f3 f4 f5 f6 f7 f8 f9 f10
  have hbk : Rows.uptoBulkAll (ys.map (·.1)) + 1 ≤ 1048576 := hb
  have hy : ∀ i, i < 11 → ∃ y, ys[i]? = some y ∧ Rows.uptoBulk y.1 ≤ Rows.uptoBulkAll (ys.map (·.1)) := fun i hi => ⟨ys[i]'(by rw [hlen]; exact hi), List.getElem?_eq_getElem _, Blk.part_le (List.mem_map.2 ⟨_, List.getElem_mem _, rfl⟩)⟩
  obtain ⟨y0, e0, b0⟩ := hy 0 (by omega)
  rw [e0] at f0
  obtain ⟨z0a, z0b, g0⟩ := head_open f0 (by omega)
  simp only [List.cons.injEq, and_true] at g0
  obtain ⟨rfl, rfl⟩ := g0
  obtain ⟨y1, e1, b1⟩ := hy 1 (by omega)
  rw [e1] at f1
  obtain ⟨z1, g1, _, w1⟩ := DataW.trod_int Tryz.underlying3 f1
  simp only [List.cons.injEq, and_true] at g1
  subst g1
  obtain ⟨y2, e2, b2⟩ := hy 2 (by omega)
  rw [e2] at f2
  obtain ⟨z2, g2, _⟩ := DataW.trod_bool Tryz.underlying4 f2
  simp only [List.cons.injEq, and_true] at g2
  subst g2
  obtain ⟨y3, e3, b3⟩ := hy 3 (by omega)
  rw [e3] at f3
  obtain ⟨z3, rfl, k3, V3, m3, l3⟩ := lines_in f3 (by omega)
  obtain ⟨y4, e4, b4⟩ := hy 4 (by omega)
  rw [e4] at f4
  obtain ⟨z4, rfl, k4, V4, m4, l4⟩ := guards_in f4 (by omega)
  obtain ⟨y5, e5, b5⟩ := hy 5 (by omega)
  rw [e5] at f5
  obtain ⟨z5, rfl, k5, V5, m5, l5⟩ := sets_in f5 (by omega)
  obtain ⟨y6, e6, b6⟩ := hy 6 (by omega)
  rw [e6] at f6
  obtain ⟨z6a, z6b, g6, k6, V6⟩ := merge_open f6 (by omega)
  simp only [List.cons.injEq, and_true] at g6
  obtain ⟨rfl, rfl⟩ := g6
  obtain ⟨y7, e7, b7⟩ := hy 7 (by omega)
  rw [e7] at f7
  obtain ⟨z7, g7, V7, _⟩ := right_open f7 (by omega)
  simp only [tric, List.cons.injEq, and_true] at g7
  obtain ⟨rfl, rfl, rfl⟩ := g7
  obtain ⟨y8, e8, b8⟩ := hy 8 (by omega)
  rw [e8] at f8
  obtain ⟨z8, g8, _, w8⟩ := DataW.trod_int Tryz.underlying3 f8
  simp only [List.cons.injEq, and_true] at g8
  subst g8
  obtain ⟨y9, e9, b9⟩ := hy 9 (by omega)
  rw [e9] at f9
  obtain ⟨z9, g9, _, w9⟩ := DataW.trod_int Tryz.underlying45 f9
  simp only [List.cons.injEq, and_true] at g9
  subst g9
  obtain ⟨y10, e10, b10⟩ := hy 10 (by omega)
  rw [e10] at f10
  obtain ⟨z10, rfl, k10, V10, m10, l10⟩ := rights_in f10 (by omega)
  have htop : Rows.uptoBulk (DataW.agg (ys.map (·.1))) = Rows.uptoBulkAll (ys.map (·.1)) + 1 := rfl
  exact ⟨⟨z0a, z0b, z1, z2, z3, z4, z5, z6a, z6b, z7.a, z7.b, z7.n, z8, z9, z10⟩, rfl, ⟨⟨k3, k4, k5, k6, k10⟩, V3, V6, V10, V7⟩, Nat.zero_le _⟩
theorem acts_in {fuel : Nat} {v : Value} {x : DataW H × List MemPlace} (h : DataW.trod enc Tryz.prog w base (fun _ => true) held fuel 52 [v] = some x) (hb : Rows.uptoBulk x.1 ≤ 1048576) : ∃ s : Sli Acd, v = .slice s.p s.n s.c ∧ SlOk w 15 Acd.list s ∧ (∀ a ∈ s.xs, (AcdIn w) a) ∧ (s.xs.map (fun _ => 0)).sum ≤ Rows.uptoBulk x.1 ∧ s.xs.length ≤ Rows.uptoBulk x.1 :=
  @slice_in H enc w base held Acd ⟨⟨0, 0, 0, false, ⟨none, 0, 0, []⟩, ⟨none, 0, 0, []⟩, ⟨none, 0, 0, []⟩, 0, ⟨none, 0, 0, []⟩, 0, 0, 0, 0, 0, ⟨none, 0, 0, []⟩⟩⟩ _ _ _ _ Tryz.underlying52 cEapiAct (by omega) (fun _ => rfl) (V := (AcdIn w)) (g := (fun _ => 0)) (fun _ _ _ h hb => act_open h hb) fuel v x h hb
/-- A pool that came in. -/
structure PlIn (w : World) (x : Pl) : Prop where
  ok : PlOk w x
  most : x.hl ≤ 4194304
  wf : ∀ h ∈ x.hs, LinWf h
theorem pool_open {fuel : Nat} {cs : List Value} {x : DataW H × List MemPlace} (h : DataW.trod enc Tryz.prog w base (fun _ => true) held fuel 108 cs = some x) (hb : Rows.uptoBulk x.1 ≤ 1048576) : ∃ a : Pl, cs = plc a ∧ PlIn w a ∧ 0 ≤ Rows.uptoBulk x.1 := by
  obtain ⟨ys, n, _, rfl, hl, hlen, hf⟩ := DataW.trod_struct Tryz.underlying108 h
  rw [cEapiPool] at hl
  obtain ⟨v0, v1, v2, v3, rfl⟩ := len4 hl
  have f0 : DataW.trod enc Tryz.prog w base (fun _ => true) held n 2 (([v0, v1, v2, v3].drop 0).take (Tryz.prog.cellsOf 2)) = ys[0]? := hf 0 _ rfl
  have f1 : DataW.trod enc Tryz.prog w base (fun _ => true) held n 105 (([v0, v1, v2, v3].drop 1).take (Tryz.prog.cellsOf 105)) = ys[1]? := hf 1 _ rfl
  have f2 : DataW.trod enc Tryz.prog w base (fun _ => true) held n 106 (([v0, v1, v2, v3].drop 3).take (Tryz.prog.cellsOf 106)) = ys[2]? := hf 2 _ rfl
  simp only [cE2int64, cEint64, cEs2int64, List.drop_zero, List.drop_succ_cons, List.take_succ_cons, List.take_zero] at f0 f1 f2
  have hbk : Rows.uptoBulkAll (ys.map (·.1)) + 1 ≤ 1048576 := hb
  have hy : ∀ i, i < 3 → ∃ y, ys[i]? = some y ∧ Rows.uptoBulk y.1 ≤ Rows.uptoBulkAll (ys.map (·.1)) := fun i hi => ⟨ys[i]'(by rw [hlen]; exact hi), List.getElem?_eq_getElem _, Blk.part_le (List.mem_map.2 ⟨_, List.getElem_mem _, rfl⟩)⟩
  obtain ⟨y0, e0, b0⟩ := hy 0 (by omega)
  rw [e0] at f0
  obtain ⟨z0, g0, _, w0⟩ := DataW.trod_int Tryz.underlying2 f0
  simp only [List.cons.injEq, and_true] at g0
  subst g0
  obtain ⟨y1, e1, b1⟩ := hy 1 (by omega)
  rw [e1] at f1
  obtain ⟨z1, g1, _, _⟩ := two_open f1 (by omega)
  simp only [linc, List.cons.injEq, and_true] at g1
  obtain ⟨rfl, rfl⟩ := g1
  obtain ⟨y2, e2, b2⟩ := hy 2 (by omega)
  rw [e2] at f2
  obtain ⟨z2, rfl, k2, V2, m2, l2⟩ := helds_in f2 (by omega)
  have htop : Rows.uptoBulk (DataW.agg (ys.map (·.1))) = Rows.uptoBulkAll (ys.map (·.1)) + 1 := rfl
  exact ⟨⟨z0, z1.c, z1.n, z2.p, z2.n, z2.c, z2.xs⟩, rfl, ⟨⟨k2.len, k2.cel⟩, k2.most, V2⟩, Nat.zero_le _⟩
theorem pools_in {fuel : Nat} {v : Value} {x : DataW H × List MemPlace} (h : DataW.trod enc Tryz.prog w base (fun _ => true) held fuel 46 [v] = some x) (hb : Rows.uptoBulk x.1 ≤ 1048576) : ∃ s : Sli Pl, v = .slice s.p s.n s.c ∧ SlOk w 4 plc s ∧ (∀ a ∈ s.xs, (PlIn w) a) ∧ (s.xs.map (fun _ => 0)).sum ≤ Rows.uptoBulk x.1 ∧ s.xs.length ≤ Rows.uptoBulk x.1 :=
  @slice_in H enc w base held Pl ⟨pl0⟩ _ _ _ _ Tryz.underlying46 cEapiPool (by omega) (fun _ => rfl) (V := (PlIn w)) (g := (fun _ => 0)) (fun _ _ _ h hb => pool_open h hb) fuel v x h hb
/-- A state that came in. -/
structure StIn (w : World) (s : Sta) : Prop where
  ok : StaOk w s
  small : StaSmall s
  pn : s.pn ≤ 4194304
  hl : ∀ p ∈ s.pools, p.hl ≤ 4194304
  wf : StaWf s
theorem state_open {fuel : Nat} {cs : List Value} {x : DataW H × List MemPlace} (h : DataW.trod enc Tryz.prog w base (fun _ => true) held fuel 51 cs = some x) (hb : Rows.uptoBulk x.1 ≤ 1048576) : ∃ a : Sta, cs = a.arr.toList ∧ StIn w a ∧ 0 ≤ Rows.uptoBulk x.1 := by
  obtain ⟨ys, n, _, rfl, hl, hlen, hf⟩ := DataW.trod_struct Tryz.underlying51 h
  rw [cEapiState] at hl
  obtain ⟨v0, v1, v2, v3, v4, v5, rfl⟩ := len6 hl
  have f0 : DataW.trod enc Tryz.prog w base (fun _ => true) held n 45 (([v0, v1, v2, v3, v4, v5].drop 0).take (Tryz.prog.cellsOf 45)) = ys[0]? := hf 0 _ rfl
  have f1 : DataW.trod enc Tryz.prog w base (fun _ => true) held n 46 (([v0, v1, v2, v3, v4, v5].drop 1).take (Tryz.prog.cellsOf 46)) = ys[1]? := hf 1 _ rfl
  have f2 : DataW.trod enc Tryz.prog w base (fun _ => true) held n 47 (([v0, v1, v2, v3, v4, v5].drop 2).take (Tryz.prog.cellsOf 47)) = ys[2]? := hf 2 _ rfl
  have f3 : DataW.trod enc Tryz.prog w base (fun _ => true) held n 48 (([v0, v1, v2, v3, v4, v5].drop 3).take (Tryz.prog.cellsOf 48)) = ys[3]? := hf 3 _ rfl
  have f4 : DataW.trod enc Tryz.prog w base (fun _ => true) held n 48 (([v0, v1, v2, v3, v4, v5].drop 4).take (Tryz.prog.cellsOf 48)) = ys[4]? := hf 4 _ rfl
  have f5 : DataW.trod enc Tryz.prog w base (fun _ => true) held n 49 (([v0, v1, v2, v3, v4, v5].drop 5).take (Tryz.prog.cellsOf 49)) = ys[5]? := hf 5 _ rfl
  simp only [cEsapiPool, cEsapiPriced, cEsbool, cEsuint64, cEuint64, List.drop_zero, List.drop_succ_cons, List.take_succ_cons, List.take_zero] at f0 f1 f2 f3 f4 f5
  have hbk : Rows.uptoBulkAll (ys.map (·.1)) + 1 ≤ 1048576 := hb
  have hy : ∀ i, i < 6 → ∃ y, ys[i]? = some y ∧ Rows.uptoBulk y.1 ≤ Rows.uptoBulkAll (ys.map (·.1)) := fun i hi => ⟨ys[i]'(by rw [hlen]; exact hi), List.getElem?_eq_getElem _, Blk.part_le (List.mem_map.2 ⟨_, List.getElem_mem _, rfl⟩)⟩
  obtain ⟨y0, e0, b0⟩ := hy 0 (by omega)
  rw [e0] at f0
  obtain ⟨z0, g0, _, w0⟩ := DataW.trod_int Tryz.underlying45 f0
  simp only [List.cons.injEq, and_true] at g0
  subst g0
  obtain ⟨y1, e1, b1⟩ := hy 1 (by omega)
  rw [e1] at f1
  obtain ⟨z1, rfl, k1, V1, m1, l1⟩ := pools_in f1 (by omega)
  obtain ⟨y2, e2, b2⟩ := hy 2 (by omega)
  rw [e2] at f2
  obtain ⟨z2, rfl, k2, V2, m2, l2⟩ := prices_in f2 (by omega)
  obtain ⟨y3, e3, b3⟩ := hy 3 (by omega)
  rw [e3] at f3
  obtain ⟨z3, rfl, k3, V3, m3, l3⟩ := u64s_in f3 (by omega)
  obtain ⟨y4, e4, b4⟩ := hy 4 (by omega)
  rw [e4] at f4
  obtain ⟨z4, rfl, k4, V4, m4, l4⟩ := u64s_in f4 (by omega)
  obtain ⟨y5, e5, b5⟩ := hy 5 (by omega)
  rw [e5] at f5
  obtain ⟨z5, rfl, k5, V5, m5, l5⟩ := bools_in f5 (by omega)
  have htop : Rows.uptoBulk (DataW.agg (ys.map (·.1))) = Rows.uptoBulkAll (ys.map (·.1)) + 1 := rfl
  exact ⟨⟨z0, z1.p, z1.n, z1.c, z2.p, z2.n, z2.c, z3.p, z3.n, z3.c, z4.p, z4.n, z4.c, z5.p, z5.n, z5.c, z1.xs, z2.xs, z3.xs, z4.xs, z5.xs⟩, rfl, ⟨⟨k1.len, k1.cel, fun x hx => (V1 x hx).ok, k2.len, k2.cel, k3.len, k3.cel, k4.len, k4.cel, k5.len, k5.cel⟩, ⟨Nat.le_trans k1.most (by omega), Nat.le_trans k2.most (by omega), Nat.le_trans k3.most (by omega), Nat.le_trans k4.most (by omega), Nat.le_trans k5.most (by omega), fun x hx => Nat.le_trans (V1 x hx).most (by omega)⟩, k1.most, fun x hx => (V1 x hx).most, fun x hx => (V1 x hx).wf⟩, Nat.zero_le _⟩
/-- A RawAsk as data. -/
structure Rka where
  s : Sta
  a : Sli Acd
  t : Int
  m : Sli Lin
def Rka.list (x : Rka) : List Value := [.int .u64 x.s.pos, .slice x.s.pp x.s.pn x.s.pc, .slice x.s.rp x.s.rn x.s.rc, .slice x.s.lp x.s.ln x.s.lc, .slice x.s.gp x.s.gn x.s.gc, .slice x.s.op x.s.on x.s.oc, .slice x.a.p x.a.n x.a.c, .int .i64 x.t, .slice x.m.p x.m.n x.m.c]
def Rka.arr (x : Rka) : Array Value := #[.int .u64 x.s.pos, .slice x.s.pp x.s.pn x.s.pc, .slice x.s.rp x.s.rn x.s.rc, .slice x.s.lp x.s.ln x.s.lc, .slice x.s.gp x.s.gn x.s.gc, .slice x.s.op x.s.on x.s.oc, .slice x.a.p x.a.n x.a.c, .int .i64 x.t, .slice x.m.p x.m.n x.m.c]
structure RkIn (w : World) (x : Rka) : Prop where
  st : StIn w x.s
  acts : SlOk w 15 Acd.list x.a
  each : ∀ y ∈ x.a.xs, AcdIn w y
  lines : SlOk w 2 linc x.m
  wf : ∀ y ∈ x.m.xs, LinWf y
  till : (Lit.int .i64 x.t).wf = true
set_option maxRecDepth 100000 in
theorem ask_open {fuel : Nat} {cs : List Value} {x : DataW H × List MemPlace} (h : DataW.trod enc Tryz.prog w base (fun _ => true) held fuel 55 cs = some x) (hb : Rows.uptoBulk x.1 ≤ 1048576) : ∃ a : Rka, cs = a.list ∧ RkIn w a ∧ 0 ≤ Rows.uptoBulk x.1 := by
  obtain ⟨ys, n, _, rfl, hl, hlen, hf⟩ := DataW.trod_struct Tryz.underlying55 h
  rw [cEtilllaw12RawAsk] at hl
  obtain ⟨v0, v1, v2, v3, v4, v5, v6, v7, v8, rfl⟩ := len9 hl
  have f0 : DataW.trod enc Tryz.prog w base (fun _ => true) held n 51 (([v0, v1, v2, v3, v4, v5, v6, v7, v8].drop 0).take (Tryz.prog.cellsOf 51)) = ys[0]? := hf 0 _ rfl
  have f1 : DataW.trod enc Tryz.prog w base (fun _ => true) held n 52 (([v0, v1, v2, v3, v4, v5, v6, v7, v8].drop 6).take (Tryz.prog.cellsOf 52)) = ys[1]? := hf 1 _ rfl
  have f2 : DataW.trod enc Tryz.prog w base (fun _ => true) held n 3 (([v0, v1, v2, v3, v4, v5, v6, v7, v8].drop 7).take (Tryz.prog.cellsOf 3)) = ys[2]? := hf 2 _ rfl
  have f3 : DataW.trod enc Tryz.prog w base (fun _ => true) held n 53 (([v0, v1, v2, v3, v4, v5, v6, v7, v8].drop 8).take (Tryz.prog.cellsOf 53)) = ys[3]? := hf 3 _ rfl
  simp only [cEapiState, cEint, cEsapiAct, cEsapiLine, List.drop_zero, List.drop_succ_cons, List.take_succ_cons, List.take_zero] at f0 f1 f2 f3
  have hbk : Rows.uptoBulkAll (ys.map (·.1)) + 1 ≤ 1048576 := hb
  have hy : ∀ i, i < 4 → ∃ y, ys[i]? = some y ∧ Rows.uptoBulk y.1 ≤ Rows.uptoBulkAll (ys.map (·.1)) := fun i hi => ⟨ys[i]'(by rw [hlen]; exact hi), List.getElem?_eq_getElem _, Blk.part_le (List.mem_map.2 ⟨_, List.getElem_mem _, rfl⟩)⟩
  obtain ⟨y0, e0, b0⟩ := hy 0 (by omega)
  rw [e0] at f0
  obtain ⟨z0, g0, V0, _⟩ := state_open f0 (by omega)
  simp only [Sta.arr, List.cons.injEq, and_true] at g0
  obtain ⟨rfl, rfl, rfl, rfl, rfl, rfl⟩ := g0
  obtain ⟨y1, e1, b1⟩ := hy 1 (by omega)
  rw [e1] at f1
  obtain ⟨z1, rfl, k1, V1, m1, l1⟩ := acts_in f1 (by omega)
  obtain ⟨y2, e2, b2⟩ := hy 2 (by omega)
  rw [e2] at f2
  obtain ⟨z2, g2, _, w2⟩ := DataW.trod_int Tryz.underlying3 f2
  simp only [List.cons.injEq, and_true] at g2
  subst g2
  obtain ⟨y3, e3, b3⟩ := hy 3 (by omega)
  rw [e3] at f3
  obtain ⟨z3, rfl, k3, V3, m3, l3⟩ := lines_in f3 (by omega)
  have htop : Rows.uptoBulk (DataW.agg (ys.map (·.1))) = Rows.uptoBulkAll (ys.map (·.1)) + 1 := rfl
  exact ⟨⟨z0, z1, z2, z3⟩, rfl, ⟨V0, k1, V1, k3, V3, w2⟩, Nat.zero_le _⟩
theorem asks_in {fuel : Nat} {v : Value} {x : DataW H × List MemPlace} (h : DataW.trod enc Tryz.prog w base (fun _ => true) held fuel 22 [v] = some x) (hb : Rows.uptoBulk x.1 ≤ 1048576) : ∃ s : Sli Rka, v = .slice s.p s.n s.c ∧ SlOk w 9 Rka.list s ∧ (∀ a ∈ s.xs, (RkIn w) a) ∧ (s.xs.map (fun _ => 0)).sum ≤ Rows.uptoBulk x.1 ∧ s.xs.length ≤ Rows.uptoBulk x.1 :=
  @slice_in H enc w base held Rka ⟨⟨⟨0, none, 0, 0, none, 0, 0, none, 0, 0, none, 0, 0, none, 0, 0, [], [], [], [], []⟩, ⟨none, 0, 0, []⟩, 0, ⟨none, 0, 0, []⟩⟩⟩ _ _ _ _ Tryz.underlying22 cEtilllaw12RawAsk (by omega) (fun _ => rfl) (V := (RkIn w)) (g := (fun _ => 0)) (fun _ _ _ h hb => ask_open h hb) fuel v x h hb
end
end Go.Proofs.YtfdanocpbhbieaaGreat.Z
