import Derived.Test.YtajadmkacnfbgaaGreatNdL
import Derived.WideKeyEntry
namespace Go.Proofs.YtajadmkacnfbgaaGreat
open Go.RowKit Go.Shelf
attribute [local go_sem] Oper.semAt_some

theorem setBlock_twice (w : World) (b : Nat) (o o' : Obj) : ChangeMaps.setBlock (ChangeMaps.setBlock w b o) b o' = ChangeMaps.setBlock w b o' := by
  unfold ChangeMaps.setBlock
  have h : (w.heap.setIfInBounds b o).setIfInBounds b o' = w.heap.setIfInBounds b o' := by
    apply Array.ext_getElem?
    intro i
    rw [Array.getElem?_setIfInBounds, Array.getElem?_setIfInBounds, Array.getElem?_setIfInBounds]
    simp only [Array.size_setIfInBounds]
    split <;> rfl
  show ({ w with heap := (w.heap.setIfInBounds b o).setIfInBounds b o' } : World) = { w with heap := w.heap.setIfInBounds b o' }
  rw [h]

/-- 'm[k] += n': the entry, and the store behind it. -/
theorem owns_entry {H : Type} {w : World} {b n : Nat} {D : DataW H} (hown : w.ownsMap Tryz.prog 62 (plainElem (H := H) Tryz.prog 2) b n D) (hn : n < maxLen) (x : K64) :
    ∃ (v0 : Value) (st : Nat) (w1 : World), (Instr.mapEntry 57 (.map (some b)) (kv x.1)).run Tryz.prog w = .ok (.tuple #[v0, .int .i64 st]) w1 ∧
      ∀ c : Int, (Lit.int .i64 c).wf = true → ∃ w2, (Instr.entryStore 57 (.map (some b)) (.int .i64 st) (.int .i64 c)).run Tryz.prog w1 = .ok () w2 ∧ w2.ownsMap Tryz.prog 62 (plainElem (H := H) Tryz.prog 2) b (n + 1) (D.put (klit x.1) (.lit (.int .i64 c))) ∧ w.grownBy w2 (some b) := by
  have hown' := hown
  obtain ⟨es, clock, hb, F, hs, rfl⟩ := hown
  obtain ⟨v0, st, es1, clock1, hrun, _, hst⟩ := WideElems.entry_then_store kind_law Tryz.underlying57 (z := .int .i64 0) (fun u => Tryz.zeroValue2 u) hb F (kind_mk x)
  refine ⟨v0, st, _, hrun, fun c hc => ?_⟩
  obtain ⟨es', clock', hstore, hupd⟩ := hst _ (.int .i64 c) (ChangeMaps.heap_setBlock_same hb _)
  obtain ⟨w', hup, ho, hg⟩ := hown'.update kind_keyed Tryz.underlying57 hn (kind_mk x) (plainElem_int (H := H) Tryz.underlying2 hc)
  rw [hupd] at hup
  simp only [Result.ok.injEq, true_and] at hup
  subst hup
  rw [setBlock_twice] at hstore
  exact ⟨_, hstore, ho, hg⟩
theorem setBlock_self {w : World} {b : Nat} {o : Obj} (h : w.heap[b]? = some o) : ChangeMaps.setBlock w b o = w := by
  unfold ChangeMaps.setBlock
  have h' : w.heap.setIfInBounds b o = w.heap := by
    apply Array.ext_getElem?
    intro i
    rw [Array.getElem?_setIfInBounds]
    split
    · rename_i e; subst e; rw [if_pos (ac_lt h)]; exact h.symm
    · rfl
  rw [h']
/-- What is looked up where the entry is made first. -/
theorem owns_entry_look {H : Type} {w w1 : World} {b n : Nat} {D : DataW H} (hown : w.ownsMap Tryz.prog 62 (plainElem (H := H) Tryz.prog 2) b n D) (hn : n < maxLen) (x : K64) {c : Int} {t : Value}
    (hl : (Instr.lookup 57 (.map (some b)) (kv x.1) false).run Tryz.prog w = .ok (.int .i64 c) w) (he : (Instr.mapEntry 57 (.map (some b)) (kv x.1)).run Tryz.prog w = .ok t w1) :
    (Instr.lookup 57 (.map (some b)) (kv x.1) false).run Tryz.prog w1 = .ok (.int .i64 c) w1 := by
  have hown' := hown
  have hkey := kind_mk x
  have hz := fun u => Tryz.zeroValue2 u
  obtain ⟨es, clock, hb, F, hs, rfl⟩ := hown
  rcases kind_law.find w hkey es.toList F.keys with ⟨h1, h2⟩ | ⟨j, e0, h1, h2, h3⟩
  · have r1 : (Instr.mapEntry 57 (.map (some b)) (kv x.1)).run Tryz.prog w = .ok (.tuple #[.int .i64 0, goInt clock]) (ChangeMaps.setBlock w b (.map (es.push ⟨kv x.1, .int .i64 0, clock⟩) (clock + 1))) := by
      simp [Instr.mapEntry, run_underlying Tryz.underlying57, MapKept.run_getObj_map hb, kind_law.check w false hkey, h1, hz, MapKept.run_setObj_map _ hb, Result.andThen, ChangeMaps.setBlock]
    have r2 : (Instr.mapUpdate 57 (.map (some b)) (kv x.1) (.int .i64 0)).run Tryz.prog w = .ok () (ChangeMaps.setBlock w b (.map (es.push ⟨kv x.1, .int .i64 0, clock⟩) (clock + 1))) := by
      simp [Instr.mapUpdate, run_underlying Tryz.underlying57, MapKept.run_getObj_map hb, kind_law.check w false hkey, h1, MapKept.run_setObj_map _ hb, Result.andThen, ChangeMaps.setBlock]
    have r3 : (Instr.lookup 57 (.map (some b)) (kv x.1) false).run Tryz.prog w = .ok (.int .i64 0) w := by
      simp [Instr.lookup, run_underlying Tryz.underlying57, MapKept.run_getObj_map hb, kind_law.check w _ hkey, h1, hz, Result.andThen]
    rw [r3] at hl
    rw [r1] at he
    simp only [Result.ok.injEq, Value.int.injEq, true_and, and_true] at hl he
    obtain ⟨_, rfl⟩ := he
    obtain ⟨w', hup, ho, _⟩ := hown'.update kind_keyed Tryz.underlying57 hn hkey (plainElem_int (H := H) Tryz.underlying2 (a := 0) rfl)
    rw [r2] at hup
    simp only [Result.ok.injEq, true_and] at hup
    subst hup
    obtain ⟨c', hrun, hat, _⟩ := ho.lookup_int kind_keyed Tryz.underlying57 Tryz.underlying2 (Tryz.zeroValue2 _) hkey
    rw [Maps.atKey_put_same hown'.isMap (key_ok _)] at hat
    simp only [DataW.lit.injEq, Lit.int.injEq, true_and] at hat
    rw [hrun, ← hat, hl]
  · have hj : es[j]? = some e0 := by simpa using h2
    have hsame : es.modify j (fun e => { e with key := kv x.1 }) = es := by
      apply Array.ext'
      rw [Array.toList_modify, ChangeMaps.modify_eq_set _ _ _ _ h2]
      have : ({ e0 with key := kv x.1 } : MapEntry) = e0 := by rw [← h3]
      rw [this]
      exact WideElems.set_self _ _ _ h2
    have r1 : (Instr.mapEntry 57 (.map (some b)) (kv x.1)).run Tryz.prog w = .ok (.tuple #[e0.val, goInt e0.born]) (ChangeMaps.setBlock w b (.map es clock)) := by
      simp [Instr.mapEntry, run_underlying Tryz.underlying57, MapKept.run_getObj_map hb, kind_law.check w false hkey, h1, hj, h3, kind_law.stays w hkey, hsame, MapKept.run_setObj_map _ hb, Result.andThen, ChangeMaps.setBlock]
    rw [r1, setBlock_self hb] at he
    simp only [Result.ok.injEq] at he
    obtain ⟨_, rfl⟩ := he
    exact hl
end Go.Proofs.YtajadmkacnfbgaaGreat
