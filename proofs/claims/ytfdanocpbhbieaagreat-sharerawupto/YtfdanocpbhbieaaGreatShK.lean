import Derived.Test.YtfdanocpbhbieaaGreatNdU
import Derived.Maps.RangeWalk
import Derived.Handy
namespace Go.Proofs.YtfdanocpbhbieaaGreat.Sk
open Go.RowKit Go.Shelf
attribute [local go_sem] Oper.semAt_some

theorem kind_struct : (match Tryz.prog.underlying 93 with | some (.array _ _) | some (.struct _) => true | _ => false) = true := by kernel_rfl
theorem kind_row : 93 < Tryz.prog.types.size := of_decide_eq_true (by kernel_rfl)
theorem kind_keys : Tryz.prog.keyTypeAt 2 93 = true := by kernel_rfl
set_option maxRecDepth 100000 in
theorem kind_law : WideMaps.KeyLaw Tryz.prog 93 := deep_law_laid laid_out (m := 2) (Nat.le_of_ble_eq_true rfl) kind_row kind_keys kind_struct
theorem kind_keyed : Maps.Keyed Tryz.prog 93 := Maps.Keyed.of_law kind_law
theorem kind_type : Tryz.prog.keyType 93 = true := by kernel_rfl
theorem kind_cells : Tryz.prog.cellsOf 93 = 2 := by kernel_rfl
theorem kind_mk (x : K64) : keyOf Tryz.prog 93 (kv x.1) = some (klit x.1) := key_mk Tryz.underlying3 Tryz.underlying93 kind_cells int_cells ⟨rfl, rfl, rfl⟩ ⟨rfl, rfl, rfl⟩ kind_type kind_row x
theorem kind_inv {v : Value} {l : Lit} (h : keyOf Tryz.prog 93 v = some l) : ∃ x : K64, v = kv x.1 ∧ l = klit x.1 := key_inv Tryz.underlying3 Tryz.underlying93 kind_cells int_cells ⟨rfl, rfl, rfl⟩ ⟨rfl, rfl, rfl⟩ kind_row h
theorem kinj : KInj := fun x y e => by
  have h1 := kind_mk x
  have h2 := kind_mk y
  rw [e] at h1
  exact Subtype.ext (kv_inj (kind_keyed.inj h1 h2))
theorem sb_grown (w : World) (b : Nat) (o : Obj) : w.grownBy (ChangeMaps.setBlock w b o) (some b) := ⟨rfl, rfl, rfl, by simp [ChangeMaps.setBlock], fun i _ hne => by simp only [ChangeMaps.setBlock]; rw [Array.getElem?_setIfInBounds, if_neg (fun e => hne (by rw [e]))]⟩
/-- 'm[k] += n': the entry, and the store behind it. -/
theorem owns_entry {H : Type} {w : World} {b n : Nat} {D : DataW H} (hown : w.ownsMap Tryz.prog 93 (plainElem (H := H) Tryz.prog 2) b n D) (hn : n < maxLen) (x : K64) :
    ∃ (v0 : Value) (st : Nat) (w1 : World), w.grownBy w1 (some b) ∧ (Instr.mapEntry 90 (.map (some b)) (kv x.1)).run Tryz.prog w = .ok (.tuple #[v0, .int .i64 st]) w1 ∧
      ∀ c : Int, (Lit.int .i64 c).wf = true → ∃ w2, (Instr.entryStore 90 (.map (some b)) (.int .i64 st) (.int .i64 c)).run Tryz.prog w1 = .ok () w2 ∧ w2.ownsMap Tryz.prog 93 (plainElem (H := H) Tryz.prog 2) b (n + 1) (D.put (klit x.1) (.lit (.int .i64 c))) ∧ w.grownBy w2 (some b) := by
  have hown' := hown
  obtain ⟨es, clock, hb, F, hs, rfl⟩ := hown
  obtain ⟨v0, st, es1, clock1, hrun, _, hst⟩ := WideElems.entry_then_store kind_law Tryz.underlying90 (z := .int .i64 0) (fun u => Tryz.zeroValue2 u) hb F (kind_mk x)
  refine ⟨v0, st, _, sb_grown _ _ _, hrun, fun c hc => ?_⟩
  obtain ⟨es', clock', hstore, hupd⟩ := hst _ (.int .i64 c) (ChangeMaps.heap_setBlock_same hb _)
  obtain ⟨w', hup, ho, hg⟩ := hown'.update kind_keyed Tryz.underlying90 hn (kind_mk x) (plainElem_int (H := H) Tryz.underlying2 hc)
  rw [hupd] at hup
  simp only [Result.ok.injEq, true_and] at hup
  subst hup
  rw [setBlock_twice] at hstore
  exact ⟨_, hstore, ho, hg⟩
/-- What is looked up where the entry is made first. -/
theorem owns_entry_look {H : Type} {w w1 : World} {b n : Nat} {D : DataW H} (hown : w.ownsMap Tryz.prog 93 (plainElem (H := H) Tryz.prog 2) b n D) (hn : n < maxLen) (x : K64) {c : Int} {t : Value}
    (hl : (Instr.lookup 90 (.map (some b)) (kv x.1) false).run Tryz.prog w = .ok (.int .i64 c) w) (he : (Instr.mapEntry 90 (.map (some b)) (kv x.1)).run Tryz.prog w = .ok t w1) :
    (Instr.lookup 90 (.map (some b)) (kv x.1) false).run Tryz.prog w1 = .ok (.int .i64 c) w1 := by
  have hown' := hown
  have hkey := kind_mk x
  have hz := fun u => Tryz.zeroValue2 u
  obtain ⟨es, clock, hb, F, hs, rfl⟩ := hown
  rcases kind_law.find w hkey es.toList F.keys with ⟨h1, h2⟩ | ⟨j, e0, h1, h2, h3⟩
  · have r1 : (Instr.mapEntry 90 (.map (some b)) (kv x.1)).run Tryz.prog w = .ok (.tuple #[.int .i64 0, goInt clock]) (ChangeMaps.setBlock w b (.map (es.push ⟨kv x.1, .int .i64 0, clock⟩) (clock + 1))) := by
      simp [Instr.mapEntry, run_underlying Tryz.underlying90, MapKept.run_getObj_map hb, kind_law.check w false hkey, h1, hz, MapKept.run_setObj_map _ hb, Result.andThen, ChangeMaps.setBlock]
    have r2 : (Instr.mapUpdate 90 (.map (some b)) (kv x.1) (.int .i64 0)).run Tryz.prog w = .ok () (ChangeMaps.setBlock w b (.map (es.push ⟨kv x.1, .int .i64 0, clock⟩) (clock + 1))) := by
      simp [Instr.mapUpdate, run_underlying Tryz.underlying90, MapKept.run_getObj_map hb, kind_law.check w false hkey, h1, MapKept.run_setObj_map _ hb, Result.andThen, ChangeMaps.setBlock]
    have r3 : (Instr.lookup 90 (.map (some b)) (kv x.1) false).run Tryz.prog w = .ok (.int .i64 0) w := by
      simp [Instr.lookup, run_underlying Tryz.underlying90, MapKept.run_getObj_map hb, kind_law.check w _ hkey, h1, hz, Result.andThen]
    rw [r3] at hl
    rw [r1] at he
    simp only [Result.ok.injEq, Value.int.injEq, true_and, and_true] at hl he
    obtain ⟨_, rfl⟩ := he
    obtain ⟨w', hup, ho, _⟩ := hown'.update kind_keyed Tryz.underlying90 hn hkey (plainElem_int (H := H) Tryz.underlying2 (a := 0) rfl)
    rw [r2] at hup
    simp only [Result.ok.injEq, true_and] at hup
    subst hup
    obtain ⟨c', hrun, hat, _⟩ := ho.lookup_int kind_keyed Tryz.underlying90 Tryz.underlying2 (Tryz.zeroValue2 _) hkey
    rw [Maps.atKey_put_same hown'.isMap (key_ok _)] at hat
    simp only [DataW.lit.injEq, Lit.int.injEq, true_and] at hat
    rw [hrun, ← hat, hl]
  · have hj : es[j]? = some e0 := by simpa using h2
    have hsame : es.modify j (fun e => { e with key := kv x.1 }) = es := by
      apply Array.ext'
      rw [Array.toList_modify, ChangeMaps.modify_eq_set _ _ _ _ h2]
      have : ({ e0 with key := kv x.1 } : MapEntry) = e0 := by rw [← h3]
      rw [this]
      exact WideElems.set_self _ _ _ h2
    have r1 : (Instr.mapEntry 90 (.map (some b)) (kv x.1)).run Tryz.prog w = .ok (.tuple #[e0.val, goInt e0.born]) (ChangeMaps.setBlock w b (.map es clock)) := by
      simp [Instr.mapEntry, run_underlying Tryz.underlying90, MapKept.run_getObj_map hb, kind_law.check w false hkey, h1, hj, h3, kind_law.stays w hkey, hsame, MapKept.run_setObj_map _ hb, Result.andThen, ChangeMaps.setBlock]
    rw [r1, setBlock_self hb] at he
    simp only [Result.ok.injEq] at he
    obtain ⟨_, rfl⟩ := he
    exact hl
end Go.Proofs.YtfdanocpbhbieaaGreat.Sk
