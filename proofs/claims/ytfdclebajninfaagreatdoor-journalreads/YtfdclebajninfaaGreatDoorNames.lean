import Derived.Test.YtfdclebajninfaaGreatDoorFileE
import Derived.Test.YtfdclebajninfaaGreatDoorIter
namespace Go.Proofs.YtfdclebajninfaaGreatDoor
open Go.RowKit Go.Maps Go.Sort Go.Shelf Go.WideMaps
open Go.Proofs (encStr)

/-- How a file's pointer reads: by its block. -/
def fel : Value → Option (DataW Unit × List MemPlace)
  | .pointer (some ⟨b, 0, none⟩) => some (.lit (.int .i64 b), [])
  | .pointer none => some (.lit (.int .i64 (-1)), [])
  | _ => none
theorem fel_at (b : Nat) : fel (.pointer (some ⟨b, 0, none⟩)) = some (.lit (.int .i64 b), []) := rfl
theorem fel_inv {v : Value} {y : DataW Unit × List MemPlace} (h : fel v = some y) : (∃ b : Nat, v = .pointer (some ⟨b, 0, none⟩) ∧ y.1 = .lit (.int .i64 b)) ∨ (v = .pointer none ∧ y.1 = .lit (.int .i64 (-1))) := by
  unfold fel at h
  split at h
  · cases h; exact Or.inl ⟨_, rfl, rfl⟩
  · cases h; exact Or.inr ⟨rfl, rfl⟩
  · cases h
def toD (l : List (Nm × Nat)) : DataW Unit := .map (l.map fun p => (Lit.string p.1, .lit (.int .i64 p.2)))
theorem toD_ins (x : Nm × Nat) : ∀ l : List (Nm × Nat), DataW.insert (Lit.string x.1, (.lit (.int .i64 x.2) : DataW Unit)) (l.map fun p => (Lit.string p.1, .lit (.int .i64 p.2))) = (insN x l).map fun p => (Lit.string p.1, .lit (.int .i64 p.2))
  | [] => rfl
  | y :: r => by
    have ih := toD_ins x r
    by_cases hb : bytesBefore x.1 y.1 = true
    · simp [DataW.insert, insN, Lit.before, hb]
    · simp [DataW.insert, insN, Lit.before, hb, ih]
theorem toD_del (k : Nm) (l : List (Nm × Nat)) : (toD l).del (.string k) = toD (delN k l) := by
  show DataW.map _ = DataW.map _
  unfold delN
  rw [List.filter_map]
  rfl
theorem toD_put (k : Nm) (v : Nat) (l : List (Nm × Nat)) : (toD l).put (.string k) (.lit (.int .i64 v)) = toD (putN k v l) := by
  have h := toD_del k l
  have h' : List.filter (fun p : Lit × DataW Unit => !p.1.sameKey (Lit.string k)) (l.map fun p => (Lit.string p.1, .lit (.int .i64 p.2))) = (delN k l).map fun p => (Lit.string p.1, .lit (.int .i64 p.2)) := DataW.map.inj h
  show DataW.map (DataW.insert _ _) = DataW.map _
  rw [h']
  exact congrArg DataW.map (toD_ins (k, v) _)
theorem toD_at (k : Nm) (l : List (Nm × Nat)) (z : DataW Unit) : (toD l).atKey (.string k) z = match lookN l k with | some b => .lit (.int .i64 b) | none => z := by
  unfold toD DataW.atKey lookN
  simp only [List.find?_map]
  have : ((fun p : Lit × DataW Unit => p.1.sameKey (Lit.string k)) ∘ fun p : Nm × Nat => (Lit.string p.1, (.lit (.int .i64 p.2) : DataW Unit))) = fun p : Nm × Nat => p.1 == k := by
    funext p; rfl
  rw [this]
  cases l.find? (fun p => p.1 == k) <;> rfl
theorem toD_size (l : List (Nm × Nat)) : Maps.size (toD l) = l.length := by simp [toD, Maps.size]
theorem toD_keys (l : List (Nm × Nat)) : strKeys (toD l) = l.map (·.1) := by simp [toD, strKeys, strOf, Function.comp_def]

theorem kS : Keyed Tryz.prog 9 := string_keyed Tryz.underlying9
theorem zF (w : World) : (zeroValue 72).run Tryz.prog w = .ok (.pointer none) w := by kernel_rfl
theorem key_of (x : Nm) (h : x.length ≤ maxLen) : keyOf Tryz.prog 9 (.string ⟨x.toArray⟩) = some (.string x) := by
  have := keyOf_string_mk (P := Tryz.prog) Tryz.underlying9 (s := ⟨x.toArray⟩) (by simpa [ByteArray.size] using h)
  simpa using this

/-- A names value: nil, or a map. -/
def Mp (w : World) (v : Value) (l : List (Nm × Nat)) : Prop := (v = .map none ∧ l = []) ∨ ∃ b, v = .map (some b) ∧ w.ownsMap Tryz.prog 9 fel b l.length (toD l)
def mblk : Value → Option Nat
  | .map o => o
  | _ => none
theorem owns_tight {w : World} {b n : Nat} {l : List (Nm × Nat)} (h : w.ownsMap Tryz.prog 9 fel b n (toD l)) : w.ownsMap Tryz.prog 9 fel b l.length (toD l) := by
  obtain ⟨es, clock, hb, F, hs, hD⟩ := h
  refine ⟨es, clock, hb, F, ?_, hD⟩
  have : Maps.size (toD l) = es.size := by rw [hD]; simp [Maps.size, length_sorted]
  rw [toD_size] at this
  omega
theorem Mp.same {w w' : World} {v : Value} {l : List (Nm × Nat)} (h : Mp w v l) (hs : ∀ b, mblk v = some b → w'.heap[b]? = w.heap[b]?) : Mp w' v l := by
  refine h.imp id ?_
  rintro ⟨b, e, es, clock, hb, r⟩
  exact ⟨b, e, es, clock, (hs b (by rw [e]; rfl)).trans hb, r⟩
theorem Mp.lt {w : World} {v : Value} {l : List (Nm × Nat)} (h : Mp w v l) {b : Nat} (e : mblk v = some b) : b < w.heap.size := by
  rcases h with ⟨h, _⟩ | ⟨b', h, ho⟩
  · rw [h] at e; simp [mblk] at e
  · rw [h] at e; simp [mblk] at e; subst e; exact ho.lt
/-- A map lies in no block of cells. -/
theorem Mp.ne {w : World} {v : Value} {l : List (Nm × Nat)} (h : Mp w v l) {k : Nat} {C : Array Value} {t : TypeId} {fr : Nat × Nat} (hk : w.heap[k]? = some (.cells C t fr)) : some k ≠ mblk v := by
  intro e
  rcases h with ⟨h, _⟩ | ⟨b', h, es, clock, hb, _⟩
  · rw [h] at e; simp [mblk] at e
  · rw [h] at e; simp [mblk] at e; subst e; rw [hb] at hk; cases hk

/-- What 'with' is given: the third cell is a file, where it counts. -/
def chp (c : Chg) : Value := .pointer (if c.to = [] then none else some ⟨c.file, 0, none⟩)
def LiesM (w : World) (v v' : Value) : Prop := mblk v' = mblk v ∨ ∃ g, mblk v' = some g ∧ w.heap.size ≤ g

set_option maxRecDepth 100000 in
set_option maxHeartbeats 1000000 in
theorem with_map (w : World) (b : Nat) (l : List (Nm × Nat)) (c : Chg) (fp : Value) (hfp : c.to ≠ [] → fp = .pointer (some ⟨c.file, 0, none⟩)) (ho : w.ownsMap Tryz.prog 9 fel b l.length (toD l)) (h1 : c.frm.length ≤ maxLen) (h2 : c.to.length ≤ maxLen) (hl : l.length < maxLen) (hv : ∃ p, fp = .pointer p) :
    Calls Tryz.prog 46 #[.map (some b), .agg #[.string ⟨c.frm.toArray⟩, .string ⟨c.to.toArray⟩, fp]] w fun e w' => e = .returned (.map (some b)) ∧ w'.ownsMap Tryz.prog 9 fel b (withN l c).length (toD (withN l c)) ∧ w.grownBy w' (some b) := by
  obtain ⟨p, rfl⟩ := hv
  have hq := fun w => run_eql_map_nil_sl (P := Tryz.prog) w 89 _ _ (some b) Tryz.underlying89
  have hbl := ho.lt
  have HO := hide (ho.alloc (.cells #[.string ⟨c.frm.toArray⟩, .string ⟨c.to.toArray⟩, .pointer p] 75))
  have HK1 := hide (key_of c.frm h1)
  have HK2 := hide (key_of c.to h2)
  have hne : b ≠ w.heap.size := by omega
  have HF := hide hfp
  have HL := hide hl
  clear ho hfp hl h1 h2
  obtain ⟨frm, to, file⟩ := c
  simp only at *
  by_cases hto : to = []
  · subst hto
    go_enter Tryz.func46, Tryz.ntmps46
    go_wp2_with (first
      | (at_delete; refine wpList_delete_own _ rfl _ _ 89 9 rfl 72 kS Tryz.underlying89 fel b _ _ rfl HO.out _ _ rfl HK1.out ?_; intro w1 hown1 hturn1; have HG1 := hide hturn1.grown; have HB1 : Hid (w1.heap[w.heap.size]? = some (.cells #[.string ⟨frm.toArray⟩, .string ⟨([] : Nm).toArray⟩, .pointer p] 75 (0, 0))) := (hturn1.grown.block w.heap.size (by simp) (by simp; omega)).trans (heap_alloc_new _ _); obtain ⟨z0, z1, z2, zf⟩ := blk3 HB1.out; have HO1 := hide hown1; clear hown1 hturn1)
      | go_in)
    go_wp2
    go_ret
    refine ⟨rfl, ?_, (World.grownBy_alloc w _ (some b)).andThen HG1.out (fun j hj => Or.inr hj)⟩
    rw [toD_del] at HO1
    exact owns_tight HO1.out
  · obtain ⟨x, r, rfl⟩ : ∃ x r, to = x :: r := by
      cases to with
      | nil => exact absurd rfl hto
      | cons x r => exact ⟨x, r, rfl⟩
    have e := HF.out hto
    cases e
    have hdec : (⟨(x :: r).toArray⟩ : ByteArray).toList.isEmpty = false := by rw [ByteArray.toList_eq]; rfl
    have HD : Hid (Maps.size ((toD l).del (.string frm)) ≤ l.length) := by
      show _ ≤ _
      rw [toD_del, toD_size]; exact len_del _ _
    generalize hS : (⟨(x :: r).toArray⟩ : ByteArray) = S at *
    go_enter Tryz.func46, Tryz.ntmps46
    go_wp2_with (first
      | (at_delete; refine wpList_delete_own _ rfl _ _ 89 9 rfl 72 kS Tryz.underlying89 fel b _ _ rfl HO.out _ _ rfl HK1.out ?_; intro w1 hown1 hturn1; have HG1 := hide hturn1.grown; have HB1 : Hid (w1.heap[w.heap.size]? = some (.cells #[.string ⟨frm.toArray⟩, .string S, .pointer (some ⟨file, 0, none⟩)] 75 (0, 0))) := (hturn1.grown.block w.heap.size (by simp) (by simp; omega)).trans (heap_alloc_new _ _); obtain ⟨z0, z1, z2, zf⟩ := blk3 HB1.out; have HO1 := hide hown1; clear hown1 hturn1)
      | (at_mapUpdate; refine wpList_mapUpdate_own _ rfl _ _ _ 89 rfl 9 72 kS Tryz.underlying89 fel b _ _ rfl HO1.out HL.out _ _ _ rfl rfl HK2.out _ [] (fel_at file) ?_; intro w2 hown2 hgrow2)
      | go_in)
    go_wp2
    go_ret
    refine ⟨rfl, ?_, ((World.grownBy_alloc w _ (some b)).andThen HG1.out (fun j hj => Or.inr hj)).andThen hgrow2 (fun j hj => Or.inr hj)⟩
    rw [toD_del, toD_put] at hown2
    unfold withN
    rw [if_neg hto]
    exact owns_tight hown2

theorem delN_nil (k : Nm) : delN k [] = [] := rfl

set_option maxRecDepth 100000 in
set_option maxHeartbeats 1000000 in
theorem with_nil (w : World) (c : Chg) (fp : Value) (hfp : c.to ≠ [] → fp = .pointer (some ⟨c.file, 0, none⟩)) (h1 : c.frm.length ≤ maxLen) (h2 : c.to.length ≤ maxLen) (hv : ∃ p, fp = .pointer p) :
    Calls Tryz.prog 46 #[.map none, .agg #[.string ⟨c.frm.toArray⟩, .string ⟨c.to.toArray⟩, fp]] w fun e w' => ∃ b, e = .returned (.map (some b)) ∧ w'.ownsMap Tryz.prog 9 fel b (withN [] c).length (toD (withN [] c)) ∧ Below w.heap.size w w' ∧ w.heap.size ≤ b := by
  obtain ⟨p, rfl⟩ := hv
  have hq := fun w => run_eql_map_nil_sl (P := Tryz.prog) w 89 _ _ none Tryz.underlying89
  have hmm := @run_makeMap Tryz.prog
  have HK1 := hide (key_of c.frm h1)
  have HK2 := hide (key_of c.to h2)
  have HF := hide hfp
  clear hfp h1 h2
  obtain ⟨frm, to, file⟩ := c
  simp only at *
  by_cases hto : to = []
  · subst hto
    have HO : Hid (((w.alloc (.cells #[.string ⟨frm.toArray⟩, .string ⟨#[]⟩, .pointer p] 75)).alloc (.map #[] 0)).ownsMap Tryz.prog 9 fel (w.heap.size + 1) 0 (toD [])) := by
      have := World.ownsMap_made (w.alloc (.cells #[.string ⟨frm.toArray⟩, .string ⟨#[]⟩, .pointer p] 75)) Tryz.prog 9 fel
      rw [show (w.alloc (.cells #[.string ⟨frm.toArray⟩, .string ⟨#[]⟩, .pointer p] 75)).heap.size = w.heap.size + 1 by simp] at this
      exact this
    go_enter Tryz.func46, Tryz.ntmps46
    go_wp2_with (first
      | (at_delete; refine wpList_delete_own _ rfl _ _ 89 9 rfl 72 kS Tryz.underlying89 fel (w.heap.size + 1) _ _ rfl HO.out _ _ rfl HK1.out ?_; intro w1 hown1 hturn1; have HG1 := hide hturn1.grown; have HB1 : Hid (w1.heap[w.heap.size]? = some (.cells #[.string ⟨frm.toArray⟩, .string ⟨([] : Nm).toArray⟩, .pointer p] 75 (0, 0))) := (hturn1.grown.block w.heap.size (by simp; omega) (by simp)).trans ((Below.heap_alloc _ _ _ (by simp)).trans (heap_alloc_new _ _)); obtain ⟨z0, z1, z2, zf⟩ := blk3 HB1.out; have HO1 := hide hown1; clear hown1 hturn1)
      | go_in)
    go_wp2
    go_ret
    refine ⟨_, rfl, ?_, (((Below.refl _ w).alloc (Nat.le_refl _) _).alloc (by simp) _).grown HG1.out (by simp; omega) (fun j hj => by cases hj; omega), by omega⟩
    rw [toD_del] at HO1
    exact owns_tight HO1.out
  · obtain ⟨x, r, rfl⟩ : ∃ x r, to = x :: r := by
      cases to with
      | nil => exact absurd rfl hto
      | cons x r => exact ⟨x, r, rfl⟩
    have e := HF.out hto
    cases e
    have hdec : (⟨(x :: r).toArray⟩ : ByteArray).toList.isEmpty = false := by rw [ByteArray.toList_eq]; rfl
    generalize hS : (⟨(x :: r).toArray⟩ : ByteArray) = S at *
    have HO : Hid (((w.alloc (.cells #[.string ⟨frm.toArray⟩, .string S, .pointer (some ⟨file, 0, none⟩)] 75)).alloc (.map #[] 0)).ownsMap Tryz.prog 9 fel (w.heap.size + 1) 0 (toD [])) := by
      have := World.ownsMap_made (w.alloc (.cells #[.string ⟨frm.toArray⟩, .string S, .pointer (some ⟨file, 0, none⟩)] 75)) Tryz.prog 9 fel
      rw [show (w.alloc (.cells #[.string ⟨frm.toArray⟩, .string S, .pointer (some ⟨file, 0, none⟩)] 75)).heap.size = w.heap.size + 1 by simp] at this
      exact this
    go_enter Tryz.func46, Tryz.ntmps46
    go_wp2_with (first
      | (at_delete; refine wpList_delete_own _ rfl _ _ 89 9 rfl 72 kS Tryz.underlying89 fel (w.heap.size + 1) _ _ rfl HO.out _ _ rfl HK1.out ?_; intro w1 hown1 hturn1; have HG1 := hide hturn1.grown; have HB1 : Hid (w1.heap[w.heap.size]? = some (.cells #[.string ⟨frm.toArray⟩, .string S, .pointer (some ⟨file, 0, none⟩)] 75 (0, 0))) := (hturn1.grown.block w.heap.size (by simp; omega) (by simp)).trans ((Below.heap_alloc _ _ _ (by simp)).trans (heap_alloc_new _ _)); obtain ⟨z0, z1, z2, zf⟩ := blk3 HB1.out; have HO1 := hide hown1; clear hown1 hturn1)
      | (at_mapUpdate; refine wpList_mapUpdate_own _ rfl _ _ _ 89 rfl 9 72 kS Tryz.underlying89 fel (w.heap.size + 1) _ _ rfl HO1.out (by unfold maxLen; omega) _ _ _ rfl rfl HK2.out _ [] (fel_at file) ?_; intro w2 hown2 hgrow2)
      | go_in)
    go_wp2
    go_ret
    refine ⟨_, rfl, ?_, ((((Below.refl _ w).alloc (Nat.le_refl _) _).alloc (by simp) _).grown HG1.out (by simp; omega) (fun j hj => by cases hj; omega)).grown hgrow2 (by have := HG1.out.size; simp at this; omega) (fun j hj => by cases hj; omega), by omega⟩
    rw [toD_del, toD_put] at hown2
    unfold withN
    rw [if_neg hto]
    exact owns_tight hown2

theorem with_any (w : World) (v : Value) (l : List (Nm × Nat)) (c : Chg) (fp : Value) (hfp : c.to ≠ [] → fp = .pointer (some ⟨c.file, 0, none⟩)) (ho : Mp w v l) (h1 : c.frm.length ≤ 64) (h2 : c.to.length ≤ 64) (hl : l.length < 1099511627776) (hv : ∃ p, fp = .pointer p) :
    Calls Tryz.prog 46 #[v, .agg #[.string ⟨c.frm.toArray⟩, .string ⟨c.to.toArray⟩, fp]] w fun e w' => ∃ b, e = .returned (.map (some b)) ∧ Mp w' (.map (some b)) (withN l c) ∧ w.grownBy w' (mblk v) ∧ (some b = mblk v ∨ w.heap.size ≤ b) := by
  rcases ho with ⟨rfl, rfl⟩ | ⟨b, rfl, ho⟩
  · refine (with_nil w c fp hfp (by unfold maxLen; omega) (by unfold maxLen; omega) hv).mono ?_
    rintro e w' ⟨b, rfl, h, hb, hle⟩
    exact ⟨b, rfl, Or.inr ⟨b, rfl, h⟩, ⟨hb.os, hb.tape, hb.output, hb.size, fun k hk _ => hb.block k hk⟩, Or.inr hle⟩
  · refine (with_map w b l c fp hfp ho (by unfold maxLen; omega) (by unfold maxLen; omega) (by unfold maxLen; omega) hv).mono ?_
    rintro e w' ⟨rfl, h, hg⟩
    exact ⟨b, rfl, Or.inr ⟨b, rfl, h⟩, hg, Or.inl rfl⟩

end Go.Proofs.YtfdclebajninfaaGreatDoor
