import Derived.Shelf.SlIter.Nil
import Derived.Shelf.SortM.Plain
import Derived.Shelf.SortM.SortNone
import Derived.Ground.GgzProg
import Derived.Ground.SlgmProg
import Derived.Test.YtlmfohcdaahojabGreatDoorProg
import Derived.Shelf.SlMaps.Clone
import Derived.Ground.SlmcProg
import Derived.Shelf.SlGeneric
import Derived.Test.YtlmfohcdaahojabGreatDoorFileE
namespace Go.Proofs
open Go.Shelf
def Tryz.keys52_ren : Go.Shelf.Ren := ⟨fun | 7 => 52 | 10 => 77 | n => n, fun | 23 => 81 | 26 => 9 | 3 => 86 | 28 => 118 | 0 => 0 | 27 => 117 | 33 => 112 | 4 => 4 | n => n, fun | n => n⟩
theorem Tryz.keys52 : Go.Proofs.SlLaysZ.n7 Tryz.prog Tryz.keys52_ren := {
  mixed := by kernel_rfl
  f7 := ⟨Tryz.f52.name, by decide, Tryz.func52.trans (congrArg some (by kernel_rfl))⟩
  f10 := ⟨Tryz.f77.name, by decide, Tryz.func77.trans (congrArg some (by kernel_rfl))⟩
  t0 := Tryz.underlying0
  a0 := Tryz.isAgg0
  z0 := Tryz.sizeOf0
  v0 := Tryz.zeroValue0
  t4 := Tryz.underlying4
  a4 := Tryz.isAgg4
  z4 := Tryz.sizeOf4
  v4 := Tryz.zeroValue4
  t23 := Tryz.underlying81
  a23 := Tryz.isAgg81
  z23 := Tryz.sizeOf81
  v23 := Tryz.zeroValue81
  t26 := Tryz.underlying9
  a26 := Tryz.isAgg9
  z26 := Tryz.sizeOf9
  v26 := Tryz.zeroValue9
  t27 := Tryz.underlying117
  a27 := Tryz.isAgg117
  z27 := Tryz.sizeOf117
  v27 := Tryz.zeroValue117
  t28 := Tryz.underlying118
  a28 := Tryz.isAgg118
  z28 := Tryz.sizeOf118
  v28 := Tryz.zeroValue118
  t33 := Tryz.underlying112
  a33 := Tryz.isAgg112
  z33 := Tryz.sizeOf112
  v33 := Tryz.zeroValue112 }
def Tryz.sorted51_ren : Go.Shelf.Ren := ⟨fun | 6 => 51 | 8 => 75 | 9 => 76 | 11 => 109 | 13 => 111 | 12 => 110 | 23 => 131 | 24 => 132 | 14 => 122 | 15 => 123 | 16 => 124 | 17 => 125 | 18 => 126 | 19 => 127 | 20 => 128 | 21 => 129 | 22 => 130 | 25 => 139 | 26 => 140 | 27 => 141 | 28 => 142 | 29 => 143 | 30 => 144 | 31 => 145 | n => n, fun | 26 => 9 | 28 => 118 | 24 => 91 | 0 => 0 | 3 => 3 | 37 => 61 | 48 => 124 | 50 => 72 | 4 => 4 | 40 => 181 | 39 => 180 | 45 => 140 | 5 => 5 | 9 => 9 | 51 => 192 | 55 => 195 | 57 => 197 | 58 => 198 | 33 => 112 | n => n, fun | n => n⟩
theorem Tryz.sorted51 : Go.Proofs.SlLaysZ.n6 Tryz.prog Tryz.sorted51_ren := {
  mixed := by kernel_rfl
  f6 := ⟨Tryz.f51.name, by decide, Tryz.func51.trans (congrArg some (by kernel_rfl))⟩
  f8 := ⟨Tryz.f75.name, by decide, Tryz.func75.trans (congrArg some (by kernel_rfl))⟩
  f11 := ⟨Tryz.f109.name, by decide, Tryz.func109.trans (congrArg some (by kernel_rfl))⟩
  t0 := Tryz.underlying0
  a0 := Tryz.isAgg0
  z0 := Tryz.sizeOf0
  v0 := Tryz.zeroValue0
  t24 := Tryz.underlying91
  a24 := Tryz.isAgg91
  z24 := Tryz.sizeOf91
  v24 := Tryz.zeroValue91
  t26 := Tryz.underlying9
  a26 := Tryz.isAgg9
  z26 := Tryz.sizeOf9
  v26 := Tryz.zeroValue9
  t28 := Tryz.underlying118
  a28 := Tryz.isAgg118
  z28 := Tryz.sizeOf118
  v28 := Tryz.zeroValue118
  i26 := by kernel_rfl }
def Tryz.sort76_ren : Go.Shelf.Ren := ⟨fun | 6 => 76 | 8 => 111 | 9 => 110 | 19 => 131 | 20 => 132 | 21 => 122 | 22 => 123 | 23 => 124 | 24 => 125 | 25 => 126 | 26 => 127 | 27 => 128 | 28 => 129 | 29 => 130 | 36 => 139 | 31 => 140 | 32 => 141 | 37 => 142 | 38 => 143 | 39 => 144 | 41 => 145 | n => n, fun | 27 => 91 | 29 => 9 | 3 => 3 | 32 => 61 | 26 => 91 | 0 => 0 | 44 => 124 | 46 => 72 | 4 => 4 | 36 => 181 | 35 => 180 | 41 => 140 | 5 => 5 | 9 => 9 | 53 => 192 | 57 => 195 | 63 => 197 | 64 => 198 | n => n, fun | n => n⟩
theorem Tryz.sort76 : Go.Proofs.SlLaysM.n6 Tryz.prog Tryz.sort76_ren := {
  mixed := by kernel_rfl
  f6 := ⟨Tryz.f76.name, by decide, Tryz.func76.trans (congrArg some (by kernel_rfl))⟩
  f8 := Tryz.func111.trans (congrArg some (by kernel_rfl))
  f9 := ⟨Tryz.f110.name, by decide, Tryz.func110.trans (congrArg some (by kernel_rfl))⟩
  f19 := Tryz.func131.trans (congrArg some (by kernel_rfl))
  f20 := Tryz.func132.trans (congrArg some (by kernel_rfl))
  f21 := ⟨Tryz.f122.name, by decide, Tryz.func122.trans (congrArg some (by kernel_rfl))⟩
  f22 := ⟨Tryz.f123.name, by decide, Tryz.func123.trans (congrArg some (by kernel_rfl))⟩
  f23 := ⟨Tryz.f124.name, by decide, Tryz.func124.trans (congrArg some (by kernel_rfl))⟩
  f24 := ⟨Tryz.f125.name, by decide, Tryz.func125.trans (congrArg some (by kernel_rfl))⟩
  f25 := ⟨Tryz.f126.name, by decide, Tryz.func126.trans (congrArg some (by kernel_rfl))⟩
  f26 := ⟨Tryz.f127.name, by decide, Tryz.func127.trans (congrArg some (by kernel_rfl))⟩
  f27 := ⟨Tryz.f128.name, by decide, Tryz.func128.trans (congrArg some (by kernel_rfl))⟩
  f28 := ⟨Tryz.f129.name, by decide, Tryz.func129.trans (congrArg some (by kernel_rfl))⟩
  f29 := ⟨Tryz.f130.name, by decide, Tryz.func130.trans (congrArg some (by kernel_rfl))⟩
  f31 := Tryz.func140.trans (congrArg some (by kernel_rfl))
  f32 := Tryz.func141.trans (congrArg some (by kernel_rfl))
  f36 := ⟨Tryz.f139.name, by decide, Tryz.func139.trans (congrArg some (by kernel_rfl))⟩
  f37 := ⟨Tryz.f142.name, by decide, Tryz.func142.trans (congrArg some (by kernel_rfl))⟩
  f38 := ⟨Tryz.f143.name, by decide, Tryz.func143.trans (congrArg some (by kernel_rfl))⟩
  f39 := ⟨Tryz.f144.name, by decide, Tryz.func144.trans (congrArg some (by kernel_rfl))⟩
  f41 := ⟨Tryz.f145.name, by decide, Tryz.func145.trans (congrArg some (by kernel_rfl))⟩
  t0 := Tryz.underlying0
  a0 := Tryz.isAgg0
  z0 := Tryz.sizeOf0
  v0 := Tryz.zeroValue0
  t3 := Tryz.underlying3
  a3 := Tryz.isAgg3
  z3 := Tryz.sizeOf3
  v3 := Tryz.zeroValue3
  t4 := Tryz.underlying4
  a4 := Tryz.isAgg4
  z4 := Tryz.sizeOf4
  v4 := Tryz.zeroValue4
  t5 := Tryz.underlying5
  a5 := Tryz.isAgg5
  z5 := Tryz.sizeOf5
  v5 := Tryz.zeroValue5
  t9 := Tryz.underlying9
  a9 := Tryz.isAgg9
  z9 := Tryz.sizeOf9
  v9 := Tryz.zeroValue9
  t26 := Tryz.underlying91
  a26 := Tryz.isAgg91
  z26 := Tryz.sizeOf91
  v26 := Tryz.zeroValue91
  t27 := Tryz.underlying91
  a27 := Tryz.isAgg91
  z27 := Tryz.sizeOf91
  v27 := Tryz.zeroValue91
  t29 := Tryz.underlying9
  a29 := Tryz.isAgg9
  z29 := Tryz.sizeOf9
  v29 := Tryz.zeroValue9
  t32 := Tryz.underlying61
  a32 := Tryz.isAgg61
  z32 := Tryz.sizeOf61
  v32 := Tryz.zeroValue61
  t35 := Tryz.underlying180
  a35 := Tryz.isAgg180
  z35 := Tryz.sizeOf180
  v35 := Tryz.zeroValue180
  t36 := Tryz.underlying181
  a36 := Tryz.isAgg181
  z36 := Tryz.sizeOf181
  v36 := Tryz.zeroValue181
  t41 := Tryz.underlying140
  a41 := Tryz.isAgg140
  z41 := Tryz.sizeOf140
  v41 := Tryz.zeroValue140
  t44 := Tryz.underlying124
  a44 := Tryz.isAgg124
  z44 := Tryz.sizeOf124
  v44 := Tryz.zeroValue124
  t46 := Tryz.underlying72
  a46 := Tryz.isAgg72
  z46 := Tryz.sizeOf72
  v46 := Tryz.zeroValue72
  t53 := Tryz.underlying192
  a53 := Tryz.isAgg192
  z53 := Tryz.sizeOf192
  v53 := Tryz.zeroValue192
  t57 := Tryz.underlying195
  a57 := Tryz.isAgg195
  z57 := Tryz.sizeOf195
  v57 := Tryz.zeroValue195
  t63 := Tryz.underlying197
  a63 := Tryz.isAgg197
  z63 := Tryz.sizeOf197
  v63 := Tryz.zeroValue197
  t64 := Tryz.underlying198
  a64 := Tryz.isAgg198
  z64 := Tryz.sizeOf198
  v64 := Tryz.zeroValue198 }
def Tryz.clone_ren : Go.Shelf.Ren := ⟨fun | 5 => 32 | 7 => 50 | n => n, fun | 23 => 81 | 25 => 9 | 3 => 86 | 4 => 4 | 20 => 20 | n => n, fun | n => n⟩
theorem Tryz.clone : Go.Proofs.SlLaysW.n5 Tryz.prog Tryz.clone_ren := {
  mixed := by kernel_rfl
  f5 := ⟨Tryz.f32.name, by decide, Tryz.func32.trans (congrArg some (by kernel_rfl))⟩
  f7 := Tryz.func50.trans (congrArg some (by kernel_rfl))
  t4 := Tryz.underlying4
  a4 := Tryz.isAgg4
  z4 := Tryz.sizeOf4
  v4 := Tryz.zeroValue4
  t20 := Tryz.underlying20
  a20 := Tryz.isAgg20
  z20 := Tryz.sizeOf20
  v20 := Tryz.zeroValue20
  t23 := Tryz.underlying81
  a23 := Tryz.isAgg81
  z23 := Tryz.sizeOf81
  v23 := Tryz.zeroValue81 }
open Go.RowKit Go.Maps Go.Sort Go.Shelf


theorem Tryz.sorts51 (m : Nat) : AnyZ.SortsIn Tryz.prog Tryz.sorted51_ren Fence.wide m :=
  ⟨fun blk off cap ss W hH hblk hsz => callsIn_wide.2 (AnyM.slices_Sort_string Tryz.sort76 blk off cap ss W hH hblk hsz),
   fun p cap W => callsIn_wide.2 (AnyM.slices_Sort_string_none Tryz.sort76 p cap W)⟩

theorem Tryz.maps_Keys_52 (mb : Option Nat) (W : World) : CallsIn Fence.wide 5 Tryz.prog 52 #[.map mb] W fun e w' => e = .returned (.func (.func 77) #[] #[.pointer (some ⟨W.heap.size, 0, none⟩)]) ∧ w' = W.alloc (.cells #[.map mb] 81) :=
  AnyZ.keys_in Tryz.keys52 Fence.wide 5 trivial rfl mb W

set_option maxHeartbeats 1000000 in
theorem Tryz.slices_Sorted_keys_51_52 {H : Type} (b nn : Nat) (D0 : DataW H) (R : Value → Option (DataW H × List MemPlace)) (w : World) (hown : w.ownsMap Tryz.prog 9 R b nn D0) (hmax : Maps.size D0 ≤ maxLen) (hbytes : Maps.size D0 * 16 ≤ 140737488355328) :
    CallsIn Fence.wide 5 Tryz.prog 51 #[.func (.func 77) #[] #[.pointer (some ⟨w.heap.size, 0, none⟩)]] (w.alloc (.cells #[.map (some b)] 81)) fun e w' => ∃ (v : Value) (ss : List (List UInt8)), e = .returned v ∧ ss.Perm (strKeys D0) ∧
      w'.ownsRow (w.alloc (.cells #[.map (some b)] 81)).heap.size 9 1 v ss.length ((ss.mergeSort (fun x y => decide (x ≤ y))).map encStr) ∧ (v = .slice none 0 0 ↔ ss = []) ∧ Below (w.alloc (.cells #[.map (some b)] 81)).heap.size (w.alloc (.cells #[.map (some b)] 81)) w' := by
  have hbl := hown.lt
  have hseq : SeqGives Fence.wide 2 Tryz.prog 77 #[.pointer (some ⟨w.heap.size, 0, none⟩)] encStr (fun ss => ss.Perm (strKeys D0)) (Maps.size D0) (w.alloc (.cells #[.map (some b)] 81)) :=
    AnyZ.keys_gives (ρ := Tryz.keys52_ren) { Tryz.keys52 with } Fence.wide _ trivial rfl (by omega) w.heap.size b nn D0 _ (by simp) (by simp) (by
      obtain ⟨es, clock, hb, Ft, hs, hD⟩ := hown
      exact ⟨es, clock, (Below.heap_alloc _ _ b hbl).trans hb, Ft, hs, hD⟩)
  exact AnyZ.sorted_in Tryz.sorted51 Fence.wide 5 trivial trivial trivial trivial rfl (by omega) (Tryz.sorts51 _) (enters_of Tryz.func76 (by kernel_rfl) rfl) 77 #[.pointer (some ⟨w.heap.size, 0, none⟩)] trivial (enters_of Tryz.func77 (by kernel_rfl) rfl) _ _ hmax hbytes _ hseq

set_option maxHeartbeats 1000000 in
theorem Tryz.slices_Sorted_keys_nil_51_52 (w : World) :
    CallsIn Fence.wide 5 Tryz.prog 51 #[.func (.func 77) #[] #[.pointer (some ⟨w.heap.size, 0, none⟩)]] (w.alloc (.cells #[.map none] 81)) fun e w' => ∃ (v : Value) (ss : List (List UInt8)), e = .returned v ∧ ss = [] ∧
      w'.ownsRow (w.alloc (.cells #[.map none] 81)).heap.size 9 1 v ss.length ((ss.mergeSort (fun x y => decide (x ≤ y))).map encStr) ∧ (v = .slice none 0 0 ↔ ss = []) ∧ Below (w.alloc (.cells #[.map none] 81)).heap.size (w.alloc (.cells #[.map none] 81)) w' := by
  have hseq : SeqGives Fence.wide 2 Tryz.prog 77 #[.pointer (some ⟨w.heap.size, 0, none⟩)] encStr (fun ss : List (List UInt8) => ss = []) 0 (w.alloc (.cells #[.map none] 81)) :=
    AnyZ.keys_gives_nil (ρ := Tryz.keys52_ren) { Tryz.keys52 with } Fence.wide _ trivial rfl w.heap.size _ (by simp) (by simp)
  exact AnyZ.sorted_in Tryz.sorted51 Fence.wide 5 trivial trivial trivial trivial rfl (by omega) (Tryz.sorts51 _) (enters_of Tryz.func76 (by kernel_rfl) rfl) 77 #[.pointer (some ⟨w.heap.size, 0, none⟩)] trivial (enters_of Tryz.func77 (by kernel_rfl) rfl) _ 0 (Nat.zero_le _) (by omega) _ hseq
end Go.Proofs
namespace Go.Proofs.YtlmfohcdaahojabGreatDoor
open Go.RowKit Go.Maps Go.Sort Go.Shelf Go.WideMaps
open Go.Proofs (encStr)

/-- How a file's pointer reads: by its block. -/
def fel : Value → Option (DataW Unit × List MemPlace)
  | .pointer (some ⟨b, 0, none⟩) => some (.lit (.int .i64 b), [])
  | .pointer none => some (.lit (.int .i64 (-1)), [])
  | _ => none
theorem fel_at (b : Nat) : fel (.pointer (some ⟨b, 0, none⟩)) = some (.lit (.int .i64 b), []) := rfl
theorem fel_inv {v : Value} {y : DataW Unit × List MemPlace} (h : fel v = some y) : (∃ b : Nat, v = .pointer (some ⟨b, 0, none⟩) ∧ y.1 = .lit (.int .i64 b)) ∨ (v = .pointer none ∧ y.1 = .lit (.int .i64 (-1))) := by
  unfold fel at h
  split at h
  · cases h; exact Or.inl ⟨_, rfl, rfl⟩
  · cases h; exact Or.inr ⟨rfl, rfl⟩
  · cases h
def toD (l : List (Nm × Nat)) : DataW Unit := .map (l.map fun p => (Lit.string p.1, .lit (.int .i64 p.2)))
theorem toD_ins (x : Nm × Nat) : ∀ l : List (Nm × Nat), DataW.insert (Lit.string x.1, (.lit (.int .i64 x.2) : DataW Unit)) (l.map fun p => (Lit.string p.1, .lit (.int .i64 p.2))) = (insN x l).map fun p => (Lit.string p.1, .lit (.int .i64 p.2))
  | [] => rfl
  | y :: r => by
    have ih := toD_ins x r
    by_cases hb : bytesBefore x.1 y.1 = true
    · simp [DataW.insert, insN, Lit.before, hb]
    · simp [DataW.insert, insN, Lit.before, hb, ih]
theorem toD_del (k : Nm) (l : List (Nm × Nat)) : (toD l).del (.string k) = toD (delN k l) := by
  show DataW.map _ = DataW.map _
  unfold delN
  rw [List.filter_map]
  rfl
theorem toD_put (k : Nm) (v : Nat) (l : List (Nm × Nat)) : (toD l).put (.string k) (.lit (.int .i64 v)) = toD (putN k v l) := by
  have h := toD_del k l
  have h' : List.filter (fun p : Lit × DataW Unit => !p.1.sameKey (Lit.string k)) (l.map fun p => (Lit.string p.1, .lit (.int .i64 p.2))) = (delN k l).map fun p => (Lit.string p.1, .lit (.int .i64 p.2)) := DataW.map.inj h
  show DataW.map (DataW.insert _ _) = DataW.map _
  rw [h']
  exact congrArg DataW.map (toD_ins (k, v) _)
theorem toD_at (k : Nm) (l : List (Nm × Nat)) (z : DataW Unit) : (toD l).atKey (.string k) z = match lookN l k with | some b => .lit (.int .i64 b) | none => z := by
  unfold toD DataW.atKey lookN
  simp only [List.find?_map]
  have : ((fun p : Lit × DataW Unit => p.1.sameKey (Lit.string k)) ∘ fun p : Nm × Nat => (Lit.string p.1, (.lit (.int .i64 p.2) : DataW Unit))) = fun p : Nm × Nat => p.1 == k := by
    funext p; rfl
  rw [this]
  cases l.find? (fun p => p.1 == k) <;> rfl
theorem toD_size (l : List (Nm × Nat)) : Maps.size (toD l) = l.length := by simp [toD, Maps.size]
theorem toD_keys (l : List (Nm × Nat)) : strKeys (toD l) = l.map (·.1) := by simp [toD, strKeys, strOf, Function.comp_def]

theorem kS : Keyed Tryz.prog 9 := string_keyed Tryz.underlying9
theorem zF (w : World) : (zeroValue 86).run Tryz.prog w = .ok (.pointer none) w := by kernel_rfl
theorem key_of (x : Nm) (h : x.length ≤ maxLen) : keyOf Tryz.prog 9 (.string ⟨x.toArray⟩) = some (.string x) := by
  have := keyOf_string_mk (P := Tryz.prog) Tryz.underlying9 (s := ⟨x.toArray⟩) (by simpa [ByteArray.size] using h)
  simpa using this

/-- A names value: nil, or a map. -/
def Mp (w : World) (v : Value) (l : List (Nm × Nat)) : Prop := (v = .map none ∧ l = []) ∨ ∃ b, v = .map (some b) ∧ w.ownsMap Tryz.prog 9 fel b l.length (toD l)
def mblk : Value → Option Nat
  | .map o => o
  | _ => none
theorem owns_tight {w : World} {b n : Nat} {l : List (Nm × Nat)} (h : w.ownsMap Tryz.prog 9 fel b n (toD l)) : w.ownsMap Tryz.prog 9 fel b l.length (toD l) := by
  obtain ⟨es, clock, hb, F, hs, hD⟩ := h
  refine ⟨es, clock, hb, F, ?_, hD⟩
  have : Maps.size (toD l) = es.size := by rw [hD]; simp [Maps.size, length_sorted]
  rw [toD_size] at this
  omega
theorem Mp.same {w w' : World} {v : Value} {l : List (Nm × Nat)} (h : Mp w v l) (hs : ∀ b, mblk v = some b → w'.heap[b]? = w.heap[b]?) : Mp w' v l := by
  refine h.imp id ?_
  rintro ⟨b, e, es, clock, hb, r⟩
  exact ⟨b, e, es, clock, (hs b (by rw [e]; rfl)).trans hb, r⟩
theorem Mp.lt {w : World} {v : Value} {l : List (Nm × Nat)} (h : Mp w v l) {b : Nat} (e : mblk v = some b) : b < w.heap.size := by
  rcases h with ⟨h, _⟩ | ⟨b', h, ho⟩
  · rw [h] at e; simp [mblk] at e
  · rw [h] at e; simp [mblk] at e; subst e; exact ho.lt
/-- A map lies in no block of cells. -/
theorem Mp.ne {w : World} {v : Value} {l : List (Nm × Nat)} (h : Mp w v l) {k : Nat} {C : Array Value} {t : TypeId} {fr : Nat × Nat} (hk : w.heap[k]? = some (.cells C t fr)) : some k ≠ mblk v := by
  intro e
  rcases h with ⟨h, _⟩ | ⟨b', h, es, clock, hb, _⟩
  · rw [h] at e; simp [mblk] at e
  · rw [h] at e; simp [mblk] at e; subst e; rw [hb] at hk; cases hk

/-- What 'with' is given: the third cell is a file, where it counts. -/
def chp (c : Chg) : Value := .pointer (if c.to = [] then none else some ⟨c.file, 0, none⟩)
def LiesM (w : World) (v v' : Value) : Prop := mblk v' = mblk v ∨ ∃ g, mblk v' = some g ∧ w.heap.size ≤ g

set_option maxRecDepth 100000 in
set_option maxHeartbeats 1000000 in
theorem with_map (w : World) (b : Nat) (l : List (Nm × Nat)) (c : Chg) (fp : Value) (hfp : c.to ≠ [] → fp = .pointer (some ⟨c.file, 0, none⟩)) (ho : w.ownsMap Tryz.prog 9 fel b l.length (toD l)) (h1 : c.frm.length ≤ maxLen) (h2 : c.to.length ≤ maxLen) (hl : l.length < maxLen) (hv : ∃ p, fp = .pointer p) :
    Calls Tryz.prog 34 #[.map (some b), .agg #[.string ⟨c.frm.toArray⟩, .string ⟨c.to.toArray⟩, fp]] w fun e w' => e = .returned (.map (some b)) ∧ w'.ownsMap Tryz.prog 9 fel b (withN l c).length (toD (withN l c)) ∧ w.grownBy w' (some b) := by
  obtain ⟨p, rfl⟩ := hv
  have hq := fun w => run_eql_map_nil_sl (P := Tryz.prog) w 81 _ _ (some b) Tryz.underlying81
  have hbl := ho.lt
  have HO := hide (ho.alloc (.cells #[.string ⟨c.frm.toArray⟩, .string ⟨c.to.toArray⟩, .pointer p] 89))
  have HK1 := hide (key_of c.frm h1)
  have HK2 := hide (key_of c.to h2)
  have hne : b ≠ w.heap.size := by omega
  have HF := hide hfp
  have HL := hide hl
  clear ho hfp hl h1 h2
  obtain ⟨frm, to, file⟩ := c
  simp only at *
  by_cases hto : to = []
  · subst hto
    go_enter Tryz.func34, Tryz.ntmps34
    go_wp2_with (first
      | (at_delete; refine wpList_delete_own _ rfl _ _ 81 9 rfl 86 kS Tryz.underlying81 fel b _ _ rfl HO.out _ _ rfl HK1.out ?_; intro w1 hown1 hturn1; have HG1 := hide hturn1.grown; have HB1 : Hid (w1.heap[w.heap.size]? = some (.cells #[.string ⟨frm.toArray⟩, .string ⟨([] : Nm).toArray⟩, .pointer p] 89 (0, 0))) := (hturn1.grown.block w.heap.size (by simp) (by simp; omega)).trans (heap_alloc_new _ _); obtain ⟨z0, z1, z2, zf⟩ := blk3 HB1.out; have HO1 := hide hown1; clear hown1 hturn1)
      | go_in)
    go_wp2
    go_ret
    refine ⟨rfl, ?_, (World.grownBy_alloc w _ (some b)).andThen HG1.out (fun j hj => Or.inr hj)⟩
    rw [toD_del] at HO1
    exact owns_tight HO1.out
  · obtain ⟨x, r, rfl⟩ : ∃ x r, to = x :: r := by
      cases to with
      | nil => exact absurd rfl hto
      | cons x r => exact ⟨x, r, rfl⟩
    have e := HF.out hto
    cases e
    have hdec : (⟨(x :: r).toArray⟩ : ByteArray).toList.isEmpty = false := by rw [ByteArray.toList_eq]; rfl
    have HD : Hid (Maps.size ((toD l).del (.string frm)) ≤ l.length) := by
      show _ ≤ _
      rw [toD_del, toD_size]; exact len_del _ _
    generalize hS : (⟨(x :: r).toArray⟩ : ByteArray) = S at *
    go_enter Tryz.func34, Tryz.ntmps34
    go_wp2_with (first
      | (at_delete; refine wpList_delete_own _ rfl _ _ 81 9 rfl 86 kS Tryz.underlying81 fel b _ _ rfl HO.out _ _ rfl HK1.out ?_; intro w1 hown1 hturn1; have HG1 := hide hturn1.grown; have HB1 : Hid (w1.heap[w.heap.size]? = some (.cells #[.string ⟨frm.toArray⟩, .string S, .pointer (some ⟨file, 0, none⟩)] 89 (0, 0))) := (hturn1.grown.block w.heap.size (by simp) (by simp; omega)).trans (heap_alloc_new _ _); obtain ⟨z0, z1, z2, zf⟩ := blk3 HB1.out; have HO1 := hide hown1; clear hown1 hturn1)
      | (at_mapUpdate; refine wpList_mapUpdate_own _ rfl _ _ _ 81 rfl 9 86 kS Tryz.underlying81 fel b _ _ rfl HO1.out HL.out _ _ _ rfl rfl HK2.out _ [] (fel_at file) ?_; intro w2 hown2 hgrow2)
      | go_in)
    go_wp2
    go_ret
    refine ⟨rfl, ?_, ((World.grownBy_alloc w _ (some b)).andThen HG1.out (fun j hj => Or.inr hj)).andThen hgrow2 (fun j hj => Or.inr hj)⟩
    rw [toD_del, toD_put] at hown2
    unfold withN
    rw [if_neg hto]
    exact owns_tight hown2

theorem delN_nil (k : Nm) : delN k [] = [] := rfl

set_option maxRecDepth 100000 in
set_option maxHeartbeats 1000000 in
theorem with_nil (w : World) (c : Chg) (fp : Value) (hfp : c.to ≠ [] → fp = .pointer (some ⟨c.file, 0, none⟩)) (h1 : c.frm.length ≤ maxLen) (h2 : c.to.length ≤ maxLen) (hv : ∃ p, fp = .pointer p) :
    Calls Tryz.prog 34 #[.map none, .agg #[.string ⟨c.frm.toArray⟩, .string ⟨c.to.toArray⟩, fp]] w fun e w' => ∃ b, e = .returned (.map (some b)) ∧ w'.ownsMap Tryz.prog 9 fel b (withN [] c).length (toD (withN [] c)) ∧ Below w.heap.size w w' ∧ w.heap.size ≤ b := by
  obtain ⟨p, rfl⟩ := hv
  have hq := fun w => run_eql_map_nil_sl (P := Tryz.prog) w 81 _ _ none Tryz.underlying81
  have hmm := @run_makeMap Tryz.prog
  have HK1 := hide (key_of c.frm h1)
  have HK2 := hide (key_of c.to h2)
  have HF := hide hfp
  clear hfp h1 h2
  obtain ⟨frm, to, file⟩ := c
  simp only at *
  by_cases hto : to = []
  · subst hto
    have HO : Hid (((w.alloc (.cells #[.string ⟨frm.toArray⟩, .string ⟨#[]⟩, .pointer p] 89)).alloc (.map #[] 0)).ownsMap Tryz.prog 9 fel (w.heap.size + 1) 0 (toD [])) := by
      have := World.ownsMap_made (w.alloc (.cells #[.string ⟨frm.toArray⟩, .string ⟨#[]⟩, .pointer p] 89)) Tryz.prog 9 fel
      rw [show (w.alloc (.cells #[.string ⟨frm.toArray⟩, .string ⟨#[]⟩, .pointer p] 89)).heap.size = w.heap.size + 1 by simp] at this
      exact this
    go_enter Tryz.func34, Tryz.ntmps34
    go_wp2_with (first
      | (at_delete; refine wpList_delete_own _ rfl _ _ 81 9 rfl 86 kS Tryz.underlying81 fel (w.heap.size + 1) _ _ rfl HO.out _ _ rfl HK1.out ?_; intro w1 hown1 hturn1; have HG1 := hide hturn1.grown; have HB1 : Hid (w1.heap[w.heap.size]? = some (.cells #[.string ⟨frm.toArray⟩, .string ⟨([] : Nm).toArray⟩, .pointer p] 89 (0, 0))) := (hturn1.grown.block w.heap.size (by simp; omega) (by simp)).trans ((Below.heap_alloc _ _ _ (by simp)).trans (heap_alloc_new _ _)); obtain ⟨z0, z1, z2, zf⟩ := blk3 HB1.out; have HO1 := hide hown1; clear hown1 hturn1)
      | go_in)
    go_wp2
    go_ret
    refine ⟨_, rfl, ?_, (((Below.refl _ w).alloc (Nat.le_refl _) _).alloc (by simp) _).grown HG1.out (by simp; omega) (fun j hj => by cases hj; omega), by omega⟩
    rw [toD_del] at HO1
    exact owns_tight HO1.out
  · obtain ⟨x, r, rfl⟩ : ∃ x r, to = x :: r := by
      cases to with
      | nil => exact absurd rfl hto
      | cons x r => exact ⟨x, r, rfl⟩
    have e := HF.out hto
    cases e
    have hdec : (⟨(x :: r).toArray⟩ : ByteArray).toList.isEmpty = false := by rw [ByteArray.toList_eq]; rfl
    generalize hS : (⟨(x :: r).toArray⟩ : ByteArray) = S at *
    have HO : Hid (((w.alloc (.cells #[.string ⟨frm.toArray⟩, .string S, .pointer (some ⟨file, 0, none⟩)] 89)).alloc (.map #[] 0)).ownsMap Tryz.prog 9 fel (w.heap.size + 1) 0 (toD [])) := by
      have := World.ownsMap_made (w.alloc (.cells #[.string ⟨frm.toArray⟩, .string S, .pointer (some ⟨file, 0, none⟩)] 89)) Tryz.prog 9 fel
      rw [show (w.alloc (.cells #[.string ⟨frm.toArray⟩, .string S, .pointer (some ⟨file, 0, none⟩)] 89)).heap.size = w.heap.size + 1 by simp] at this
      exact this
    go_enter Tryz.func34, Tryz.ntmps34
    go_wp2_with (first
      | (at_delete; refine wpList_delete_own _ rfl _ _ 81 9 rfl 86 kS Tryz.underlying81 fel (w.heap.size + 1) _ _ rfl HO.out _ _ rfl HK1.out ?_; intro w1 hown1 hturn1; have HG1 := hide hturn1.grown; have HB1 : Hid (w1.heap[w.heap.size]? = some (.cells #[.string ⟨frm.toArray⟩, .string S, .pointer (some ⟨file, 0, none⟩)] 89 (0, 0))) := (hturn1.grown.block w.heap.size (by simp; omega) (by simp)).trans ((Below.heap_alloc _ _ _ (by simp)).trans (heap_alloc_new _ _)); obtain ⟨z0, z1, z2, zf⟩ := blk3 HB1.out; have HO1 := hide hown1; clear hown1 hturn1)
      | (at_mapUpdate; refine wpList_mapUpdate_own _ rfl _ _ _ 81 rfl 9 86 kS Tryz.underlying81 fel (w.heap.size + 1) _ _ rfl HO1.out (by unfold maxLen; omega) _ _ _ rfl rfl HK2.out _ [] (fel_at file) ?_; intro w2 hown2 hgrow2)
      | go_in)
    go_wp2
    go_ret
    refine ⟨_, rfl, ?_, ((((Below.refl _ w).alloc (Nat.le_refl _) _).alloc (by simp) _).grown HG1.out (by simp; omega) (fun j hj => by cases hj; omega)).grown hgrow2 (by have := HG1.out.size; simp at this; omega) (fun j hj => by cases hj; omega), by omega⟩
    rw [toD_del, toD_put] at hown2
    unfold withN
    rw [if_neg hto]
    exact owns_tight hown2

theorem with_any (w : World) (v : Value) (l : List (Nm × Nat)) (c : Chg) (fp : Value) (hfp : c.to ≠ [] → fp = .pointer (some ⟨c.file, 0, none⟩)) (ho : Mp w v l) (h1 : c.frm.length ≤ 64) (h2 : c.to.length ≤ 64) (hl : l.length < 1099511627776) (hv : ∃ p, fp = .pointer p) :
    Calls Tryz.prog 34 #[v, .agg #[.string ⟨c.frm.toArray⟩, .string ⟨c.to.toArray⟩, fp]] w fun e w' => ∃ b, e = .returned (.map (some b)) ∧ Mp w' (.map (some b)) (withN l c) ∧ w.grownBy w' (mblk v) ∧ (some b = mblk v ∨ w.heap.size ≤ b) := by
  rcases ho with ⟨rfl, rfl⟩ | ⟨b, rfl, ho⟩
  · refine (with_nil w c fp hfp (by unfold maxLen; omega) (by unfold maxLen; omega) hv).mono ?_
    rintro e w' ⟨b, rfl, h, hb, hle⟩
    exact ⟨b, rfl, Or.inr ⟨b, rfl, h⟩, ⟨hb.os, hb.tape, hb.output, hb.size, fun k hk _ => hb.block k hk⟩, Or.inr hle⟩
  · refine (with_map w b l c fp hfp ho (by unfold maxLen; omega) (by unfold maxLen; omega) (by unfold maxLen; omega) hv).mono ?_
    rintro e w' ⟨rfl, h, hg⟩
    exact ⟨b, rfl, Or.inr ⟨b, rfl, h⟩, hg, Or.inl rfl⟩

end Go.Proofs.YtlmfohcdaahojabGreatDoor
