import Derived.Test.YtlpafgjgoheomaaAppB
import Derived.Test.YtlpafgjgoheomaaCrash
import Derived.Laws.BytesArg
import Derived.Lib.JoinLaws
import Derived.Lib.SlBytesConst
namespace Go.Proofs.Ytlpafgjgoheomaa
open Go.RowKit Go.Maps

/-- The bytes as a string. -/
def str (xs : List Nat) : ByteArray := strOfNums (xs.map fun (x : Nat) => (x : Int))
theorem conv_str {w : World} {sp : Option Addr} {xs : List Nat} {m : Nat} (h : Bytes w sp xs) (hm : xs.length = m) (c : Nat) :
    (convert 26 9 (.slice sp m c)).run Try.prog w = .ok (.string (str xs)) w := by
  subst hm
  have hz : ∀ a : Option Addr, (convert 26 9 (.slice a 0 c)).run Try.prog w = .ok (.string (str [])) w := fun a => by
    rw [run_convert_bytes_string w 26 9 5 a 0 c Try.underlying26 Try.underlying5 Try.underlying9]
    cases a with
    | none => simp [Conv.bytesToString]; rfl
    | some a =>
      rw [run_bytesToString w a 0 c [] (by simpa using run_loadCells_list (P := Try.prog) w a [] (by simp))]
      rfl
  rcases h.lie with h0 | ⟨g, o, rfl, hg, hc⟩
  · subst h0; exact hz sp
  · refine run_convert_bytes_arg w 26 5 Try.underlying26 Try.underlying5 g o _ c _ (by simp) (fun i hi => ?_) 9 Try.underlying9
    rw [hc i hi]
    simp [List.getD, hi]

theorem lit3 (w : World) (x y z : Nat) (h : x < 256 ∧ y < 256 ∧ z < 256) (fr : Nat × Nat) : Bytes (w.alloc (.cells #[.int .u8 x, .int .u8 y, .int .u8 z] 5 fr)) (some ⟨w.heap.size, 0, none⟩) [x, y, z] := by
  have key : ∀ (w3 : World) (g j : Nat), j < 3 → w3.heap[g]? = some (.cells #[.int .u8 x, .int .u8 y, .int .u8 z] 5 fr) → w3.cell? ⟨g, 0 + j, none⟩ = some (.int .u8 (([x, y, z].getD j 0 : Nat) : Int)) := fun w3 g j hj hb => by
    have h3 : j = 0 ∨ j = 1 ∨ j = 2 := by omega
    rcases h3 with e | e | e <;> (subst e; simp [World.cell?, hb, List.getD])
  refine ⟨fun u hu => ?_, Or.inr ⟨w.heap.size, 0, rfl, by simp, fun j hj => key _ _ j (by simpa using hj) (heap_alloc_new _ _)⟩⟩
  simp only [List.mem_cons, List.not_mem_nil, or_false] at hu
  rcases hu with e | e | e <;> (subst e; omega)

/-- A small disk that is tried. -/
def tryS : Nat × St := (St.new 4).appendR [97] [120, 121, 122]
theorem try_first : tryS.1 = 0 := by decide +kernel
theorem try_err : tryS.2.err [97] = 0 := by decide +kernel
theorem try_bytes : tryS.2.bytes [97] = [120, 121, 122] := by decide +kernel
theorem try_str : (str [120, 121, 122]).toList = [120, 121, 122] := by rw [ByteArray.toList_eq]; decide +kernel

set_option maxRecDepth 100000 in
set_option maxHeartbeats 2000000 in
theorem open_any (w : World) (K : Knd) (o : Nat) :
    Calls Try.prog 22 #[] w fun e w' => ∃ d, e = .returned (.pointer (some ⟨d, 0, none⟩)) ∧ w.heap.size ≤ d ∧ Dk w' (newK (ext K w.heap.size (0, 0)) d (o, 1)) o d (St.new 16777216) ∧ Below w.heap.size w w' := by
  have HN4 := hide (fun w => New_ok w 4 (by omega))
  have HNm := hide (fun w => New_ok w 16777216 (by omega))
  have hxyz : ∀ x ∈ [120, 121, 122], x < 256 := by decide
  have hcb := fun (w : World) (C : Array Value) (n c : Nat) => Lib.run_convert_bytes_const (P := Try.prog) w 26 5 C n c Try.underlying26 Try.underlying5
  go_enter Try.func22, Try.ntmps22
  go_wp2_with fail
  refine (HN4.out _).mono ?_
  rintro e w1 ⟨rfl, hw1⟩
  have HD1 : Hid (Dk w1 (newK (fun _ => (0, 0)) w.heap.size (9, 1)) 9 w.heap.size (St.new 4)) := by
    show Dk _ _ _ _ _
    rw [hw1]; exact new_dk w _ 9 4
  have HB1 : Hid (Below w.heap.size w w1 ∧ w1.heap.size = w.heap.size + 1) := by
    rw [hw1]; exact ⟨(Below.refl _ _).alloc (Nat.le_refl _) _, by simp⟩
  clear hw1
  go_wp2_with fail
  refine (num_any _ 0).mono ?_
  rintro e w2 ⟨rfl, rfl⟩
  have kb := kp_below (w := w2) (w' := w2.alloc (.cells #[.int .u8 120, .int .u8 121, .int .u8 122] 5 (3, 4))) ((Below.refl _ _).alloc (Nat.le_refl _) _) (fun _ => False) (newK (fun _ => (0, 0)) w.heap.size (9, 1)) (0, 0)
  have HD2 := hide (HD1.out.kept kb (fun _ h => h))
  have HBy : Hid (Bytes (w2.alloc (.cells #[.int .u8 120, .int .u8 121, .int .u8 122] 5 (3, 4))) (some ⟨w2.heap.size, 0, none⟩) [120, 121, 122]) := by
    exact lit3 w2 120 121 122 (by decide) (3, 4)
  have HAp := hide (Append_any _ _ 9 w.heap.size (St.new 4) HD2.out 0 [97] (by simp) (some ⟨w2.heap.size, 0, none⟩) 3 3 [120, 121, 122] rfl ⟨new_inv (by omega), new_sz 4, by simp, HBy.out, Or.inr (fun g p e => by cases e; rw [ext_new _ _ (Nat.le_refl _)]; simp), Or.inr (fun g p e => by cases e; simp)⟩)
  have HKb := hide (kb.mono (q := Ow 9) (fun k hk => hk.elim))
  rw [show (St.new 4).appendR [97] [120, 121, 122] = tryS from rfl, try_first] at HAp
  have HGd := hide (good_append (new_inv (r := 4) (by omega)) (new_sz 4) [97] [120, 121, 122] hxyz)
  rw [show (St.new 4).appendR [97] [120, 121, 122] = tryS from rfl] at HGd
  clear kb
  go_wp2_with fail
  refine HAp.out.mono ?_
  rintro e w3 ⟨K3, rfl, hd3, hk3⟩
  have HK3 := hide (HKb.out.trans hk3)
  have HRd := hide (Read_any w3 K3 9 w.heap.size tryS.2 hd3 HGd.out.inv _ HGd.out.sz (by simp) [97] (by simp))
  rw [try_err, try_bytes] at HRd
  clear hd3 hk3
  go_wp2_with fail
  refine (num_any _ 0).mono ?_
  rintro e w4 ⟨rfl, rfl⟩
  go_wp2_with fail
  refine HRd.out.mono ?_
  rintro e w5 ⟨ra, rc, rfl, hr5, hb5⟩
  have hcv := conv_str (m := 3) (owns_bytes hr5 hxyz) rfl rc
  have HB5 := hide hb5
  have hts := try_str
  generalize str [120, 121, 122] = sx at *
  clear hr5 hb5
  go_wp2_with fail
  refine (num_any _ 0).mono ?_
  rintro e w6 ⟨rfl, rfl⟩
  go_wp2_with fail
  refine (HNm.out _).mono ?_
  rintro e w7 ⟨rfl, hw7⟩
  have HEnd : Hid (Dk w7 (newK (ext K w.heap.size (0, 0)) w6.heap.size (o, 1)) o w6.heap.size (St.new 16777216) ∧ Below w.heap.size w w7 ∧ w.heap.size ≤ w6.heap.size) := by
    have b1 : Below w.heap.size w w4 := HK3.out.below HB1.out.1 (fun b hb => by unfold newK; rw [if_neg (by omega)]; simp)
    rw [hw7]
    exact ⟨new_dk w6 _ o _, (b1.trans (HB5.out.mono b1.size)).alloc (Nat.le_trans b1.size HB5.out.size) _, Nat.le_trans b1.size HB5.out.size⟩
  clear hw7
  go_wp2_with fail
  refine (num_any _ 0).mono ?_
  rintro e w8 ⟨rfl, rfl⟩
  go_wp2
  go_ret
  exact ⟨w6.heap.size, rfl, HEnd.out.2.2, HEnd.out.1, HEnd.out.2.1⟩

end Go.Proofs.Ytlpafgjgoheomaa
