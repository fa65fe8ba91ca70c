import Derived.Test.YtlmfohcdaahojabGreatDoorJPv
import Derived.Deep.CutRange
namespace Go.Proofs.YtlmfohcdaahojabGreatDoor
open Go.RowKit Go.Maps

theorem bit1 (z : Int) : ∃ i : Nat, i < 2 ∧ bits .and .i64 z 1 = (i : Int) := by
  refine ⟨(BitVec.ofInt 64 z).toNat % 2, Nat.mod_lt _ (by omega), ?_⟩
  show IntKind.i64.wrap ((BitVec.ofInt 64 z &&& BitVec.ofInt 64 1).toNat : Int) = _
  have h1 : (BitVec.ofInt 64 (1 : Int)).toNat = 1 := by decide
  rw [BitVec.toNat_and, h1, Nat.and_one_is_mod, IntKind.wrap_i64]
  omega
set_option maxRecDepth 100000 in
set_option maxHeartbeats 8000000 in
theorem pair_all (W : World) (hT : C.Tab W) (sp : Option Addr) (m cap : Nat) (l : List Cl) (hm : l.length = m) (hml : m ≤ 140737488355328) (hC : Cls W sp l) (hO : ∀ c ∈ l, ClOk W c) (op : Option Addr) (om oc : Nat) (on : List Int) (hom : on.length = om) (hon : Ins W op on) (homl : om ≤ 140737488355328) (pp : Option Addr) (pm pc : Nat) (pk : List Int) (hpm : pk.length = pm) (hpk : Ins W pp pk) (hpml : pm ≤ 140737488355328) :
    Calls Tryz.prog 6 #[.agg #[.slice sp m cap, .slice op om oc, .slice pp pm pc]] W fun e w' => e = .returned (.bool true) ∧ Below W.heap.size W w' := by
  have HT := hide hT
  have HM := hide hm
  have HC := hide hC
  have HO := hide hO
  have HOm := hide hom
  have HOn := hide hon
  have HPm := hide hpm
  have HPk := hide hpk
  obtain ⟨bx, hbx⟩ : ∃ bx : Obj, bx = .cells #[.slice sp m cap, .slice op om oc, .slice pp pm pc] 68 := ⟨_, rfl⟩
  have HBx := hide hbx
  have hb1 : Below W.heap.size W (W.alloc (.cells #[.slice sp m cap, .slice op om oc, .slice pp pm pc] 68)) := (Below.refl _ _).alloc (Nat.le_refl _) _
  have hx1 : (W.alloc (.cells #[.slice sp m cap, .slice op om oc, .slice pp pm pc] 68)).heap[W.heap.size]? = some bx := by rw [hbx]; exact heap_alloc_new _ _
  have HWk := hide (wakes_any _ (hT.below hb1 hT.pos))
  have HB1 := hide hb1
  have HX1 := hide hx1
  clear hb1 hx1 hT hm hC hO hom hon hpm hpk hbx
  go_enter Tryz.func6, Tryz.ntmps6
  go_wp2_with fail
  refine HWk.out.mono ?_
  rintro e w2 ⟨rfl, hb2⟩
  have hb2' : Below W.heap.size W w2 := HB1.out.trans (hb2.mono (by simp))
  have hx2 : w2.heap[W.heap.size]? = some bx := (hb2.block _ (by simp)).trans HX1.out
  have HNw := hide (New_ok w2 262144 (by omega))
  rw [show ((262144 : Nat) : Int) = 262144 from rfl] at HNw
  have HB2 := hide hb2'
  have HX2 := hide hx2
  have hs2 := lt_of_block hx2
  clear hb2 hb2' hx2
  go_wp2_with fail
  refine HNw.out.mono ?_
  rintro e w3 ⟨rfl, hw3⟩
  have hd3 : Dk w3 (ext (fun _ => (0, 0)) w2.heap.size (1, 1)) 1 w2.heap.size (St.new 262144) := by
    rw [hw3]
    have h := new_dk w2 (fun _ => (0, 0)) 1 262144
    refine h.kept (p := fun _ => False) (⟨rfl, rfl, rfl, Nat.le_refl _, fun b hb => ?_, fun _ _ _ => rfl⟩ : Kp (fun _ => False) _ (ext (fun _ => (0, 0)) w2.heap.size (1, 1)) _ _) (fun _ h => h)
    simp at hb
    by_cases e : b = w2.heap.size
    · subst e; rw [ext_new _ _ (Nat.le_refl _)]; simp [newK]
    · rw [ext_old _ _ (by omega)]; simp [newK, e]
  have s3 : w3.heap.size = w2.heap.size + 1 := by rw [hw3]; simp
  have hb3 : Below W.heap.size W w3 := by rw [hw3]; exact HB2.out.alloc (by omega) _
  have hx3 : w3.heap[W.heap.size]? = some bx := by rw [hw3]; exact (Below.heap_alloc _ _ _ hs2).trans HX2.out
  have HD3 := hide hd3
  have HS3 := hide s3
  have HB3 := hide hb3
  have HX3 := hide hx3
  clear hw3 hd3 s3 hb3 hx3
  go_wp2_with fail
  obtain ⟨w4, hw4⟩ : ∃ w4, w4 = (((w3.alloc (.cells #[.pointer none, .pointer none] 70)).alloc (.cells #[.slice none 0 0, .slice none 0 0] 71)).alloc (.cells #[.int .u64 0, .int .u64 0] 73)).alloc (.cells #[.string ⟨#[111, 110, 101]⟩, .string ⟨#[111, 116, 104, 101, 114]⟩] 74) := ⟨_, rfl⟩
  rw [← hw4]
  obtain ⟨A, hA⟩ : ∃ A, w3.heap.size = A := ⟨_, rfl⟩
  rw [hA] at HS3 ⊢
  have s4 : w4.heap.size = A + 1 + 1 + 1 + 1 := by rw [hw4]; simp [hA]
  have hb34 : Below A w3 w4 := by rw [hw4]; exact ((((Below.refl _ _).alloc (by omega) _).alloc (by simp; omega) _).alloc (by simp; omega) _).alloc (by simp; omega) _
  have f0 : w4.heap[A]? = some (.cells #[.pointer none, .pointer none] 70 (0, 0)) := by
    rw [hw4, ← hA]
    exact (Below.heap_alloc _ _ _ (by simp <;> omega)).trans ((Below.heap_alloc _ _ _ (by simp <;> omega)).trans ((Below.heap_alloc _ _ _ (by simp <;> omega)).trans (heap_alloc_new _ _)))
  have f1 : w4.heap[A + 1]? = some (.cells #[.slice none 0 0, .slice none 0 0] 71 (0, 0)) := by
    have e := heap_alloc_new (w3.alloc (.cells #[.pointer none, .pointer none] 70)) (.cells #[.slice none 0 0, .slice none 0 0] 71)
    rw [World.size_alloc, hA] at e
    rw [hw4]
    exact (Below.heap_alloc _ _ _ (by simp [hA] <;> omega)).trans ((Below.heap_alloc _ _ _ (by simp [hA])).trans e)
  have f2 : w4.heap[A + 1 + 1]? = some (.cells #[.int .u64 0, .int .u64 0] 73 (0, 0)) := by
    have e := heap_alloc_new ((w3.alloc (.cells #[.pointer none, .pointer none] 70)).alloc (.cells #[.slice none 0 0, .slice none 0 0] 71)) (.cells #[.int .u64 0, .int .u64 0] 73)
    rw [World.size_alloc, World.size_alloc, hA] at e
    rw [hw4]
    exact (Below.heap_alloc _ _ _ (by simp [hA])).trans e
  have f3 : w4.heap[A + 1 + 1 + 1]? = some (.cells #[.string ⟨#[111, 110, 101]⟩, .string ⟨#[111, 116, 104, 101, 114]⟩] 74 (0, 0)) := by
    have e := heap_alloc_new (((w3.alloc (.cells #[.pointer none, .pointer none] 70)).alloc (.cells #[.slice none 0 0, .slice none 0 0] 71)).alloc (.cells #[.int .u64 0, .int .u64 0] 73)) (.cells #[.string ⟨#[111, 110, 101]⟩, .string ⟨#[111, 116, 104, 101, 114]⟩] 74)
    rw [World.size_alloc, World.size_alloc, World.size_alloc, hA] at e
    rw [hw4]
    exact e
  obtain ⟨K4, hK4⟩ : ∃ K4, K4 = ext (ext (ext (ext (ext (fun _ => (0, 0)) w2.heap.size (1, 1)) A (4, 0)) (A + 1) (4, 1)) (A + 1 + 1) (4, 2)) (A + 1 + 1 + 1) (4, 3) := ⟨_, rfl⟩
  have s3 := HS3.out
  have kp4 : Kp (fun _ => False) (ext (fun _ => (0, 0)) w2.heap.size (1, 1)) K4 w3 w4 := ⟨hb34.os, hb34.tape, hb34.output, by rw [hA, s4]; omega, fun b hb => by rw [hA] at hb; rw [hK4, ext_old _ _ (by omega), ext_old _ _ (by omega), ext_old _ _ (by omega), ext_old _ _ hb], fun b hb _ => hb34.block b (by rw [hA] at hb; exact hb)⟩
  have hd4 := HD3.out.kept kp4 (fun _ h => h)
  have hb4 : Below W.heap.size W w4 := kp4.below HB3.out (fun _ _ h => h)
  have hx4 : w4.heap[W.heap.size]? = some bx := (hb34.block _ (by omega)).trans HX3.out
  have k0 : ∀ b, b < W.heap.size + 1 → K4 b = (0, 0) := fun b hb => by rw [hK4, ext_old _ _ (by omega), ext_old _ _ (by omega), ext_old _ _ (by omega), ext_old _ _ (by omega), ext_old _ _ (by omega)]
  have kA : K4 A = (4, 0) := by rw [hK4, ext_old _ _ (by omega), ext_old _ _ (by omega), ext_old _ _ (by omega), ext_new _ _ (by omega)]
  have kB : K4 (A + 1) = (4, 1) := by rw [hK4, ext_old _ _ (by omega), ext_old _ _ (by omega), ext_new _ _ (by omega)]
  have kN : K4 (A + 1 + 1) = (4, 2) := by rw [hK4, ext_old _ _ (by omega), ext_new _ _ (by omega)]
  have kX : K4 (A + 1 + 1 + 1) = (4, 3) := by rw [hK4, ext_new _ _ (by omega)]
  have hT4 := HT.out.below hb4 HT.out.pos
  have HO1 := hide (Open_any w4 K4 1 2 w2.heap.size (by decide) (by decide) (St.new 262144) hd4 (new_inv (by omega)) 0 (new_sz 262144) (by omega) rfl (nmo 0) (nmo_ok 0).1 (nmo_ok 0).2 hT4 (k0 0 (by have := HT.out.pos; omega)))
  rw [new_found 262144 (nmo 0) (nmo_ok 0).1, show (⟨(nmo 0).toArray⟩ : ByteArray) = ⟨#[111, 110, 101]⟩ from rfl] at HO1
  have HF : Hid ((w4.heap[A]? = some (.cells #[.pointer none, .pointer none] 70 (0, 0)) ∧ w4.heap[A + 1]? = some (.cells #[.slice none 0 0, .slice none 0 0] 71 (0, 0)) ∧ w4.heap[A + 1 + 1]? = some (.cells #[.int .u64 0, .int .u64 0] 73 (0, 0)) ∧ w4.heap[A + 1 + 1 + 1]? = some (.cells #[.string ⟨#[111, 110, 101]⟩, .string ⟨#[111, 116, 104, 101, 114]⟩] 74 (0, 0))) ∧ K4 A = (4, 0) ∧ K4 (A + 1) = (4, 1) ∧ K4 (A + 1 + 1) = (4, 2) ∧ K4 (A + 1 + 1 + 1) = (4, 3)) := ⟨⟨f0, f1, f2, f3⟩, kA, kB, kN, kX⟩
  have HD4 := hide hd4
  have HB4 := hide hb4
  have HX4 := hide hx4
  have HK4 := hide k0
  have x0 : w4.cell? ⟨A + 1 + 1 + 1, 0, none⟩ = some (.string ⟨#[111, 110, 101]⟩) := by simp [World.cell?, f3]
  have lx := lt_of_block f3
  have HA := hide hA
  clear hA hw4 s4 hb34 f0 f1 f2 f3 hK4 kp4 hd4 hb4 hx4 k0 kA kB kN kX hT4 s3
  refine wp_loop_rounds 3 ?_
  rw [rounds_succ]
  go_wp2_with fail
  refine HO1.out.mono ?_
  rintro e w5 ⟨K5, hk5, ⟨_, jb0, rfl, hj5⟩ | ⟨hf, _⟩⟩
  rotate_left
  · exact absurd rfl hf
  have no : ∀ o a q, a ≠ o → ¬ Ow o ((a, q) : Nat × Nat) := fun o a q h e => h e
  have g5 : ∀ {b : Nat} {c : Array Value} {t : TypeId} {q : Nat}, w4.heap[b]? = some (.cells c t (0, 0)) → K4 b = (4, q) → w5.heap[b]? = some (.cells c t (0, 0)) ∧ K5 b = (4, q) := fun {b c t q} e hb => ⟨(hk5.block b (lt_of_block e) (by rw [hb]; exact no _ _ _ (by omega))).trans e, (hk5.same b (lt_of_block e)).trans hb⟩
  have a0 := (g5 HF.out.1.1 HF.out.2.1).1
  have a2 := (g5 HF.out.1.2.2.1 HF.out.2.2.2.1).1
  have a3 := (g5 HF.out.1.2.2.2 HF.out.2.2.2.2).1
  have HG5 : Hid ((w5.heap[A]? = some (.cells #[.pointer none, .pointer none] 70 (0, 0)) ∧ w5.heap[A + 1]? = some (.cells #[.slice none 0 0, .slice none 0 0] 71 (0, 0)) ∧ w5.heap[A + 1 + 1]? = some (.cells #[.int .u64 0, .int .u64 0] 73 (0, 0)) ∧ w5.heap[A + 1 + 1 + 1]? = some (.cells #[.string ⟨#[111, 110, 101]⟩, .string ⟨#[111, 116, 104, 101, 114]⟩] 74 (0, 0))) ∧ K5 A = (4, 0) ∧ K5 (A + 1) = (4, 1) ∧ K5 (A + 1 + 1) = (4, 2) ∧ K5 (A + 1 + 1 + 1) = (4, 3)) := ⟨⟨a0, (g5 HF.out.1.2.1 HF.out.2.2.1).1, a2, a3⟩, (g5 HF.out.1.1 HF.out.2.1).2, (g5 HF.out.1.2.1 HF.out.2.2.1).2, (g5 HF.out.1.2.2.1 HF.out.2.2.2.1).2, (g5 HF.out.1.2.2.2 HF.out.2.2.2.2).2⟩
  have c00 : w5.cell? ⟨A, 0, none⟩ = some (.pointer none) := by simp [World.cell?, a0]
  have c01 : ∀ o, w5.frozen? ⟨A, o, none⟩ = false := fun o => by simp [World.frozen?, a0]
  have c20 : w5.cell? ⟨A + 1 + 1, 0, none⟩ = some (.int .u64 0) := by simp [World.cell?, a2]
  have c21 : ∀ o, w5.frozen? ⟨A + 1 + 1, o, none⟩ = false := fun o => by simp [World.frozen?, a2]
  have c31 : w5.cell? ⟨A + 1 + 1 + 1, 1, none⟩ = some (.string ⟨#[111, 116, 104, 101, 114]⟩) := by simp [World.cell?, a3]
  have l0 := lt_of_block a0
  have l2 := lt_of_block a2
  have l3 := lt_of_block a3
  have kp7 : Kp (fun q => q.1 = 4) K5 K5 w5 ((w5.setCell ⟨A, 0, none⟩ (.pointer (some ⟨jb0, 0, none⟩))).setCell ⟨A + 1 + 1, 0, none⟩ (.int .u64 1)) := ((Kp.refl (fun q : Nat × Nat => q.1 = 4) K5 w5).setCell (Or.inr (by rw [HG5.out.2.1])) _ _).setCell (Or.inr (by rw [HG5.out.2.2.2.1])) _ _
  have hd7 := (HD4.out.kept hk5 (fun q => no _ _ q (by omega))).kept kp7 (fun q => by show ¬ 1 = 4; omega)
  have hj7 := hj5.kept kp7 (fun q => by show ¬ 2 = 4; omega)
  have hk57 : Kp (fun q => q.1 = 2 ∨ q.1 = 4) K4 K5 w4 ((w5.setCell ⟨A, 0, none⟩ (.pointer (some ⟨jb0, 0, none⟩))).setCell ⟨A + 1 + 1, 0, none⟩ (.int .u64 1)) := (hk5.mono (fun q e => Or.inl e)).trans (kp7.mono (fun q e => Or.inr e))
  have hb7 : Below W.heap.size W ((w5.setCell ⟨A, 0, none⟩ (.pointer (some ⟨jb0, 0, none⟩))).setCell ⟨A + 1 + 1, 0, none⟩ (.int .u64 1)) := hk57.below HB4.out (fun b hb => by rw [HK4.out b (by omega)]; simp)
  have lx4 := lt_of_block HX4.out
  have hx7 : ((w5.setCell ⟨A, 0, none⟩ (.pointer (some ⟨jb0, 0, none⟩))).setCell ⟨A + 1 + 1, 0, none⟩ (.int .u64 1)).heap[W.heap.size]? = some bx := (hk57.block _ lx4 (by rw [HK4.out _ (by omega)]; simp)).trans HX4.out
  have k5o : ∀ b, b < W.heap.size + 1 → K5 b = (0, 0) := fun b hb => (hk57.same b (by omega)).trans (HK4.out b hb)
  have HO2 := hide (Open_any _ K5 1 3 w2.heap.size (by decide) (by decide) (St.new 262144) hd7 (new_inv (by omega)) 0 (new_sz 262144) (by omega) rfl (nmo 1) (nmo_ok 1).1 (nmo_ok 1).2 (HT.out.below hb7 HT.out.pos) (k5o 0 (by omega)))
  rw [new_found 262144 (nmo 1) (nmo_ok 1).1, show (⟨(nmo 1).toArray⟩ : ByteArray) = ⟨#[111, 116, 104, 101, 114]⟩ from rfl] at HO2
  have HD7 := hide hd7
  have HJ7 := hide hj7
  have HB7 := hide hb7
  have HX7 := hide hx7
  have HK5 := hide k5o
  have HKp7 := hide kp7
  have nA : ¬ A = A + 1 + 1 := by omega
  have nB : ¬ A + 1 + 1 = A := by omega
  have nC : ¬ A + 1 + 1 + 1 = A := by omega
  have nD : ¬ A + 1 + 1 + 1 = A + 1 + 1 := by omega
  clear hk5 hj5 a0 a2 a3 hd7 hj7 hk57 hb7 hx7 k5o kp7 x0 lx
  have b0 : ((w5.setCell ⟨A, 0, none⟩ (.pointer (some ⟨jb0, 0, none⟩))).setCell ⟨A + 1 + 1, 0, none⟩ (.int .u64 1)).heap[A]? = some (.cells #[.pointer (some ⟨jb0, 0, none⟩), .pointer none] 70 (0, 0)) := (Below.heap_setCell _ _ _ _ nA).trans ((block_set HG5.out.1.1 _).trans rfl)
  have b1 : ((w5.setCell ⟨A, 0, none⟩ (.pointer (some ⟨jb0, 0, none⟩))).setCell ⟨A + 1 + 1, 0, none⟩ (.int .u64 1)).heap[A + 1]? = some (.cells #[.slice none 0 0, .slice none 0 0] 71 (0, 0)) := (Below.heap_setCell _ _ _ _ (by show A + 1 ≠ A + 1 + 1; omega)).trans ((Below.heap_setCell _ _ _ _ (by show A + 1 ≠ A; omega)).trans HG5.out.1.2.1)
  have b2 : ((w5.setCell ⟨A, 0, none⟩ (.pointer (some ⟨jb0, 0, none⟩))).setCell ⟨A + 1 + 1, 0, none⟩ (.int .u64 1)).heap[A + 1 + 1]? = some (.cells #[.int .u64 1, .int .u64 0] 73 (0, 0)) := (block_set ((Below.heap_setCell _ _ _ _ nB).trans HG5.out.1.2.2.1) _).trans rfl
  have b3 : ((w5.setCell ⟨A, 0, none⟩ (.pointer (some ⟨jb0, 0, none⟩))).setCell ⟨A + 1 + 1, 0, none⟩ (.int .u64 1)).heap[A + 1 + 1 + 1]? = some (.cells #[.string ⟨#[111, 110, 101]⟩, .string ⟨#[111, 116, 104, 101, 114]⟩] 74 (0, 0)) := (Below.heap_setCell _ _ _ _ nD).trans ((Below.heap_setCell _ _ _ _ nC).trans HG5.out.1.2.2.2)
  have HG7 := hide (And.intro b0 (And.intro b1 (And.intro b2 b3)))
  clear b0 b1 b2 b3
  go_wp2_with fail
  generalize hw7 : (w5.setCell ⟨A, 0, none⟩ (.pointer (some ⟨jb0, 0, none⟩))).setCell ⟨A + 1 + 1, 0, none⟩ (.int .u64 1) = w7 at *
  have d31 : w7.cell? ⟨A + 1 + 1 + 1, 1, none⟩ = some (.string ⟨#[111, 116, 104, 101, 114]⟩) := by simp [World.cell?, HG7.out.2.2.2]
  have l7 := lt_of_block HG7.out.2.2.2
  clear hw7 c00 c01 c20 c21 c31 l0 l2 l3
  rw [rounds_succ]
  go_wp2_with fail
  refine HO2.out.mono ?_
  rintro e w8 ⟨K8, hk8, ⟨_, jb1, rfl, hj8⟩ | ⟨hf, _⟩⟩
  rotate_left
  · exact absurd rfl hf
  have g8 : ∀ {b : Nat} {c : Array Value} {t : TypeId} {q : Nat}, w7.heap[b]? = some (.cells c t (0, 0)) → K5 b = (4, q) → w8.heap[b]? = some (.cells c t (0, 0)) ∧ K8 b = (4, q) := fun {b c t q} e hb => ⟨(hk8.block b (lt_of_block e) (by rw [hb]; exact no _ _ _ (by omega))).trans e, (hk8.same b (lt_of_block e)).trans hb⟩
  have a0 := (g8 HG7.out.1 HG5.out.2.1)
  have a1 := (g8 HG7.out.2.1 HG5.out.2.2.1)
  have a2 := (g8 HG7.out.2.2.1 HG5.out.2.2.2.1)
  have a3 := (g8 HG7.out.2.2.2 HG5.out.2.2.2.2)
  have c00 : w8.cell? ⟨A, 1, none⟩ = some (.pointer none) := by simp [World.cell?, a0.1]
  have c01 : ∀ o, w8.frozen? ⟨A, o, none⟩ = false := fun o => by simp [World.frozen?, a0.1]
  have c20 : w8.cell? ⟨A + 1 + 1, 1, none⟩ = some (.int .u64 0) := by simp [World.cell?, a2.1]
  have c21 : ∀ o, w8.frozen? ⟨A + 1 + 1, o, none⟩ = false := fun o => by simp [World.frozen?, a2.1]
  have l0 := lt_of_block a0.1
  have l2 := lt_of_block a2.1
  have hP : Pv W ((w8.setCell ⟨A, 1, none⟩ (.pointer (some ⟨jb1, 0, none⟩))).setCell ⟨A + 1 + 1, 1, none⟩ (.int .u64 1)) K8 w2.heap.size A (A + 1) (A + 1 + 1) (A + 1 + 1 + 1) (St.new 262144) (fun i => if i = 0 then jb0 else jb1) (fun i => jnew (nmo i) ([], 0, false, 0)) (fun _ => .slice none 0 0) (fun _ => []) (fun _ => 1) bx := by
    have kp9 : Kp (fun q => q.1 = 4) K8 K8 w8 ((w8.setCell ⟨A, 1, none⟩ (.pointer (some ⟨jb1, 0, none⟩))).setCell ⟨A + 1 + 1, 1, none⟩ (.int .u64 1)) := ((Kp.refl (fun q : Nat × Nat => q.1 = 4) K8 w8).setCell (Or.inr (by rw [a0.2])) _ _).setCell (Or.inr (by rw [a2.2])) _ _
    have hk79 : Kp (fun q => q.1 = 3 ∨ q.1 = 4) K5 K8 w7 ((w8.setCell ⟨A, 1, none⟩ (.pointer (some ⟨jb1, 0, none⟩))).setCell ⟨A + 1 + 1, 1, none⟩ (.int .u64 1)) := (hk8.mono (fun q e => Or.inl e)).trans (kp9.mono (fun q e => Or.inr e))
    have lx7 := lt_of_block HX7.out
    refine ⟨hk79.below HB7.out (fun b hb => by rw [HK5.out b (by omega)]; simp), fun b hb => (hk79.same b (by omega)).trans (HK5.out b hb), (hk79.block _ lx7 (by rw [HK5.out _ (by omega)]; simp)).trans HX7.out, HD7.out.kept hk79 (fun q => by show ¬ (1 = 3 ∨ 1 = 4); omega), fun i hi => ?_, ?_, a0.2, ?_, a1.2, ?_, a2.2, ?_, a3.2, fun i hi => ⟨[], bok_nil _ _ _⟩⟩
    · have hi2 : i = 0 ∨ i = 1 := by omega
      rcases hi2 with e | e <;> subst e
      · exact HJ7.out.kept hk79 (fun q => by show ¬ (2 = 3 ∨ 2 = 4); omega)
      · exact hj8.kept kp9 (fun q => by show ¬ 3 = 4; omega)
    · exact (Below.heap_setCell _ _ _ _ nA).trans ((block_set a0.1 _).trans rfl)
    · exact (Below.heap_setCell _ _ _ _ (by show A + 1 ≠ A + 1 + 1; omega)).trans ((Below.heap_setCell _ _ _ _ (by show A + 1 ≠ A; omega)).trans a1.1)
    · exact (block_set ((Below.heap_setCell _ _ _ _ nB).trans a2.1) _).trans rfl
    · exact (Below.heap_setCell _ _ _ _ nD).trans ((Below.heap_setCell _ _ _ _ nC).trans a3.1)
  have HP9 := hide hP
  clear hP hk8 hj8 a0 a1 a2 a3 d31 l7
  go_wp2_with fail
  generalize hw9 : (w8.setCell ⟨A, 1, none⟩ (.pointer (some ⟨jb1, 0, none⟩))).setCell ⟨A + 1 + 1, 1, none⟩ (.int .u64 1) = w9 at *
  clear hw9 c00 c01 c20 c21 l0 l2
  have hbx : w9.heap[W.heap.size]? = some (.cells #[.slice sp m cap, .slice op om oc, .slice pp pm pc] 68 (0, 0)) := HP9.out.box.trans (congrArg some HBx.out)
  obtain ⟨y0, y1, y2, yf⟩ := blk3 hbx
  have lw9 := lt_of_block hbx
  have HPl := hide (places_any w9 sp m cap l 20 HM.out hml (by omega) (HC.out.below HP9.out.bel) (fun c hc => (HO.out c hc).below HP9.out.bel))
  rw [show ((20 : Nat) : Int) = 20 from rfl] at HPl
  clear hbx
  rw [rounds_succ]
  go_wp2_with fail
  refine HPl.out.mono ?_
  rintro e wA ⟨la, lc, rfl, hrA, hbA⟩
  have HPA := hide (HP9.out.below hbA)
  have hqok : ∀ c ∈ plc l 20, fitsB c.ps = true ∧ ClOk W c := fun c hc => by
    have h1 := List.mem_of_mem_take hc
    rw [List.mem_filter] at h1
    exact ⟨h1.2, HO.out c h1.1⟩
  have hql : (plc l 20).length ≤ 20 := by unfold plc; rw [List.length_take]; omega
  obtain ⟨L, hL⟩ : ∃ L, plc l 20 = L := ⟨_, rfl⟩
  rw [hL] at hrA hqok hql ⊢
  obtain ⟨q, hq⟩ : ∃ q, L.length = q := ⟨_, rfl⟩
  rw [hq] at hrA hql ⊢
  have HRA : Hid (Rk wA (ext K8 w9.heap.size (0, 0)) (0, 0) 48 2 (.slice la q lc) q (clv L)) := by
    refine ⟨⟨hrA.1, hrA.2.imp id (fun ⟨g, cap, cur, e1, _, r⟩ => ⟨g, cap, cur, e1, Nat.zero_le _, r⟩)⟩, fun g e => ext_new _ _ ?_⟩
    rcases hrA.2 with ⟨e1, _⟩ | ⟨g3, _, _, e1, e2, _⟩
    · rw [e1] at e; simp [Value.ownBlock] at e
    · rw [e1] at e; simp [Value.ownBlock] at e; omega
  have HQ := hide hqok
  have HQl := hide hq
  clear hrA hbA hqok hL hq y0 y1 y2 yf lw9
  go_wp2
  go_loopw [13] (fun i wr => ∃ (c : Nat) (K : Knd) (S : St) (J : Nat → Jr) (v : Nat → Value) (lb : Nat → List (List (List Nat))) (n : Nat → Nat), c ≤ q ∧ i = .int .i64 c ∧ Hid (Pv W wr K w2.heap.size A (A + 1) (A + 1 + 1) (A + 1 + 1 + 1) S (fun i => if i = 0 then jb0 else jb1) J v lb (fun i => n i + (lb i).length) bx) ∧ Hid (Pd S J lb n c) ∧ Hid (Rk wr K (0, 0) 48 2 (.slice la q lc) q (clv L))) (fun i _ => q - (intOf i).toNat)
  case atStart => exact ⟨0, _, _, _, _, _, fun _ => 1, Nat.zero_le _, rfl, HPA, hide new_pd, HRA⟩
  case round =>
    obtain ⟨c, K, S, J, v, lb, n, hc, rfl, HP, HD, HR⟩ := hrel
    have hbx : wr.heap[W.heap.size]? = some (.cells #[.slice sp m cap, .slice op om oc, .slice pp pm pc] 68 (0, 0)) := HP.out.box.trans (congrArg some HBx.out)
    obtain ⟨y0, y1, y2, yf⟩ := blk3 hbx
    have lwr := lt_of_block hbx
    clear hbx
    by_cases hlt : c < q
    · have hlt' : (c : Int) < (q : Int) := by omega
      have c0 : (0 : Int) ≤ (c : Int) := by omega
      have goalZ : ∀ wq : World, Below wr.heap.size wr wq → Hid (Pv W wq (ext K wr.heap.size (0, 0)) w2.heap.size A (A + 1) (A + 1 + 1) (A + 1 + 1 + 1) S (fun i => if i = 0 then jb0 else jb1) J v lb (fun i => n i + (lb i).length) bx) ∧ Hid (Rk wq (ext K wr.heap.size (0, 0)) (0, 0) 48 2 (.slice la q lc) q (clv L)) := fun wq hb => ⟨hide (HP.out.below hb), hide (HR.out.kept (kp_below hb (fun _ => False) K (0, 0)) (fun h => h))⟩
      have HGZ := hide goalZ
      clear goalZ
      by_cases ho0 : om = 0
      · obtain ⟨i, hi, ei⟩ := bit1 (c : Int)
        subst ho0
        go_wp2_with fail
        obtain ⟨hPq, hRq⟩ := HGZ.out wr (Below.refl _ _)
        obtain ⟨Kq, hKq⟩ : ∃ Kq, ext K wr.heap.size (0, 0) = Kq := ⟨_, rfl⟩
        rw [hKq] at hPq hRq
        have hPq := hPq.out
        have hRq := hRq.out
        clear HGZ hKq y0 y1 y2 yf
        have pk0 : ¬ Pk 1 (2 + i) (0, 0) := by
          rintro (e | e | e)
          · exact absurd e (by show ¬ (0 = 1); omega)
          · have := congrArg Prod.fst e; simp at this; omega
          · have := congrArg Prod.fst e; simp at this; omega
        obtain ⟨wq, hwq⟩ : ∃ wq, wq = wr := ⟨_, rfl⟩
        rw [← hwq] at hPq hRq ⊢
        clear hwq
        have HPq := hide hPq
        have HRq := hide hRq
        clear hPq hRq
        obtain ⟨x, hx⟩ : ∃ x, L[c]? = some x := ⟨_, List.getElem?_eq_getElem (by have := HQl.out; omega)⟩
        obtain ⟨hfx, hxo⟩ := HQ.out x (List.mem_of_getElem? hx)
        obtain ⟨g, og, hla, hgl, hcs⟩ : ∃ g o, la = some ⟨g, o, none⟩ ∧ g < wq.heap.size ∧ ∀ (j : Nat) (c : Cl), L[j]? = some c → wq.cell? ⟨g, o + j * 2, none⟩ = some (.bool c.b) ∧ wq.cell? ⟨g, o + j * 2 + 1, none⟩ = some (.slice c.pp c.k c.cap) := by
          rcases (cls_own HRq.out.own).lie with e | e
          · rw [e] at hx; simp at hx
          · exact e
        obtain ⟨t0, t1⟩ := hcs c x hx
        obtain ⟨xb, xp, xk, xc, xs⟩ := x
        simp only at t0 t1 hfx
        have hx4 : xk ≤ 4096 := by have := (fits_small hfx).1; have := hxo.len; simp only at this; omega
        obtain ⟨S', J', hcr, hpd⟩ := HD.out.step (by omega) hi xb xs hfx hxo.small
        have hbi := HD.out.jd i hi
        have hcn := HD.out.cnt i hi
        have hrl : (J i).recs.length = (lb i).length := by rw [hbi.recs, recs_length]
        have hgd : goodN (J i) ≤ 1099511627776 := by
          have h1 := trns_lens hbi.trns
          rw [← hbi.recs] at h1
          have key : ∀ (l : List (List Nat)), (∀ r ∈ l, 25 ≤ r.length ∧ r.length ≤ 4194304) → (l.map List.length).sum ≤ l.length * 4194304 := fun l => by
            induction l with
            | nil => intro _; simp
            | cons a l ih => intro h; have h2 := ih (fun r hr => h r (List.mem_cons_of_mem _ hr)); have h3 := (h a (by simp)).2; simp only [List.map_cons, List.sum_cons, List.length_cons]; omega
          have h2 := key _ h1
          show ((J i).recs.map List.length).sum ≤ _
          omega
        have kd : Kp (fun _ => False) Kq Kq wq wq.drew := (Kp.refl _ _ _).drew
        have hTq : C.Tab wq.drew := HT.out.below HPq.out.bel.drew HT.out.pos
        have HRun := hide (run_any xb wq.drew Kq 1 (2 + i) w2.heap.size _ (by omega) S (J i) (HPq.out.disk.kept kd (fun _ h => h)) HD.out.stl.inv (20971525 * c) HD.out.stl.sz (by omega) ((HPq.out.js i hi).kept kd (fun _ h => h)) (nm_len hbi.d.nm2).2 hgd (by omega) (by have := hbi.last; omega) xp xk xc xs hxo.len hx4 (hxo.pts.below HPq.out.bel.drew) hxo.small hTq)
        rw [hcr] at HRun
        obtain ⟨q0, q1, q2, q3, qf0, qf1, qf2, m0, m1, m2, m3⟩ := HPq.out.cells hi
        have HKd := hide kd
        have HPd := hide hpd
        have HXo := hide hxo
        have HFx := hide hfx
        have HXx := hide hx
        have ci0 : (0 : Int) ≤ (i : Int) := by omega
        have ci1 : (i : Int) < 2 := by omega
        clear hcs kd hTq hcr hpd hgd hrl hbi hcn hxo hfx hx
        subst hla
        generalize hjbi : (if i = 0 then jb0 else jb1) = ji at *
        have HJi := hide hjbi
        clear hjbi
        go_region_held3 (fun w' => w'.cell? ⟨g, og + c * 2, none⟩ = some (.bool xb) ∧ w'.cell? ⟨g, og + c * 2 + 1, none⟩ = some (.slice xp xk xc) ∧ w'.cell? ⟨A, i, none⟩ = some (.pointer (some ⟨ji, 0, none⟩))) (go_keep) (first | (go_at_call 27; refine HRun.out.mono ?_; rintro e w5 ⟨K5, rfl, hd5, hj5, hk5⟩; have HKp5 : Hid (Kp (Pk 1 (2 + i)) Kq K5 wq w5) := (HKd.out.mono (fun _ h => h.elim)).trans hk5; have HP5 := hide (HPq.out.ran hi HKp5.out hd5 (by simp only [HJi.out]; exact hj5)); have HR5 := hide (HRq.out.kept HKp5.out pk0); obtain ⟨e0, e1, e2, e3, ef0, ef1, ef2, n0, n1, n2, n3⟩ := HP5.out.cells hi; simp only [HJi.out] at e0; have hgb : w5.heap[g]? = wq.heap[g]? := HKp5.out.block g hgl (by rw [HRq.out.kind g rfl]; exact pk0); have u0 : w5.cell? ⟨g, og + c * 2, none⟩ = _ := (World.cell?_of_block hgb).trans t0; have u1 : w5.cell? ⟨g, og + c * 2 + 1, none⟩ = _ := (World.cell?_of_block hgb).trans t1; have hgl5 := Nat.lt_of_lt_of_le hgl HKp5.out.size; clear hd5 hj5 hk5 hgb) | fail)
        go_wp2_with fail
        obtain ⟨bvs, hbk⟩ := HP5.out.bk i hi
        obtain ⟨va, vc, hvi, _, _⟩ := hbk.row.form
        rw [hvi] at hbk e1
        have hln : (lb i).length ≤ 21 := by have := HD.out.cnt i hi; omega
        have kd5 : Kp (fun _ => False) K5 K5 w5 w5.drew := (Kp.refl _ _ _).drew
        have HAf := hide (after_any W w5.drew K5 xb xp xk xc xs HXo.out.len hx4 HXo.out.pts _ (lb i) bvs (hbk.kept kd5 (fun h => h)) (by omega))
        obtain ⟨N0, hN0⟩ : ∃ N0, n i + (lb i).length = N0 := ⟨_, rfl⟩
        have hN0b : N0 ≤ 21 := by have := HD.out.cnt i hi; omega
        have HN0 := hide hN0
        obtain ⟨N1, hN1⟩ : ∃ N1, N0 + 1 = N1 := ⟨_, rfl⟩
        have hN1' : (N0 : Int) + 1 = (N1 : Int) := by omega
        have hN1b : N1 ≤ 22 := by omega
        have HN1 := hide hN1
        have nE : ¬ A + 1 + 1 = A + 1 := by omega
        have nF : ¬ A + 1 = A + 1 + 1 := by omega
        clear hN1
        generalize hbn : (lb i).length = bn at *
        have HBn := hide hbn
        have HVi := hide hvi
        clear hbk kd5 hvi hN0 hbn q0 q1 q2 q3 qf0 qf1 qf2 m0 m1 m2 m3 t0 t1
        go_region_law (first | (go_simp; go_at_call 28; refine HAf.out.mono ?_; rintro e w6 ⟨v6, vs6, rfl, hb6, hbw6⟩; have HBe6 : Hid (Below w5.heap.size w5 w6) := ⟨hbw6.os, hbw6.tape, hbw6.output, hbw6.size, hbw6.block⟩; obtain ⟨a6, c6, hv6, _, _⟩ := hb6.row.form; subst hv6; have HB6 := hide hb6; obtain ⟨j0, j1, j2, j3, jf0, jf1, jf2, o0, o1, o2, o3⟩ := (HP5.out.below HBe6.out).cells hi; rw [HVi.out] at j1; have j2' : w6.cell? ⟨A + 1 + 1, i, none⟩ = some (.int .u64 (N0 : Int)) := (by rw [j2]; simp only [HBn.out, HN0.out]); clear hb6 hbw6 j0 j2 j3 jf0 o0 o3))
        all_goals
          have HP8 := hide (((HP5.out.below HBe6.out).booked hi HB6.out).nexted hi N1)
          have HR8 : Hid (Rk ((w6.setCell ⟨A + 1, i, none⟩ (.slice a6 (lAf xb (lb i) xs).length c6)).setCell ⟨A + 1 + 1, i, none⟩ (.int .u64 (N1 : Int))) (ext K5 w5.heap.size (0, 0)) (0, 0) 48 2 (.slice (some ⟨g, og, none⟩) q lc) q (clv L)) := by
            have kb := kp_below HBe6.out (fun q => q.1 = 4) K5 (0, 0)
            have h1 := (HP5.out.below HBe6.out).kba
            have h2 := (HP5.out.below HBe6.out).kna
            exact HR5.out.kept (((kb.trans (Kp.refl _ _ _)).trans (((Kp.refl (fun q : Nat × Nat => q.1 = 4) (ext K5 w5.heap.size (0, 0)) w6).setCell (Or.inr (by rw [h1])) _ _).setCell (Or.inr (by rw [h2])) _ _))) (by show ¬ 0 = 4; omega)
          have HD8 : Hid (Pd S' (up J i J') (up lb i (lAf xb (lb i) xs)) (up n i (nAf xb (n i) (lb i))) (c + 1)) := HPd
          have HNx : Hid (up (fun i => n i + (lb i).length) i N1 = fun j => up n i (nAf xb (n i) (lb i)) j + (up lb i (lAf xb (lb i) xs) j).length) := by
            show _ = _
            funext j
            by_cases ej : j = i
            · subst ej
              rw [up_at, up_at, up_at, ← HN1.out, ← HN0.out, ← HBn.out]
              unfold nAf lAf
              cases xb <;> simp <;> omega
            · rw [up_ne _ _ ej, up_ne _ _ ej, up_ne _ _ ej]
          rw [HNx.out] at HP8
          go_wp2_with fail
          clear j1 j2' jf1 jf2 o1 o2 e0 e1 e2 e3 ef0 ef1 ef2 n0 n1 n2 n3 u0 u1
          generalize hw8 : (w6.setCell ⟨A + 1, i, none⟩ (.slice a6 (lAf xb (lb i) xs).length c6)).setCell ⟨A + 1 + 1, i, none⟩ (.int .u64 (N1 : Int)) = w8 at *
          generalize up J i J' = J8 at *
          generalize up lb i (lAf xb (lb i) xs) = l8 at *
          generalize up n i (nAf xb (n i) (lb i)) = n8 at *
          generalize up v i (.slice a6 (lAf xb (lb i) xs).length c6) = v8 at *
          generalize ext K5 w5.heap.size (0, 0) = K8 at *
          clear hw8 HNx
          go_loopw [15] (fun k wr => ∃ (k' : Nat) (Kk : Knd), k' ≤ 2 ∧ k = .int .i64 k' ∧ Hid (Pv W wr Kk w2.heap.size A (A + 1) (A + 1 + 1) (A + 1 + 1 + 1) S' (fun i => if i = 0 then jb0 else jb1) J8 v8 l8 (fun i => n8 i + (l8 i).length) bx) ∧ Hid (Rk wr Kk (0, 0) 48 2 (.slice (some ⟨g, og, none⟩) q lc) q (clv L))) (fun k _ => 2 - (intOf k).toNat)
          case atStart => exact ⟨0, _, Nat.zero_le _, rfl, HP8, HR8⟩
          case round =>
            obtain ⟨k, Kk, hk, rfl, HPk, HRk⟩ := hrel
            by_cases hk2 : k < 2
            · have hk2' : (k : Int) < 2 := by omega
              have hk0 : (0 : Int) ≤ (k : Int) := by omega
              obtain ⟨q0, q1, q2, q3, qf0, qf1, qf2, m0, m1, m2, m3⟩ := HPk.out.cells hk2
              have hb := HD8.out.jd k hk2
              have hcn := HD8.out.cnt k hk2
              have hrl : (J8 k).recs.length = (l8 k).length := by rw [hb.recs, recs_length]
              have kd : Kp (fun _ => False) Kk Kk wr wr.drew := (Kp.refl _ _ _).drew
              have hAll := All_any wr.drew Kk (2 + k) w2.heap.size _ (J8 k) ((HPk.out.js k hk2).kept kd (fun _ h => h)) (by rw [hb.recs]; exact trns_lens hb.trns) (by omega) (HT.out.below HPk.out.bel.drew HT.out.pos)
              rw [hrl, hb.recs, allOf_recs (l8 k) (n8 k) hb.trns] at hAll
              have HAll := hide hAll
              obtain ⟨bvs, hbk⟩ := HPk.out.bk k hk2
              obtain ⟨va, vc, hvi, _, _⟩ := hbk.row.form
              rw [hvi] at hbk q1
              have HBk := hide hbk
              have HFw : Hid (∀ ps ∈ l8 k, ps.length ≤ 4096 ∧ ∀ p ∈ ps, p.length ≤ 140737488351232) := trns_few hb.trns
              obtain ⟨Nk, hNk⟩ : ∃ Nk, n8 k + (l8 k).length = Nk := ⟨_, rfl⟩
              have HLast : Hid ((J8 k).last + 1 = Nk) := by rw [← hNk]; exact hb.last
              have hNb : Nk ≤ 22 := by omega
              simp only [hNk] at q2
              have HRl := hide hrl
              have hlb : (l8 k).length ≤ 22 := by omega
              generalize hbn : (l8 k).length = bn at *
              have HBn8 := hide hbn
              generalize hjk : (if k = 0 then jb0 else jb1) = jk at *
              have HJk := hide hjk
              clear hb hcn hrl hAll hbk hvi hNk kd hbn hjk
              go_wp2_with fail
              go_region_held3 (fun w' => w'.cell? ⟨A, k, none⟩ = some (.pointer (some ⟨jk, 0, none⟩)) ∧ w'.cell? ⟨A + 1, k, none⟩ = some (.slice va bn vc) ∧ w'.cell? ⟨A + 1 + 1, k, none⟩ = some (.int .u64 (Nk : Int))) (go_keep) (first | (go_at_call 20; refine HLn.out.mono ?_; rintro e wC ⟨rfl, h9⟩; have h9 := h9.symm; subst h9) | (go_at_call 29; refine HNx2.out.mono ?_; rintro e wC ⟨rfl, h9⟩; have h9 := h9.symm; subst h9) | (go_at_call 13; refine HTr.out.mono ?_; rintro e wB ⟨rfl, qq, hwB⟩; have HWB := hide hwB; have z0 : wB.cell? ⟨A, k, none⟩ = some (.pointer (some ⟨jk, 0, none⟩)) := (by rw [hwB]; exact r0); have z1 : wB.cell? ⟨A + 1, k, none⟩ = some (.slice va bn vc) := (by rw [hwB]; exact r1); have z2 : wB.cell? ⟨A + 1 + 1, k, none⟩ = some (.int .u64 (Nk : Int)) := (by rw [hwB]; exact r2); have hjB : Jk wB (ext Kk wr.heap.size (0, 0)) (2 + k) w2.heap.size jk (J8 k) := (by rw [hwB]; exact HJa.out.kept ((Kp.refl (fun _ => False) (ext Kk wr.heap.size (0, 0)) wA).drewN qq) (fun _ h => h)); have hll : (J8 k).last < 18446744073709551615 := (by have h := HLast.out; omega); have HNx2 := hide (next_any wB _ _ _ _ _ hjB hll); have HLn := hide (jlen_any wB _ _ _ _ _ hjB); rw [HLast.out] at HNx2; rw [HRl.out] at HLn; clear hwB hjB hll) | (go_at_call 14; refine HAll.out.mono ?_; rintro e wA ⟨aA, cA, rfl, htr, hbw⟩; have HBa : Hid (Below wr.heap.size wr wA) := ⟨hbw.os, hbw.tape, hbw.output, hbw.size, hbw.block⟩; have HPa := hide (HPk.out.below HBa.out); have HJa : Hid (Jk wA (ext Kk wr.heap.size (0, 0)) (2 + k) w2.heap.size jk (J8 k)) := (by have h := HPa.out.js k hk2; simp only [HJk.out] at h; exact h); have r0 : wA.cell? ⟨A, k, none⟩ = _ := (HBa.out.cell (p := ⟨A, k, none⟩) m0).trans q0; have r1 : wA.cell? ⟨A + 1, k, none⟩ = _ := (HBa.out.cell (p := ⟨A + 1, k, none⟩) m1).trans q1; have r2 : wA.cell? ⟨A + 1 + 1, k, none⟩ = _ := (HBa.out.cell (p := ⟨A + 1 + 1, k, none⟩) m2).trans q2; have HTr := hide (trans_same wA aA va bn cA vc (l8 k) HBn8.out (by omega) (htr.trs HFw.out) ((HBk.out.kept (kp_below HBa.out (fun _ => False) Kk (0, 0)) (fun h => h)).trs HPa.out.bel)); clear htr hbw) | fail)
              all_goals go_wp2_with fail
              go_roundw
              case rel =>
                have kB : Kp (fun _ => False) (ext Kk wr.heap.size (0, 0)) (ext Kk wr.heap.size (0, 0)) wA wB := by rw [HWB.out]; exact ⟨rfl, rfl, rfl, Nat.le_refl _, fun _ _ => rfl, fun _ _ _ => rfl⟩
                have bB : Below wA.heap.size wA wB := by rw [HWB.out]; exact ⟨rfl, rfl, rfl, Nat.le_refl _, fun _ _ => rfl⟩
                exact ⟨k + 1, _, by omega, by go_num, hide (HPa.out.below bB), hide ((HRk.out.kept (kp_below HBa.out (fun _ => False) Kk (0, 0)) (fun h => h)).kept (kp_below bB (fun _ => False) _ (0, 0)) (fun h => h))⟩
              case measure => simp [intOf]; omega
            · obtain rfl : k = 2 := by omega
              go_wp2_with fail
              go_roundw
              case rel => exact ⟨c + 1, Kk, S', J8, v8, l8, n8, by omega, by go_num, HPk, HD8, HRk⟩
              case measure => simp [intOf]; omega
      · have ho1 : (0 : Int) < (om : Int) := by omega
        obtain ⟨z, hz, hzr⟩ : ∃ (z : Int) (g o : Nat), op = some ⟨g, o, none⟩ ∧ g < W.heap.size ∧ W.cell? ⟨g, o + c % om, none⟩ = some (.int .i64 z) := by
          rcases HOn.out.lie with e | ⟨g, o, e, hg, hcs⟩
          · have := HOm.out; rw [e] at this; simp at this; omega
          · exact ⟨_, g, o, e, hg, hcs (c % om) (by rw [HOm.out]; exact Nat.mod_lt _ (by omega))⟩
        obtain ⟨o, rfl, hg, hcz⟩ := hzr
        obtain ⟨i, hi, ei⟩ := bit1 z
        obtain ⟨r, hr⟩ : ∃ r, c % om = r := ⟨_, rfl⟩
        rw [hr] at hcz
        have hr1 : (c : Int).tmod (om : Int) = (r : Int) := by rw [Int.tmod_eq_emod_of_nonneg (by omega)]; omega
        have hr2 : (c : Int) % (om : Int) = (r : Int) := by omega
        have hr3 : (0 : Int) ≤ (r : Int) := by omega
        have hr4 : (r : Int) < (om : Int) := by have := Nat.mod_lt c (show om > 0 by omega); omega
        have hcw := (HP.out.bel.cell (p := ⟨hz, o + r, none⟩) hg).trans hcz
        have hom0 : ¬ (om : Int) = 0 := by omega
        clear hr hcz
        go_wp2_with fail
        go_region
        go_wp2_with fail
        obtain ⟨hPq, hRq⟩ := HGZ.out wr.drew ((Below.refl _ _).drew)
        obtain ⟨Kq, hKq⟩ : ∃ Kq, ext K wr.heap.size (0, 0) = Kq := ⟨_, rfl⟩
        rw [hKq] at hPq hRq
        have hPq := hPq.out
        have hRq := hRq.out
        clear HGZ hKq y0 y1 y2 yf
        have pk0 : ¬ Pk 1 (2 + i) (0, 0) := by
          rintro (e | e | e)
          · exact absurd e (by show ¬ (0 = 1); omega)
          · have := congrArg Prod.fst e; simp at this; omega
          · have := congrArg Prod.fst e; simp at this; omega
        obtain ⟨wq, hwq⟩ : ∃ wq, wq = wr.drew := ⟨_, rfl⟩
        rw [← hwq] at hPq hRq ⊢
        clear hwq
        have HPq := hide hPq
        have HRq := hide hRq
        clear hPq hRq
        obtain ⟨x, hx⟩ : ∃ x, L[c]? = some x := ⟨_, List.getElem?_eq_getElem (by have := HQl.out; omega)⟩
        obtain ⟨hfx, hxo⟩ := HQ.out x (List.mem_of_getElem? hx)
        obtain ⟨g, og, hla, hgl, hcs⟩ : ∃ g o, la = some ⟨g, o, none⟩ ∧ g < wq.heap.size ∧ ∀ (j : Nat) (c : Cl), L[j]? = some c → wq.cell? ⟨g, o + j * 2, none⟩ = some (.bool c.b) ∧ wq.cell? ⟨g, o + j * 2 + 1, none⟩ = some (.slice c.pp c.k c.cap) := by
          rcases (cls_own HRq.out.own).lie with e | e
          · rw [e] at hx; simp at hx
          · exact e
        obtain ⟨t0, t1⟩ := hcs c x hx
        obtain ⟨xb, xp, xk, xc, xs⟩ := x
        simp only at t0 t1 hfx
        have hx4 : xk ≤ 4096 := by have := (fits_small hfx).1; have := hxo.len; simp only at this; omega
        obtain ⟨S', J', hcr, hpd⟩ := HD.out.step (by omega) hi xb xs hfx hxo.small
        have hbi := HD.out.jd i hi
        have hcn := HD.out.cnt i hi
        have hrl : (J i).recs.length = (lb i).length := by rw [hbi.recs, recs_length]
        have hgd : goodN (J i) ≤ 1099511627776 := by
          have h1 := trns_lens hbi.trns
          rw [← hbi.recs] at h1
          have key : ∀ (l : List (List Nat)), (∀ r ∈ l, 25 ≤ r.length ∧ r.length ≤ 4194304) → (l.map List.length).sum ≤ l.length * 4194304 := fun l => by
            induction l with
            | nil => intro _; simp
            | cons a l ih => intro h; have h2 := ih (fun r hr => h r (List.mem_cons_of_mem _ hr)); have h3 := (h a (by simp)).2; simp only [List.map_cons, List.sum_cons, List.length_cons]; omega
          have h2 := key _ h1
          show ((J i).recs.map List.length).sum ≤ _
          omega
        have kd : Kp (fun _ => False) Kq Kq wq wq.drew := (Kp.refl _ _ _).drew
        have hTq : C.Tab wq.drew := HT.out.below HPq.out.bel.drew HT.out.pos
        have HRun := hide (run_any xb wq.drew Kq 1 (2 + i) w2.heap.size _ (by omega) S (J i) (HPq.out.disk.kept kd (fun _ h => h)) HD.out.stl.inv (20971525 * c) HD.out.stl.sz (by omega) ((HPq.out.js i hi).kept kd (fun _ h => h)) (nm_len hbi.d.nm2).2 hgd (by omega) (by have := hbi.last; omega) xp xk xc xs hxo.len hx4 (hxo.pts.below HPq.out.bel.drew) hxo.small hTq)
        rw [hcr] at HRun
        obtain ⟨q0, q1, q2, q3, qf0, qf1, qf2, m0, m1, m2, m3⟩ := HPq.out.cells hi
        have HKd := hide kd
        have HPd := hide hpd
        have HXo := hide hxo
        have HFx := hide hfx
        have HXx := hide hx
        have ci0 : (0 : Int) ≤ (i : Int) := by omega
        have ci1 : (i : Int) < 2 := by omega
        clear hcs kd hTq hcr hpd hgd hrl hbi hcn hxo hfx hx
        subst hla
        generalize hjbi : (if i = 0 then jb0 else jb1) = ji at *
        have HJi := hide hjbi
        clear hjbi
        go_region_held3 (fun w' => w'.cell? ⟨g, og + c * 2, none⟩ = some (.bool xb) ∧ w'.cell? ⟨g, og + c * 2 + 1, none⟩ = some (.slice xp xk xc) ∧ w'.cell? ⟨A, i, none⟩ = some (.pointer (some ⟨ji, 0, none⟩))) (go_keep) (first | (go_at_call 27; refine HRun.out.mono ?_; rintro e w5 ⟨K5, rfl, hd5, hj5, hk5⟩; have HKp5 : Hid (Kp (Pk 1 (2 + i)) Kq K5 wq w5) := (HKd.out.mono (fun _ h => h.elim)).trans hk5; have HP5 := hide (HPq.out.ran hi HKp5.out hd5 (by simp only [HJi.out]; exact hj5)); have HR5 := hide (HRq.out.kept HKp5.out pk0); obtain ⟨e0, e1, e2, e3, ef0, ef1, ef2, n0, n1, n2, n3⟩ := HP5.out.cells hi; simp only [HJi.out] at e0; have hgb : w5.heap[g]? = wq.heap[g]? := HKp5.out.block g hgl (by rw [HRq.out.kind g rfl]; exact pk0); have u0 : w5.cell? ⟨g, og + c * 2, none⟩ = _ := (World.cell?_of_block hgb).trans t0; have u1 : w5.cell? ⟨g, og + c * 2 + 1, none⟩ = _ := (World.cell?_of_block hgb).trans t1; have hgl5 := Nat.lt_of_lt_of_le hgl HKp5.out.size; clear hd5 hj5 hk5 hgb) | fail)
        go_wp2_with fail
        obtain ⟨bvs, hbk⟩ := HP5.out.bk i hi
        obtain ⟨va, vc, hvi, _, _⟩ := hbk.row.form
        rw [hvi] at hbk e1
        have hln : (lb i).length ≤ 21 := by have := HD.out.cnt i hi; omega
        have kd5 : Kp (fun _ => False) K5 K5 w5 w5.drew := (Kp.refl _ _ _).drew
        have HAf := hide (after_any W w5.drew K5 xb xp xk xc xs HXo.out.len hx4 HXo.out.pts _ (lb i) bvs (hbk.kept kd5 (fun h => h)) (by omega))
        obtain ⟨N0, hN0⟩ : ∃ N0, n i + (lb i).length = N0 := ⟨_, rfl⟩
        have hN0b : N0 ≤ 21 := by have := HD.out.cnt i hi; omega
        have HN0 := hide hN0
        obtain ⟨N1, hN1⟩ : ∃ N1, N0 + 1 = N1 := ⟨_, rfl⟩
        have hN1' : (N0 : Int) + 1 = (N1 : Int) := by omega
        have hN1b : N1 ≤ 22 := by omega
        have HN1 := hide hN1
        have nE : ¬ A + 1 + 1 = A + 1 := by omega
        have nF : ¬ A + 1 = A + 1 + 1 := by omega
        clear hN1
        generalize hbn : (lb i).length = bn at *
        have HBn := hide hbn
        have HVi := hide hvi
        clear hbk kd5 hvi hN0 hbn q0 q1 q2 q3 qf0 qf1 qf2 m0 m1 m2 m3 t0 t1
        go_region_law (first | (go_simp; go_at_call 28; refine HAf.out.mono ?_; rintro e w6 ⟨v6, vs6, rfl, hb6, hbw6⟩; have HBe6 : Hid (Below w5.heap.size w5 w6) := ⟨hbw6.os, hbw6.tape, hbw6.output, hbw6.size, hbw6.block⟩; obtain ⟨a6, c6, hv6, _, _⟩ := hb6.row.form; subst hv6; have HB6 := hide hb6; obtain ⟨j0, j1, j2, j3, jf0, jf1, jf2, o0, o1, o2, o3⟩ := (HP5.out.below HBe6.out).cells hi; rw [HVi.out] at j1; have j2' : w6.cell? ⟨A + 1 + 1, i, none⟩ = some (.int .u64 (N0 : Int)) := (by rw [j2]; simp only [HBn.out, HN0.out]); clear hb6 hbw6 j0 j2 j3 jf0 o0 o3))
        all_goals
          have HP8 := hide (((HP5.out.below HBe6.out).booked hi HB6.out).nexted hi N1)
          have HR8 : Hid (Rk ((w6.setCell ⟨A + 1, i, none⟩ (.slice a6 (lAf xb (lb i) xs).length c6)).setCell ⟨A + 1 + 1, i, none⟩ (.int .u64 (N1 : Int))) (ext K5 w5.heap.size (0, 0)) (0, 0) 48 2 (.slice (some ⟨g, og, none⟩) q lc) q (clv L)) := by
            have kb := kp_below HBe6.out (fun q => q.1 = 4) K5 (0, 0)
            have h1 := (HP5.out.below HBe6.out).kba
            have h2 := (HP5.out.below HBe6.out).kna
            exact HR5.out.kept (((kb.trans (Kp.refl _ _ _)).trans (((Kp.refl (fun q : Nat × Nat => q.1 = 4) (ext K5 w5.heap.size (0, 0)) w6).setCell (Or.inr (by rw [h1])) _ _).setCell (Or.inr (by rw [h2])) _ _))) (by show ¬ 0 = 4; omega)
          have HD8 : Hid (Pd S' (up J i J') (up lb i (lAf xb (lb i) xs)) (up n i (nAf xb (n i) (lb i))) (c + 1)) := HPd
          have HNx : Hid (up (fun i => n i + (lb i).length) i N1 = fun j => up n i (nAf xb (n i) (lb i)) j + (up lb i (lAf xb (lb i) xs) j).length) := by
            show _ = _
            funext j
            by_cases ej : j = i
            · subst ej
              rw [up_at, up_at, up_at, ← HN1.out, ← HN0.out, ← HBn.out]
              unfold nAf lAf
              cases xb <;> simp <;> omega
            · rw [up_ne _ _ ej, up_ne _ _ ej, up_ne _ _ ej]
          rw [HNx.out] at HP8
          go_wp2_with fail
          clear j1 j2' jf1 jf2 o1 o2 e0 e1 e2 e3 ef0 ef1 ef2 n0 n1 n2 n3 u0 u1
          generalize hw8 : (w6.setCell ⟨A + 1, i, none⟩ (.slice a6 (lAf xb (lb i) xs).length c6)).setCell ⟨A + 1 + 1, i, none⟩ (.int .u64 (N1 : Int)) = w8 at *
          generalize up J i J' = J8 at *
          generalize up lb i (lAf xb (lb i) xs) = l8 at *
          generalize up n i (nAf xb (n i) (lb i)) = n8 at *
          generalize up v i (.slice a6 (lAf xb (lb i) xs).length c6) = v8 at *
          generalize ext K5 w5.heap.size (0, 0) = K8 at *
          clear hw8 HNx
          go_loopw [15] (fun k wr => ∃ (k' : Nat) (Kk : Knd), k' ≤ 2 ∧ k = .int .i64 k' ∧ Hid (Pv W wr Kk w2.heap.size A (A + 1) (A + 1 + 1) (A + 1 + 1 + 1) S' (fun i => if i = 0 then jb0 else jb1) J8 v8 l8 (fun i => n8 i + (l8 i).length) bx) ∧ Hid (Rk wr Kk (0, 0) 48 2 (.slice (some ⟨g, og, none⟩) q lc) q (clv L))) (fun k _ => 2 - (intOf k).toNat)
          case atStart => exact ⟨0, _, Nat.zero_le _, rfl, HP8, HR8⟩
          case round =>
            obtain ⟨k, Kk, hk, rfl, HPk, HRk⟩ := hrel
            by_cases hk2 : k < 2
            · have hk2' : (k : Int) < 2 := by omega
              have hk0 : (0 : Int) ≤ (k : Int) := by omega
              obtain ⟨q0, q1, q2, q3, qf0, qf1, qf2, m0, m1, m2, m3⟩ := HPk.out.cells hk2
              have hb := HD8.out.jd k hk2
              have hcn := HD8.out.cnt k hk2
              have hrl : (J8 k).recs.length = (l8 k).length := by rw [hb.recs, recs_length]
              have kd : Kp (fun _ => False) Kk Kk wr wr.drew := (Kp.refl _ _ _).drew
              have hAll := All_any wr.drew Kk (2 + k) w2.heap.size _ (J8 k) ((HPk.out.js k hk2).kept kd (fun _ h => h)) (by rw [hb.recs]; exact trns_lens hb.trns) (by omega) (HT.out.below HPk.out.bel.drew HT.out.pos)
              rw [hrl, hb.recs, allOf_recs (l8 k) (n8 k) hb.trns] at hAll
              have HAll := hide hAll
              obtain ⟨bvs, hbk⟩ := HPk.out.bk k hk2
              obtain ⟨va, vc, hvi, _, _⟩ := hbk.row.form
              rw [hvi] at hbk q1
              have HBk := hide hbk
              have HFw : Hid (∀ ps ∈ l8 k, ps.length ≤ 4096 ∧ ∀ p ∈ ps, p.length ≤ 140737488351232) := trns_few hb.trns
              obtain ⟨Nk, hNk⟩ : ∃ Nk, n8 k + (l8 k).length = Nk := ⟨_, rfl⟩
              have HLast : Hid ((J8 k).last + 1 = Nk) := by rw [← hNk]; exact hb.last
              have hNb : Nk ≤ 22 := by omega
              simp only [hNk] at q2
              have HRl := hide hrl
              have hlb : (l8 k).length ≤ 22 := by omega
              generalize hbn : (l8 k).length = bn at *
              have HBn8 := hide hbn
              generalize hjk : (if k = 0 then jb0 else jb1) = jk at *
              have HJk := hide hjk
              clear hb hcn hrl hAll hbk hvi hNk kd hbn hjk
              go_wp2_with fail
              go_region_held3 (fun w' => w'.cell? ⟨A, k, none⟩ = some (.pointer (some ⟨jk, 0, none⟩)) ∧ w'.cell? ⟨A + 1, k, none⟩ = some (.slice va bn vc) ∧ w'.cell? ⟨A + 1 + 1, k, none⟩ = some (.int .u64 (Nk : Int))) (go_keep) (first | (go_at_call 20; refine HLn.out.mono ?_; rintro e wC ⟨rfl, h9⟩; have h9 := h9.symm; subst h9) | (go_at_call 29; refine HNx2.out.mono ?_; rintro e wC ⟨rfl, h9⟩; have h9 := h9.symm; subst h9) | (go_at_call 13; refine HTr.out.mono ?_; rintro e wB ⟨rfl, qq, hwB⟩; have HWB := hide hwB; have z0 : wB.cell? ⟨A, k, none⟩ = some (.pointer (some ⟨jk, 0, none⟩)) := (by rw [hwB]; exact r0); have z1 : wB.cell? ⟨A + 1, k, none⟩ = some (.slice va bn vc) := (by rw [hwB]; exact r1); have z2 : wB.cell? ⟨A + 1 + 1, k, none⟩ = some (.int .u64 (Nk : Int)) := (by rw [hwB]; exact r2); have hjB : Jk wB (ext Kk wr.heap.size (0, 0)) (2 + k) w2.heap.size jk (J8 k) := (by rw [hwB]; exact HJa.out.kept ((Kp.refl (fun _ => False) (ext Kk wr.heap.size (0, 0)) wA).drewN qq) (fun _ h => h)); have hll : (J8 k).last < 18446744073709551615 := (by have h := HLast.out; omega); have HNx2 := hide (next_any wB _ _ _ _ _ hjB hll); have HLn := hide (jlen_any wB _ _ _ _ _ hjB); rw [HLast.out] at HNx2; rw [HRl.out] at HLn; clear hwB hjB hll) | (go_at_call 14; refine HAll.out.mono ?_; rintro e wA ⟨aA, cA, rfl, htr, hbw⟩; have HBa : Hid (Below wr.heap.size wr wA) := ⟨hbw.os, hbw.tape, hbw.output, hbw.size, hbw.block⟩; have HPa := hide (HPk.out.below HBa.out); have HJa : Hid (Jk wA (ext Kk wr.heap.size (0, 0)) (2 + k) w2.heap.size jk (J8 k)) := (by have h := HPa.out.js k hk2; simp only [HJk.out] at h; exact h); have r0 : wA.cell? ⟨A, k, none⟩ = _ := (HBa.out.cell (p := ⟨A, k, none⟩) m0).trans q0; have r1 : wA.cell? ⟨A + 1, k, none⟩ = _ := (HBa.out.cell (p := ⟨A + 1, k, none⟩) m1).trans q1; have r2 : wA.cell? ⟨A + 1 + 1, k, none⟩ = _ := (HBa.out.cell (p := ⟨A + 1 + 1, k, none⟩) m2).trans q2; have HTr := hide (trans_same wA aA va bn cA vc (l8 k) HBn8.out (by omega) (htr.trs HFw.out) ((HBk.out.kept (kp_below HBa.out (fun _ => False) Kk (0, 0)) (fun h => h)).trs HPa.out.bel)); clear htr hbw) | fail)
              all_goals go_wp2_with fail
              go_roundw
              case rel =>
                have kB : Kp (fun _ => False) (ext Kk wr.heap.size (0, 0)) (ext Kk wr.heap.size (0, 0)) wA wB := by rw [HWB.out]; exact ⟨rfl, rfl, rfl, Nat.le_refl _, fun _ _ => rfl, fun _ _ _ => rfl⟩
                have bB : Below wA.heap.size wA wB := by rw [HWB.out]; exact ⟨rfl, rfl, rfl, Nat.le_refl _, fun _ _ => rfl⟩
                exact ⟨k + 1, _, by omega, by go_num, hide (HPa.out.below bB), hide ((HRk.out.kept (kp_below HBa.out (fun _ => False) Kk (0, 0)) (fun h => h)).kept (kp_below bB (fun _ => False) _ (0, 0)) (fun h => h))⟩
              case measure => simp [intOf]; omega
            · obtain rfl : k = 2 := by omega
              go_wp2_with fail
              go_roundw
              case rel => exact ⟨c + 1, Kk, S', J8, v8, l8, n8, by omega, by go_num, HPk, HD8, HRk⟩
              case measure => simp [intOf]; omega
    · obtain rfl : c = q := by omega
      have hlt' : ¬ (c : Int) < (c : Int) := by omega
      have hcr := stl_crash HD.out.stl pk
      have hIns : Ins wr pp pk := HPk.out.kept HP.out.bel.size (fun g o e hg => HP.out.bel.block g hg)
      have hCr := Crash_any wr K 1 w2.heap.size S HP.out.disk HD.out.stl.inv (20971525 * c) HD.out.stl.sz (by omega) pp pm pc pk HPm.out hIns hpml
      rw [hcr] at hCr
      have HCr := hide hCr
      have hus : S.used ≤ 262144 := by have := HD.out.used; omega
      have HLok : Hid (okB S.image 262144 = true) := image_ok HD.out.stl.inv HD.out.stl.on.off hus
      have HSt := hide (laid_stl HD.out.stl.inv HD.out.stl.sz HD.out.stl.on.off hus (by omega))
      have HNm : Hid (∀ p ∈ S.image, p.1.length ≤ 140737488355328) := fun p hp => by have := (nm_len (image_read HD.out.stl.inv hp).2.2).2; omega
      clear hcr hIns hCr hus
      go_wp2_with fail
      refine HCr.out.mono ?_
      rintro e w5 ⟨v5, rfl, hi5, hb5⟩
      have HP5 := hide (HP.out.below hb5)
      have HLd := hide (Load_any w5 (ext K wr.heap.size (0, 0)) 5 (by decide) v5 S.image 262144 hi5 HNm.out (by omega) HLok.out)
      rw [show ((262144 : Nat) : Int) = 262144 from rfl] at HLd
      clear hi5 hb5
      go_wp2_with fail
      refine HLd.out.mono ?_
      rintro e w6 ⟨dc, K6, rfl, hd6, hk6⟩
      have no5 : ∀ a q, a ≠ 5 → ¬ Ow 5 ((a, q) : Nat × Nat) := fun a q h e => h e
      have HP6 := hide (HP5.out.turned hk6 (no5 0 0 (by omega)) (fun q => no5 4 q (by omega)) (HP5.out.disk.kept hk6 (fun q => no5 _ q (by omega))) (fun i hi => (HP5.out.js i hi).kept hk6 (fun q => no5 _ q (by omega))))
      have HD6 := hide hd6
      clear hd6 hk6
      go_wp2_with fail
      go_loopw [17] (fun k wr => ∃ (k' : Nat) (Kk : Knd), k' ≤ 2 ∧ k = .int .i64 k' ∧ Hid (Pv W wr Kk w2.heap.size A (A + 1) (A + 1 + 1) (A + 1 + 1 + 1) S (fun i => if i = 0 then jb0 else jb1) J v lb (fun i => n i + (lb i).length) bx) ∧ Hid (Dk wr Kk 5 dc (St.laid 262144 S.image))) (fun k _ => 2 - (intOf k).toNat)
      case atStart => exact ⟨0, K6, Nat.zero_le _, rfl, HP6, HD6⟩
      case round =>
        obtain ⟨k, Kk, hk, rfl, HPk2, HDk⟩ := hrel
        by_cases hk2 : k < 2
        · have hk2' : (k : Int) < 2 := by omega
          have hk0 : (0 : Int) ≤ (k : Int) := by omega
          obtain ⟨q0, q1, q2, q3, qf0, qf1, qf2, m0, m1, m2, m3⟩ := HPk2.out.cells hk2
          have hb := HD.out.jd k hk2
          have hcn := HD.out.cnt k hk2
          have hfo := HD.out.found hk2
          have hOp := Open_any wr Kk 5 (6 + k) dc (by omega) (by omega) (St.laid 262144 S.image) HDk.out HSt.out.inv 0 HSt.out.sz (by omega) rfl (nmo k) (nmo_ok k).1 (nmo_ok k).2 (HT.out.below HPk2.out.bel HT.out.pos) (HPk2.out.old 0 (by omega))
          rw [hfo] at hOp
          have HOp := hide hOp
          obtain ⟨bvs, hbk⟩ := HPk2.out.bk k hk2
          obtain ⟨va, vc, hvi, _, _⟩ := hbk.row.form
          rw [hvi] at hbk q1
          have HBk := hide hbk
          have HFw : Hid (∀ ps ∈ lb k, ps.length ≤ 4096 ∧ ∀ p ∈ ps, p.length ≤ 140737488351232) := trns_few hb.trns
          have HTn := hide hb.trns
          obtain ⟨Nk, hNk⟩ : ∃ Nk, n k + (lb k).length = Nk := ⟨_, rfl⟩
          obtain ⟨la2, hla2⟩ : ∃ la2, (if lb k = [] then 0 else n k + (lb k).length - 1) = la2 := ⟨_, rfl⟩
          have HLast : Hid (la2 + 1 = Nk) := by
            show la2 + 1 = Nk
            rw [← hla2, ← hNk]
            by_cases he : lb k = []
            · rw [if_pos he, he, HD.out.emp k hk2 he]; rfl
            · have hp := hb.pos
              rw [if_neg he]
              omega
          rw [hla2] at HOp
          have hNb : Nk ≤ 22 := by omega
          simp only [hNk] at q2
          have hlb : (lb k).length ≤ 22 := by omega
          generalize hbn : (lb k).length = bn at *
          have HBn8 := hide hbn
          have HVk := hide hvi
          have HNk := hide hNk
          clear hb hcn hbk hvi hNk hbn hfo hOp hla2
          go_wp2_with fail
          refine HOp.out.mono ?_
          rintro e w7 ⟨K7, hk7, ⟨_, jn, rfl, hj7⟩ | ⟨hf, _⟩⟩
          rotate_left
          · exact absurd rfl hf
          have no7 : ∀ a q, a ≠ 6 + k → ¬ Ow (6 + k) ((a, q) : Nat × Nat) := fun a q h e => h e
          have HP7 := hide (HPk2.out.turned hk7 (no7 0 0 (by omega)) (fun q => no7 4 q (by omega)) (HPk2.out.disk.kept hk7 (fun q => no7 _ q (by omega))) (fun i hi => (HPk2.out.js i hi).kept hk7 (fun q => no7 _ q (by omega))))
          have HD7 := hide (HDk.out.kept hk7 (fun q => no7 _ q (by omega)))
          have HB7 := hide (HBk.out.kept hk7 (no7 0 0 (by omega)))
          have HJ7 := hide hj7
          obtain ⟨p0, p1, p2, p3, pf0, pf1, pf2, l0, l1, l2, l3⟩ := HP7.out.cells hk2
          have kd : Kp (fun _ => False) K7 K7 w7 w7.drew := (Kp.refl _ _ _).drew
          have hAll := All_any w7.drew K7 (6 + k) dc jn _ (hj7.kept kd (fun _ h => h)) (by show ∀ r ∈ recsOf (n k) (lb k), _; exact trns_lens HTn.out) (by show (recsOf (n k) (lb k)).length ≤ _; rw [recs_length, HBn8.out]; omega) (HT.out.below HP7.out.bel.drew HT.out.pos)
          rw [show (jnew (nmo k) (recsOf (n k) (lb k), la2, false, 0)).recs = recsOf (n k) (lb k) from rfl, recs_length, allOf_recs (lb k) (n k) HTn.out, HBn8.out] at hAll
          have HAll := hide hAll
          clear hj7 hk7 kd hAll
          rw [show (⟨(nmo k).toArray⟩ : ByteArray) = ⟨(nmo k).toArray⟩ from rfl] at p3
          have HP1 : Hid (w7.cell? ⟨A + 1, k, none⟩ = some (.slice va bn vc)) := by
            have hv : v k = .slice va bn vc := HVk.out
            rw [← hv]; exact p1
          have HP2 : Hid (w7.cell? ⟨A + 1 + 1, k, none⟩ = some (.int .u64 (Nk : Int))) := by
            have hv : n k + (lb k).length = Nk := by rw [HBn8.out]; exact HNk.out
            rw [← hv]; exact p2
          have P1 := HP1.out
          have P2 := HP2.out
          clear p0 p1 p2 p3 q0 q1 q2 q3 qf0 qf1 qf2 m0 m1 m2 m3
          go_wp2_with fail
          go_region_held3 (fun w' => w'.cell? ⟨A + 1, k, none⟩ = some (.slice va bn vc) ∧ w'.cell? ⟨A + 1 + 1, k, none⟩ = some (.int .u64 (Nk : Int))) (go_keep) (first | (go_at_call 21; refine HTo.out.mono ?_; rintro e wC ⟨rfl, h9⟩; have h9 := h9.symm; subst h9) | (go_at_call 29; refine HNx2.out.mono ?_; rintro e wC ⟨rfl, h9⟩; have h9 := h9.symm; subst h9) | (go_at_call 13; refine HTr.out.mono ?_; rintro e wB ⟨rfl, qq, hwB⟩; have HWB := hide hwB; have z1 : wB.cell? ⟨A + 1, k, none⟩ = some (.slice va bn vc) := (by rw [hwB]; exact r1); have z2 : wB.cell? ⟨A + 1 + 1, k, none⟩ = some (.int .u64 (Nk : Int)) := (by rw [hwB]; exact r2); have hjB : Jk wB (ext K7 w7.heap.size (0, 0)) (6 + k) dc jn (jnew (nmo k) (recsOf (n k) (lb k), la2, false, 0)) := (by rw [hwB]; exact HJa.out.kept ((Kp.refl (fun _ => False) (ext K7 w7.heap.size (0, 0)) wA).drewN qq) (fun _ h => h)); have hll : (jnew (nmo k) (recsOf (n k) (lb k), la2, false, 0)).last < 18446744073709551615 := (by show la2 < _; have h := HLast.out; omega); have HNx2 := hide (next_any wB _ _ _ _ _ hjB hll); have HTo := hide (jtorn_any wB _ _ _ _ _ hjB); rw [show (jnew (nmo k) (recsOf (n k) (lb k), la2, false, 0)).last + 1 = Nk from HLast.out] at HNx2; rw [show (jnew (nmo k) (recsOf (n k) (lb k), la2, false, 0)).torn = false from rfl] at HTo; clear hwB hjB hll) | (go_at_call 14; refine HAll.out.mono ?_; rintro e wA ⟨aA, cA, rfl, htr, hbw⟩; have HBa : Hid (Below w7.heap.size w7 wA) := ⟨hbw.os, hbw.tape, hbw.output, hbw.size, hbw.block⟩; have HPa := hide (HP7.out.below HBa.out); have HJa : Hid (Jk wA (ext K7 w7.heap.size (0, 0)) (6 + k) dc jn (jnew (nmo k) (recsOf (n k) (lb k), la2, false, 0))) := HJ7.out.kept (kp_below HBa.out (fun _ => False) K7 (0, 0)) (fun _ h => h); have r1 : wA.cell? ⟨A + 1, k, none⟩ = _ := (HBa.out.cell (p := ⟨A + 1, k, none⟩) l1).trans P1; have r2 : wA.cell? ⟨A + 1 + 1, k, none⟩ = _ := (HBa.out.cell (p := ⟨A + 1 + 1, k, none⟩) l2).trans P2; have HTr := hide (trans_same wA aA va bn cA vc (lb k) HBn8.out (by omega) (htr.trs HFw.out) ((HB7.out.kept (kp_below HBa.out (fun _ => False) K7 (0, 0)) (fun h => h)).trs HPa.out.bel)); clear htr hbw) | fail)
          all_goals go_wp2_with fail
          go_roundw
          case rel =>
            have bB : Below wA.heap.size wA wB := by rw [HWB.out]; exact ⟨rfl, rfl, rfl, Nat.le_refl _, fun _ _ => rfl⟩
            exact ⟨k + 1, _, by omega, by go_num, hide (HPa.out.below bB), hide ((HD7.out.kept (kp_below HBa.out (fun _ => False) K7 (0, 0)) (fun _ h => h)).kept (kp_below bB (fun _ => False) _ (0, 0)) (fun _ h => h))⟩
          case measure => simp [intOf]; omega
        · obtain rfl : k = 2 := by omega
          go_wp2
          go_ret
          exact ⟨rfl, HPk2.out.bel⟩

end Go.Proofs.YtlmfohcdaahojabGreatDoor
