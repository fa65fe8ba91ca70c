import Derived.Test.YtbcpoejpbhpcbaaDoorMqA
import Derived.Test.YtbcpoejpbhpcbaaDoorLqB
namespace Go.Proofs.YtbcpoejpbhpcbaaDoor
open Go.RowKit

/-! A link with its row -/
def msv : List (Nat × ByteArray) → List Value
  | [] => []
  | m :: ms => .int .u64 (m.1 : Int) :: .string m.2 :: msv ms
theorem msv_snoc (ms : List (Nat × ByteArray)) (n : Nat) (s : ByteArray) : msv (ms ++ [(n, s)]) = msv ms ++ [.int .u64 (n : Int), .string s] := by
  induction ms with
  | nil => rfl
  | cons m ms ih => simp [msv, ih]
theorem Tryd.infoMs : (Tryd.prog.info? 74).map (fun i => (i.zero, i.size, i.bytes)) = some (some (.agg #[.int .u64 0, .string ⟨#[]⟩]), 2, 24) := by kernel_rfl
structure Lw (w : World) (b : Nat) (L : Lk) (rv : Value) : Prop where
  lb : Lb w b L rv
  row : ownsAt w 0 74 2 rv L.row.length (msv L.row)
theorem ownsAt.ne {w : World} {B n k s : Nat} {t t' : TypeId} {v : Value} {xs : List Value} {D : Array Value} {fr : Nat × Nat} (h : ownsAt w B t s v n xs) (hk : w.heap[k]? = some (.cells D t' fr)) (ht : t' ≠ t) : some k ≠ v.ownBlock := by
  intro e
  rcases h.2 with ⟨h1, _⟩ | ⟨g, o, cap, cur, h1, _, hg, _⟩
  · rw [h1] at e; simp [Value.ownBlock] at e
  · rw [h1] at e; simp [Value.ownBlock] at e; subst e
    rw [hg] at hk; simp at hk; exact ht hk.2.1.symm
theorem Lw.ne {w : World} {b : Nat} {L : Lk} {rv : Value} (h : Lw w b L rv) : some b ≠ rv.ownBlock := h.row.ne h.lb (by decide)
theorem Lw.form {w : World} {b : Nat} {L : Lk} {rv : Value} (h : Lw w b L rv) : ∃ a c, rv = .slice a L.row.length c := by
  rcases h.row.2 with ⟨h1, h2⟩ | ⟨g, o, cap, cur, h1, _⟩
  · exact ⟨none, 0, by rw [h1, h2]⟩
  · exact ⟨_, _, h1⟩
/-- Two blocks may have turned. -/
structure Tw (b : Nat) (v : Option Nat) (w w' : World) : Prop where
  os : w'.os = w.os
  tape : w'.tape = w.tape
  output : w'.output = w.output
  size : w.heap.size ≤ w'.heap.size
  block : ∀ k, k < w.heap.size → k ≠ b → some k ≠ v → w'.heap[k]? = w.heap[k]?
theorem Tw.of {b : Nat} {v : Option Nat} {w w' : World} (h : C.But b w w') : Tw b v w w' := ⟨h.os, h.tape, h.output, h.size, fun k hk hb _ => h.block k hk hb⟩
theorem Onl.but {b : Nat} {w w' : World} (h : Onl b w w') : C.But b w w' := ⟨h.os, h.tape, h.output, Nat.le_of_eq h.size.symm, fun k _ hb => h.block k hb⟩
theorem Lw.but {w w' : World} {b : Nat} {L L' : Lk} {rv : Value} (h : Lw w b L rv) (hb : C.But b w w') (hl : Lb w' b L' rv) (hr : L'.row = L.row) : Lw w' b L' rv :=
  ⟨hl, by rw [hr]; exact h.row.same (fun g hg => hb.block g (h.row.lt g hg).2 (fun e => h.ne (by rw [hg, e])))⟩
theorem Lw.below {w w' : World} {b : Nat} {L : Lk} {rv : Value} (h : Lw w b L rv) (hb : Below w.heap.size w w') : Lw w' b L rv := h.but (C.but_of hb b) (h.lb.below hb) rfl
set_option maxRecDepth 100000 in
set_option maxHeartbeats 2000000 in
theorem add_any (w : World) (b : Nat) (L : Lk) (rv : Value) (h : Lw w b L rv) (hl : L.row.length ≤ 1099511627776) (n : Nat) (s : ByteArray) :
    Calls Tryd.prog 43 #[.pointer (some ⟨b, 5, none⟩), .agg #[.int .u64 (n : Int), .string s]] w fun e w' => e = .returned (.tuple #[]) ∧ ∃ rv', Lw w' b { L with row := L.row ++ [(n, s)] } rv' ∧ Tw b rv.ownBlock w w' ∧ (rv'.ownBlock = rv.ownBlock ∨ ∃ g, rv'.ownBlock = some g ∧ w.heap.size ≤ g) := by
  obtain ⟨i0, hi, hz0, hz1, hz2⟩ := info_parts Tryd.infoMs
  obtain ⟨w1, hw1⟩ : ∃ w1, w.alloc (.cells #[.int .u64 (n : Int), .string s] 74) = w1 := ⟨_, rfl⟩
  have hb1 : Below w.heap.size w w1 := by rw [← hw1]; exact (Below.refl _ _).alloc (Nat.le_refl _) _
  have hk1 : w1.heap[w.heap.size]? = some (.cells #[.int .u64 (n : Int), .string s] 74 (0, 0)) := by rw [← hw1]; exact heap_alloc_new _ _
  obtain ⟨a, c, rfl⟩ := h.form
  have h1 := h.below hb1
  obtain ⟨q, hq⟩ : ∃ q, L.row.length = q := ⟨_, rfl⟩
  obtain ⟨vs, hvs⟩ : ∃ vs, msv L.row = vs := ⟨_, rfl⟩
  have hlb := h1.lb
  have hrw := h1.row
  have hrw0 := h.row
  have hne := h1.ne
  rw [hq] at hlb hrw hl hne hrw0
  rw [hvs] at hrw hrw0
  rw [hq]
  obtain ⟨-, -, -, -, -, c5, -, -, -, -, -, -, -, -, -, cf⟩ := blk15 hlb
  have x0 : w1.cell? ⟨w.heap.size, 0, none⟩ = some (.int .u64 (n : Int)) := by simp [World.cell?, hk1]
  have x1 : w1.cell? ⟨w.heap.size, 1, none⟩ = some (.string s) := by simp [World.cell?, hk1]
  have hlt := C.lt_of_block hlb
  have hs1 : Hid (w1.heap.size = w.heap.size + 1) := by show _ = _; rw [← hw1]; simp
  have hx1 := C.lt_of_block hk1
  have n1 : ¬ b = w1.heap.size := by omega
  have n2 : ¬ w.heap.size = w1.heap.size := by omega
  have HLb := hide hlb
  have HRw := hide hrw
  have HR0 := hide hrw0
  have HNe := hide hne
  have HB1 := hide hb1
  have HQ := hide hq
  have HVs := hide hvs
  clear h h1 hlb hrw hrw0 hne hb1 hk1 hq hvs
  go_enter Tryd.func43, Tryd.ntmps43
  go_upto_region 1 with (fail)
  try rw [hw1]
  clear hw1
  go_region_law ((refine step_append_at _ (by rfl) (.tmp 8) (.tmp 10) 64 (by rfl) 0 74 i0 (.agg #[.int .u64 0, .string ⟨#[]⟩]) 2 24 Tryd.underlying64 hi hz0 hz1 hz2 rfl (.slice a q c) q vs (by rfl) (HRw.out.same (fun g hg => (Below.heap_alloc _ _ _ (HRw.out.lt g hg).2))) ⟨w1.heap.size, 0, none⟩ 1 1 [.int .u64 (n : Int), .string s] (by rfl) rfl (World.news_of_block (heap_alloc_new w1 (.cells #[.int .u64 (n : Int), .string s] 74))) (by simp [Value.oneCell']) (by omega) (by unfold maxLen; omega) (by omega) (by omega) ?_; intro g' d' cap' w4 hown4 hgrow4 hat4; have HO4 := hide hown4; have HG4 := hide hgrow4; have HA4 := hide hat4; have hdb : w4.heap[b]? = _ := (hgrow4.block b (by simp; omega) HNe.out).trans ((Below.heap_alloc _ _ _ hlt).trans HLb.out); have HJ4 := hide hdb; obtain ⟨-, -, -, -, -, z5, -, -, -, -, -, -, -, -, -, zf⟩ := blk15 hdb; have hd4 := C.lt_of_block hdb; clear hdb hown4 hgrow4 hat4))
  all_goals go_wp2
  all_goals
    go_end0
    have hsz : w1.heap.size + 1 ≤ w4.heap.size := by have := HG4.out.size; simpa using this
    have hne4 : some b ≠ (Value.slice (some ⟨g', d', none⟩) (q + 1) cap').ownBlock := HO4.out.ne HJ4.out (by decide)
    have hkb : ∀ k, k ≠ b → (w4.setCell ⟨b, 5, none⟩ (.slice (some ⟨g', d', none⟩) (q + 1) cap')).heap[k]? = w4.heap[k]? := fun k hk => Below.heap_setCell _ _ _ _ (by simpa using hk)
    refine ⟨rfl, .slice (some ⟨g', d', none⟩) (q + 1) cap', ⟨?_, ?_⟩, ?_, ?_⟩
    · have hl4 : Lb w4 b L (.slice a q c) := HJ4.out
      exact hl4.set 5 _ _ _ rfl
    · show ownsAt _ 0 _ 2 _ (L.row ++ [(n, s)]).length (msv (L.row ++ [(n, s)]))
      rw [List.length_append, HQ.out, msv_snoc, HVs.out]
      exact HO4.out.same (fun g hg => hkb g (fun e => hne4 (by rw [hg, e])))
    · have hg4 := HG4.out
      refine ⟨hg4.os.trans HB1.out.os, hg4.tape.trans HB1.out.tape, hg4.output.trans HB1.out.output, ?_, fun k hk hkb2 hkv => ?_⟩
      · show w.heap.size ≤ (w4.setCell _ _).heap.size
        simp only [World.setCell]
        simp
        omega
      · refine (hkb k hkb2).trans ((hg4.block k (by simp; omega) hkv).trans ((Below.heap_alloc _ _ _ (by omega)).trans (HB1.out.block k hk)))
    · rcases HA4.out with h | h
      · exact Or.inl h.symm
      · refine Or.inr ⟨g', rfl, ?_⟩
        rw [h]
        simp
        omega
end Go.Proofs.YtbcpoejpbhpcbaaDoor
