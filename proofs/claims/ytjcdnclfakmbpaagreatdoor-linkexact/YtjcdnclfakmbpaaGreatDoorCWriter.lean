import Derived.Deep.RegionHeld3
import Derived.Deep.DrawnRows
import Derived.Deep.AppendLies
import Derived.Test.YtjcdnclfakmbpaaGreatDoorBase
import Derived.Test.YtjcdnclfakmbpaaGreatDoorCPure
namespace Go.Proofs.YtjcdnclfakmbpaaGreatDoor.C
open Go.RowKit
structure Wrote (b : Nat) (row : Option Nat) (w w' : World) : Prop where
  os : w'.os = w.os
  tape : w'.tape = w.tape
  output : w'.output = w.output
  size : w.heap.size ≤ w'.heap.size
  block : ∀ k, k < w.heap.size → k ≠ b → some k ≠ row → w'.heap[k]? = w.heap[k]?
theorem Wrote.refl (b : Nat) (row : Option Nat) (w : World) : Wrote b row w w := ⟨rfl, rfl, rfl, Nat.le_refl _, fun _ _ _ _ => rfl⟩
theorem Wrote.trans {b : Nat} {r1 r2 : Option Nat} {w1 w2 w3 : World} (h : Wrote b r1 w1 w2) (k : Wrote b r2 w2 w3) (hr : r2 = r1 ∨ ∃ g, r2 = some g ∧ w1.heap.size ≤ g) : Wrote b r1 w1 w3 :=
  ⟨k.os.trans h.os, k.tape.trans h.tape, k.output.trans h.output, Nat.le_trans h.size k.size, fun i hi hb hn => (k.block i (Nat.lt_of_lt_of_le hi h.size) hb (by
    rcases hr with rfl | ⟨g, rfl, hg⟩
    · exact hn
    · intro e; cases e; omega)).trans (h.block i hi hb hn)⟩
theorem wrote_of {b : Nat} {row : Option Nat} {w w' : World} (h : Below w.heap.size w w') : Wrote b row w w' := ⟨h.os, h.tape, h.output, h.size, fun k hk _ _ => h.block k hk⟩
theorem wrote_grown {b : Nat} {row : Option Nat} {w w' : World} (h : w.grownBy w' row) : Wrote b row w w' := ⟨h.os, h.tape, h.output, h.size, fun k hk _ hn => h.block k hk hn⟩
theorem Wrote.setCell {b : Nat} {row : Option Nat} {w w' : World} (h : Wrote b row w w') (o : Nat) (u : Value) : Wrote b row w (w'.setCell ⟨b, o, none⟩ u) :=
  ⟨h.os, h.tape, h.output, by have := h.size; simp [World.setCell]; omega, fun k hk hb hn => by rw [Below.heap_setCell _ _ _ _ hb]; exact h.block k hk hb hn⟩
theorem Wrote.below {b : Nat} {row : Option Nat} {B : Nat} {w0 w w' : World} (h : Wrote b row w w') (k : Below B w0 w) (hb : B ≤ b) (hB : B ≤ w.heap.size) (hr : ∀ g, row = some g → B ≤ g) : Below B w0 w' :=
  ⟨h.os.trans k.os, h.tape.trans k.tape, h.output.trans k.output, Nat.le_trans k.size h.size, fun i hi => (h.block i (by omega) (by omega) (fun e => by have := hr i e.symm; omega)).trans (k.block i hi)⟩
structure Wr (w : World) (b : Nat) (v : Value) (ws : List Nat) : Prop where
  blk : w.heap[b]? = some (.cells #[v] 228 (0, 0))
  own : w.ownsRow 0 5 1 v ws.length (vals ws)
  small : ∀ x ∈ ws, x < 256
theorem Wr.form {w : World} {b : Nat} {v : Value} {ws : List Nat} (h : Wr w b v ws) : ∃ a c, v = .slice a ws.length c ∧ ws.length ≤ c := by
  rcases h.own.2 with ⟨h1, h2⟩ | ⟨g, cap, cur, h1, _, _, h2, _⟩
  · exact ⟨none, 0, by rw [h1, h2], by omega⟩
  · exact ⟨_, cap, h1, h2⟩
theorem Wr.apart {w : World} {b : Nat} {v : Value} {ws : List Nat} (h : Wr w b v ws) : some b ≠ v.ownBlock := by
  intro e
  rcases h.own.2 with ⟨h1, h2⟩ | ⟨g, cap, cur, h1, _, hg, _⟩
  · rw [h1] at e; simp [Value.ownBlock] at e
  · rw [h1] at e
    simp [Value.ownBlock] at e
    subst e
    have := h.blk
    rw [hg] at this
    simp at this
theorem Wr.lt {w : World} {b : Nat} {v : Value} {ws : List Nat} (h : Wr w b v ws) : b < w.heap.size := (Array.getElem?_eq_some_iff.1 h.blk).1
theorem Wr.rowLt {w : World} {b : Nat} {v : Value} {ws : List Nat} (h : Wr w b v ws) (g : Nat) (e : v.ownBlock = some g) : g < w.heap.size := by
  rcases h.own.2 with ⟨h1, h2⟩ | ⟨g', cap, cur, h1, _, hg, _⟩
  · rw [h1] at e; simp [Value.ownBlock] at e
  · rw [h1] at e
    simp [Value.ownBlock] at e
    subst e
    exact (Array.getElem?_eq_some_iff.1 hg).1
theorem owns_kept {w w' : World} {v : Value} {n : Nat} {xs : List Value} {e : TypeId} {size : Nat} (h : w.ownsRow 0 e size v n xs) (hk : ∀ g, v.ownBlock = some g → w'.heap[g]? = w.heap[g]?) : w'.ownsRow 0 e size v n xs := by
  refine ⟨h.1, ?_⟩
  rcases h.2 with h0 | ⟨g, cap, cur, h1, hb, hg, r⟩
  · exact Or.inl h0
  · exact Or.inr ⟨g, cap, cur, h1, hb, (hk g (by rw [h1]; rfl)).trans hg, r⟩
theorem Wr.kept {w w' : World} {b : Nat} {v : Value} {ws : List Nat} (h : Wr w b v ws) (hb : w'.heap[b]? = w.heap[b]?) (hk : ∀ g, v.ownBlock = some g → w'.heap[g]? = w.heap[g]?) : Wr w' b v ws :=
  ⟨hb.trans h.blk, owns_kept h.own hk, h.small⟩
theorem Wr.below {w w' : World} {b : Nat} {v : Value} {ws : List Nat} (h : Wr w b v ws) (k : Below w.heap.size w w') : Wr w' b v ws :=
  h.kept (k.block b h.lt) (fun g e => k.block g (h.rowLt g e))
def Laid (w w' : World) (b : Nat) (v : Value) (ws new : List Nat) : Prop :=
  ∃ v', Wr w' b v' (ws ++ new) ∧ (v'.ownBlock = v.ownBlock ∨ ∃ g, v'.ownBlock = some g ∧ w.heap.size ≤ g) ∧ Wrote b v.ownBlock w w'
theorem laid_refl {w : World} {b : Nat} {v : Value} {ws : List Nat} (h : Wr w b v ws) : Laid w w b v ws [] := ⟨v, by simpa using h, Or.inl rfl, Wrote.refl _ _ _⟩
theorem laid_store {w w0 w1 : World} {b : Nat} {v : Value} {ws new : List Nat} {g cap : Nat} (h : Wr w b v ws) (hs : ∀ x ∈ new, x < 256) (h0 : Below w.heap.size w w0)
    (hown : w1.ownsRow 0 5 1 (.slice (some ⟨g, 0, none⟩) (ws.length + new.length) cap) (ws.length + new.length) (vals ws ++ vals new)) (hg : w0.grownBy w1 v.ownBlock) (hat : v.ownBlock = some g ∨ w.heap.size ≤ g) :
    Laid w (w1.setCell ⟨b, 0, none⟩ (.slice (some ⟨g, 0, none⟩) (ws.length + new.length) cap)) b v ws new := by
  have hW : Wrote b v.ownBlock w w1 := (wrote_of h0).trans (wrote_grown hg) (Or.inl rfl)
  have hb1 : w1.heap[b]? = some (.cells #[v] 228 (0, 0)) := by
    rw [hg.block b (Nat.lt_of_lt_of_le h.lt h0.size) h.apart, h0.block b h.lt]; exact h.blk
  have hgb : g ≠ b := by
    rintro rfl
    rcases hat with e | e
    · exact h.apart e.symm
    · have := h.lt; omega
  refine ⟨.slice (some ⟨g, 0, none⟩) (ws.length + new.length) cap, ⟨?_, ?_, ?_⟩, ?_, hW.setCell 0 _⟩
  · rw [setCell_eq_setRow w1 b 0 _ _ _ _ hb1, setRow_heap w1 b _ _ _ _ hb1]; rfl
  · have := owns_kept (w' := w1.setCell ⟨b, 0, none⟩ (.slice (some ⟨g, 0, none⟩) (ws.length + new.length) cap)) hown (fun g' e => by
      simp [Value.ownBlock] at e; subst e; exact Below.heap_setCell _ _ _ _ hgb)
    simpa [vals] using this
  · intro x hx
    rcases List.mem_append.1 hx with h' | h'
    · exact h.small x h'
    · exact hs x h'
  · rcases hat with e | e
    · exact Or.inl (by rw [e]; rfl)
    · exact Or.inr ⟨g, rfl, e⟩
theorem run_append_zero {P : Program} (w : World) (t ty e : TypeId) (i : TypeInfo) (ht : P.underlying t = some (.slice e)) (hi : P.info? e = some i) (bp : Option Addr) (n cap : Nat) (hn : n ≤ cap) (sp : Option Addr) (c : Nat) :
    (Builtin.append_ #[t, t] ty #[.slice bp n cap, .slice sp 0 c]).run P w = .ok (.slice bp n cap) w := by
  have hl : ∀ (x : Addr), (loadCells x 0).run P w = .ok #[] w := fun x => by simpa using run_loadCells_list (P := P) w x [] (by simp)
  cases bp <;> cases sp <;> simp [Builtin.append_, run_underlying ht, sizeOf, typeInfo, hi, Builtin.lenOf, Builtin.firstCells, storeCells, hl, hn]
theorem wpList_append_zero {P : Program} {w : World} {ops : Array Oper} {rest : List Oper} {o : Oper} {a : Act} {Q : Exit → Act → World → Prop} (hgd : o.guard = none) (s x : Operand) (t : TypeId)
    (ho : o.op = .call { callee := .builtin .append, args := #[s, x], argTypes := #[t, t] }) (e : TypeId) (i : TypeInfo) (ht : P.underlying t = some (.slice e)) (hi : P.info? e = some i)
    (bp : Option Addr) (n cap : Nat) (hn : n ≤ cap) (hs : a.eval s = .slice bp n cap) (sp : Option Addr) (c : Nat) (hx : a.eval x = .slice sp 0 c)
    (h : wpList P ops Q rest (a.put o.dst (.slice bp n cap)) w) : wpList P ops Q (o :: rest) a w := by
  refine wpList_plain hgd fun K hK => ?_
  have hrun := run_append_zero (P := P) w t o.type e i ht hi bp n cap hn sp c
  unfold Oper.wp
  simp [execOp, ho, resolve, invoke, builtin, hs, hx, hrun, Result.andThen]
  exact hK _ _ h
theorem Tryz.info5' : (Tryz.prog.info? 5).map (fun i => (i.zero, i.size, i.bytes)) = some (some (.int .u8 0), 1, 1) := by kernel_rfl
theorem blk1 {w : World} {b : Nat} {x : Value} {t : TypeId} (h : w.heap[b]? = some (.cells #[x] t (0, 0))) : w.cell? ⟨b, 0, none⟩ = some x ∧ (∀ o, w.frozen? ⟨b, o, none⟩ = false) :=
  ⟨by simp [World.cell?, h], fun o => by simp [World.frozen?, h]⟩
theorem set_same {w : World} {b : Nat} {v : Value} {t : TypeId} (h : w.heap[b]? = some (.cells #[v] t (0, 0))) : w.setCell ⟨b, 0, none⟩ v = w := by
  rw [setCell_eq_setRow w b 0 _ _ _ _ h]
  exact setRow_self w b _ t _ h
set_option maxRecDepth 100000 in
set_option maxHeartbeats 400000 in
theorem wraw_none (w : World) (b : Nat) (v : Value) (ws : List Nat) (sp : Option Addr) (cap : Nat) (hw : Wr w b v ws) :
    Calls Tryz.prog 146 #[.pointer (some ⟨b, 0, none⟩), .slice sp 0 cap] w fun e w' => e = .returned (.tuple #[]) ∧ Laid w w' b v ws [] := by
  obtain ⟨i0, hi, hz0, hz1, hz2⟩ := info_parts Tryz.info5'
  have HW : Hid (Wr w b v ws) := hw
  obtain ⟨a, c, rfl, hc⟩ := hw.form
  obtain ⟨q0, qf⟩ := blk1 hw.blk
  clear hw
  generalize ws.length = n at *
  go_enter Tryz.func146, Tryz.ntmps146
  go_wp2_with (at_builtin; refine wpList_append_zero rfl (.tmp 8) (.tmp 9) 31 rfl 5 i0 Tryz.underlying31 hi a n c hc rfl sp cap rfl ?_)
  go_end0
  refine ⟨rfl, ?_⟩
  rw [set_same HW.out.blk]
  exact laid_refl HW.out
set_option maxRecDepth 100000 in
set_option maxHeartbeats 400000 in
theorem wraw_some (w : World) (b : Nat) (v : Value) (ws : List Nat) (g o m cap : Nat) (xs : List Nat) (hw : Wr w b v ws) (hm : xs.length = m) (h0 : 0 < m) (hx : Bytes w (some ⟨g, o, none⟩) xs) (hlen : ws.length + m ≤ 140737488355328) :
    Calls Tryz.prog 146 #[.pointer (some ⟨b, 0, none⟩), .slice (some ⟨g, o, none⟩) m cap] w fun e w' => e = .returned (.tuple #[]) ∧ Laid w w' b v ws xs := by
  obtain ⟨i0, hi, hz0, hz1, hz2⟩ := info_parts Tryz.info5'
  have HW : Hid (Wr w b v ws) := hw
  obtain ⟨a, c, hv, hc⟩ := hw.form
  obtain ⟨q0, qf⟩ := blk1 hw.blk
  have HN : Hid (∀ j u, (vals xs)[j]? = some u → w.cell? ((⟨g, o, none⟩ : Addr).add j) = some u) := fun j u hj => by
    obtain ⟨ad, e, h⟩ := hx.holds.at_ j u hj
    cases e; exact h
  have H1 : Hid (∀ u ∈ vals xs, u.oneCell' = true) := hx.holds.one
  have HL : Hid ((vals xs).length = m * 1) := by show _ = _; simp [vals, hm]
  have HS : Hid (∀ x ∈ xs, x < 256) := hx.small
  have HM : Hid (xs.length = m) := hm
  have HB : Hid (some b ≠ v.ownBlock) := hw.apart
  have HO : Hid (w.ownsRow 0 5 1 v ws.length (vals ws)) := hw.own
  have hlt := hw.lt
  clear hw hx hm
  subst hv
  go_enter Tryz.func146, Tryz.ntmps146
  go_wp2_with (at_builtin; refine wpList_append_lies _ rfl (.tmp 8) (.tmp 9) 31 rfl 0 5 i0 (.int .u8 0) 1 1 Tryz.underlying31 hi hz0 hz1 hz2 rfl (by omega) _ _ _ rfl HO.out ⟨g, o, none⟩ m cap (vals xs) rfl HL.out HN.out H1.out h0 (by unfold maxLen; omega) (by omega) (by omega) _ rfl ?_; intro g' cap' w1 hown hgrow hat hltg; have r0 := (hgrow.cell_far ⟨b, 0, none⟩ hlt HB.out).trans q0; have rf := fun o => (hgrow.frozen_far ⟨b, o, none⟩ hlt HB.out).trans (qf o))
  go_end0
  refine ⟨rfl, ?_⟩
  have hm := HM.out
  subst hm
  exact laid_store HW.out HS.out (Below.refl _ _) hown hgrow (by rcases hat with h | h; exact Or.inl h; exact Or.inr (by omega))
theorem wraw_any (w : World) (b : Nat) (v : Value) (ws : List Nat) (sp : Option Addr) (m cap : Nat) (xs : List Nat) (hw : Wr w b v ws) (hm : xs.length = m) (hx : Bytes w sp xs) (hlen : ws.length + m ≤ 140737488355328) :
    Calls Tryz.prog 146 #[.pointer (some ⟨b, 0, none⟩), .slice sp m cap] w fun e w' => e = .returned (.tuple #[]) ∧ Laid w w' b v ws xs := by
  by_cases h0 : xs = []
  · subst h0; simp at hm; subst hm; exact wraw_none w b v ws sp cap hw
  · rcases hx.lie with h | ⟨g, o, rfl, _, _⟩
    · exact absurd h h0
    · exact wraw_some w b v ws g o m cap xs hw hm (by rw [← hm]; exact List.length_pos_iff.2 h0) hx hlen
end Go.Proofs.YtjcdnclfakmbpaaGreatDoor.C
