import Derived.Test.YtfjhbbekeibpkaaDoorCIntact
namespace Go.Proofs.YtfjhbbekeibpkaaDoor.C
open Go.RowKit

/-- The old blocks but those of a kind are as they were. -/
structure Kept (S : Nat → Prop) (w w' : World) : Prop where
  os : w'.os = w.os
  tape : w'.tape = w.tape
  output : w'.output = w.output
  size : w.heap.size ≤ w'.heap.size
  block : ∀ k, k < w.heap.size → ¬ S k → w'.heap[k]? = w.heap[k]?
theorem Kept.refl (S : Nat → Prop) (w : World) : Kept S w w := ⟨rfl, rfl, rfl, Nat.le_refl _, fun _ _ _ => rfl⟩
theorem Kept.trans {S T : Nat → Prop} {w1 w2 w3 : World} (h : Kept S w1 w2) (k : Kept T w2 w3) (hT : ∀ i, T i → S i ∨ w1.heap.size ≤ i) : Kept S w1 w3 :=
  ⟨k.os.trans h.os, k.tape.trans h.tape, k.output.trans h.output, Nat.le_trans h.size k.size, fun i hi hn => (k.block i (Nat.lt_of_lt_of_le hi h.size) (fun t => (hT i t).elim hn (fun e => by omega))).trans (h.block i hi hn)⟩
theorem kept_below {S : Nat → Prop} {w w' : World} (h : Below w.heap.size w w') : Kept S w w' := ⟨h.os, h.tape, h.output, h.size, fun k hk _ => h.block k hk⟩
theorem kept_wrote {b : Nat} {r : Option Nat} {w w' : World} (h : Wrote b r w w') : Kept (fun k => k = b ∨ some k = r) w w' :=
  ⟨h.os, h.tape, h.output, h.size, fun k hk hn => h.block k hk (fun e => hn (Or.inl e)) (fun e => hn (Or.inr e))⟩
theorem kept_grown {r : Option Nat} {w w' : World} (h : w.grownBy w' r) : Kept (fun k => some k = r) w w' := ⟨h.os, h.tape, h.output, h.size, fun k hk hn => h.block k hk hn⟩
theorem kept_but {b : Nat} {w w' : World} (h : But b w w') : Kept (fun k => k = b) w w' := ⟨h.os, h.tape, h.output, h.size, fun k hk hn => h.block k hk hn⟩
theorem Kept.below {S : Nat → Prop} {B : Nat} {w0 w w' : World} (h : Kept S w w') (k : Below B w0 w) (hB : B ≤ w.heap.size) (hS : ∀ i, S i → B ≤ i) : Below B w0 w' :=
  ⟨h.os.trans k.os, h.tape.trans k.tape, h.output.trans k.output, Nat.le_trans k.size h.size, fun i hi => (h.block i (by omega) (fun s => by have := hS i s; omega)).trans (k.block i hi)⟩

/-- Two rows that do not share a block. -/
def Far (v h : Value) : Prop := ∀ g, v.ownBlock = some g → h.ownBlock ≠ some g

theorem owns_lt {w : World} {B n : Nat} {t : TypeId} {v : Value} {xs : List Value} (h : w.ownsRow B t 1 v n xs) (g : Nat) (e : v.ownBlock = some g) : g < w.heap.size := by
  rcases h.2 with ⟨h1, h2⟩ | ⟨g', cap, cur, h1, _, hg, _⟩
  · rw [h1] at e; simp [Value.ownBlock] at e
  · rw [h1] at e; simp [Value.ownBlock] at e; subst e; exact lt_of_block hg
theorem owns_ne {w : World} {B n k : Nat} {t t' : TypeId} {v : Value} {xs : List Value} {C : Array Value} {fr : Nat × Nat} (h : w.ownsRow B t 1 v n xs) (hk : w.heap[k]? = some (.cells C t' fr)) (ht : t' ≠ t) : v.ownBlock ≠ some k := by
  intro e
  rcases h.2 with ⟨h1, h2⟩ | ⟨g', cap, cur, h1, _, hg, _⟩
  · rw [h1] at e; simp [Value.ownBlock] at e
  · rw [h1] at e; simp [Value.ownBlock] at e; subst e
    rw [hg] at hk; simp at hk; exact ht hk.2.1.symm
theorem Own.ne {B : Nat} {w : World} {g c k : Nat} {xs : List Nat} {C : Array Value} {t : TypeId} {fr : Nat × Nat} (h : Own B w g c xs) (hk : w.heap[k]? = some (.cells C t fr)) (ht : t ≠ 5) : g ≠ k := by
  rintro rfl
  obtain ⟨D, hD, _⟩ := h.row
  rw [hD] at hk; simp at hk; exact ht hk.2.1.symm
theorem Own.kept {B : Nat} {w w' : World} {g c : Nat} {xs : List Nat} (h : Own B w g c xs) (hk : w'.heap[g]? = w.heap[g]?) : Own B w' g c xs := by
  obtain ⟨C, hC, hc⟩ := h.row
  exact ⟨h.base, h.cap, h.small, C, hk.trans hC, hc⟩

/-- What a Writer and what the document holds beside it may turn. -/
def Turns (b : Nat) (v h : Value) (k : Nat) : Prop := k = b ∨ some k = v.ownBlock ∨ some k = h.ownBlock

/-- BEHIND A CALL OF A WRITER, BESIDE THE DOCUMENT's. -/
structure Did (w : World) (b : Nat) (v h : Value) (w' : World) (v' h' : Value) (ws1 ws2 : List Nat) : Prop where
  wr : Wr w' b v' ws1
  hd : w'.ownsRow 0 5 1 h' ws2.length (vals ws2)
  far : Far v' h'
  vat : v'.ownBlock = v.ownBlock ∨ ∃ g, v'.ownBlock = some g ∧ w.heap.size ≤ g
  hat : h'.ownBlock = h.ownBlock ∨ ∃ g, h'.ownBlock = some g ∧ w.heap.size ≤ g
  kept : Kept (Turns b v h) w w'

/-- 'held = append(held, b...)', held any row of its own, b any bytes. -/
theorem wpList_append_held {w : World} {ops : Array Oper} {rest : List Oper} {o : Oper} {a : Act} {Q : Exit → Act → World → Prop} (hgd : o.guard = none) (s x : Operand)
    (ho : o.op = .call { callee := .builtin .append, args := #[s, x], argTypes := #[27, 27] }) (v : Value) (n : Nat) (ys : List Value)
    (hs : a.eval s = v) (hown : w.ownsRow 0 5 1 v n ys) (sp : Option Addr) (m c : Nat) (xs : List Nat) (hx : a.eval x = .slice sp m c) (hm : xs.length = m) (hb : Bytes w sp xs)
    (h63 : n + m ≤ 140737488355328)
    (h : ∀ v' w', w'.ownsRow 0 5 1 v' (n + m) (ys ++ vals xs) → w.grownBy w' v.ownBlock → (v'.ownBlock = v.ownBlock ∨ v'.ownBlock = some w.heap.size) → wpList Tryd.prog ops Q rest (a.put o.dst v') w') :
    wpList Tryd.prog ops Q (o :: rest) a w := by
  obtain ⟨i0, hi, hz0, hz1, hz2⟩ := info_parts Tryd.info5'
  by_cases h0 : m = 0
  · subst h0
    have hxs : xs = [] := List.eq_nil_of_length_eq_zero hm
    subst hxs
    obtain ⟨bp, cap, rfl, hle⟩ : ∃ bp cap, v = .slice bp n cap ∧ n ≤ cap := by
      rcases hown.2 with ⟨h1, h2⟩ | ⟨g, cap, cur, h1, _, _, h3, _⟩
      · subst h2; exact ⟨none, 0, h1, Nat.le_refl _⟩
      · exact ⟨_, cap, h1, h3⟩
    refine wpList_append_zero hgd s x 27 ho 5 i0 Tryd.underlying27 hi bp n cap hle hs sp c hx ?_
    exact h _ w (by simpa [vals] using hown) ⟨rfl, rfl, rfl, Nat.le_refl _, fun _ _ _ => rfl⟩ (Or.inl rfl)
  · rcases hb.lie with h' | ⟨g, o', rfl, hg, hc⟩
    · subst h'; simp at hm; omega
    · refine wpList_append_lies _ hgd s x 27 ho 0 5 i0 (.int .u8 0) 1 1 Tryd.underlying27 hi hz0 hz1 hz2 rfl (by omega) v n ys hs hown ⟨g, o', none⟩ m c (vals xs) hx (by rw [vals_len, hm, Nat.mul_one]) (bytes_cells hb) (vals_one xs) (by omega) (by unfold maxLen; omega) (by omega) (Nat.zero_le _) _ rfl ?_
      intro g' cap w' h1 h2 h3 _
      refine h _ w' h1 h2 ?_
      rcases h3 with h3 | h3
      · left; rw [h3]; rfl
      · right; rw [h3]; rfl

set_option maxRecDepth 100000 in
set_option maxHeartbeats 400000 in
theorem ref_text (w : World) (sp : Option Addr) (m cap : Nat) (xs : List Nat) (hm : xs.length = m) (hx : Bytes w sp xs) (hlen : m ≤ 140737488351232) :
    Calls Tryd.prog 44 #[.slice sp m cap] w fun e w' => ∃ g c, e = .returned (.slice (some ⟨g, 0, none⟩) (vs m + m) c) ∧ w'.ownsRow w.heap.size 5 1 (.slice (some ⟨g, 0, none⟩) (vs m + m) c) (vs m + m) (vals (varOf m (vs m - 1) ++ xs)) ∧ Below w.heap.size w w' := by
  have HX := hide hx
  have HM := hide hm
  clear hx hm
  have hv := vs_bounds m (by omega)
  have HV := hide (fun w => ref_var_any m (by omega) w)
  have HE : Hid (vals (varOf m (vs m - 1) ++ xs) = vals (varOf m (vs m - 1)) ++ vals xs) := vals_app _ _
  rw [HE.out]
  clear HE
  unfold Vared at HV
  generalize vals (varOf m (vs m - 1)) = V at *
  generalize vs m = s at *
  go_enter Tryd.func44, Tryd.ntmps44
  go_wp2_with fail
  refine (HV.out _).mono ?_
  rintro e w1 ⟨g, c, rfl, hown1, hb1⟩
  have HO := hide hown1
  have HB := hide hb1
  clear hown1 hb1 HV
  go_wp2_with (at_builtin; refine wpList_append_bytes rfl (.tmp 8) (.tmp 9) rfl w.heap.size _ s c V rfl HO.out sp m cap xs rfl HM.out (HX.out.below HB.out) (by omega) HB.out.size ?_; intro g' c' w2 hown2 hgrow2 hat2)
  have HO2 := hide hown2
  have HB2 : Hid (Below w.heap.size w w2) := HB.out.grown hgrow2 HB.out.size (fun k e => by cases e; exact (owns_le HO.out).2.1)
  clear hown2 hgrow2 hat2
  go_wp2
  go_ret
  exact ⟨g', c', rfl, HO2.out, HB2.out⟩

end Go.Proofs.YtfjhbbekeibpkaaDoor.C
