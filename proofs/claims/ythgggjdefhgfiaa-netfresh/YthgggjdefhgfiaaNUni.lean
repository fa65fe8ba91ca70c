import Derived.Test.YthgggjdefhgfiaaNFill
namespace Go.Proofs.Ythgggjdefhgfiaa
open Go.RowKit Go.Maps

/-- What is told of a place. -/
def Nt.tell (N : Nt) (i : Int) : Int × List Nat := if N.has i = true then match N.row[i.toNat]? with | some m => (m.to, nums m.b) | none => (0, []) else (0, [])
theorem tell_has {N : Nt} {i : Int} {m : Ms} (h : N.has i = true) (hm : N.row[i.toNat]? = some m) : N.tell i = (m.to, nums m.b) := by unfold Nt.tell; rw [if_pos h, hm]
theorem tell_no {N : Nt} {i : Int} (h : N.has i = false) : N.tell i = (0, []) := by unfold Nt.tell; rw [if_neg (by rw [h]; simp)]
theorem tell_len {N : Nt} {i : Int} (hs : ∀ m ∈ N.row, m.b.size ≤ 4096) : (N.tell i).2.length ≤ 4096 := by
  cases hh : N.has i with
  | false => rw [tell_no hh]; simp
  | true =>
    obtain ⟨k, m, rfl, _, hm⟩ := has_true hh
    have hm' : N.row[((k : Nat) : Int).toNat]? = some m := by simpa using hm
    rw [tell_has hh hm']
    show (nums m.b).length ≤ 4096
    rw [nums_len]; exact hs m (List.mem_of_getElem? hm)
theorem bytes_nil (w : World) : Bytes w none [] := ⟨by simp, Or.inl rfl⟩
def LkU (w : World) (N : Nt) (i : Int) (e : Ending) (w' : World) : Prop := ∃ p c, e = .returned (.tuple #[.agg #[.int .i64 (N.tell i).1, .slice p (N.tell i).2.length c], .bool (N.has i)]) ∧ Bytes w' p (N.tell i).2 ∧ Below w.heap.size w w' ∧ ∀ g q, p = some ⟨g, q, none⟩ → w.heap.size ≤ g
def LkP (w : World) (N : Nt) (i : Int) (e : Ending) (w' : World) : Prop := ∃ p c, e = .returned (.tuple #[.agg #[.int .i64 (N.tell i).1, .slice p (N.tell i).2.length c], .bool (N.has i)]) ∧ Q.ownsQ true w' w.heap.size 5 1 (.slice p (N.tell i).2.length c) (N.tell i).2.length (vals (N.tell i).2) ∧ (∀ x ∈ (N.tell i).2, x < 256) ∧ Below w.heap.size w w'
theorem told_row {B : Nat} {w : World} {g c : Nat} {s : ByteArray} (h : Told w g c s) (hm : s.size ≤ 4096) (hg : B ≤ g) : Q.ownsQ true w B 5 1 (.slice (some ⟨g, 0, none⟩) (nums s).length c) (nums s).length (vals (nums s)) := by
  have q := Q.told_owns h (by unfold maxLen; omega)
  rw [nums_len]
  refine ⟨by rw [vals_len, nums_len]; omega, ?_⟩
  rcases q.2 with ⟨e, _⟩ | ⟨g', cap, cur, e, _, r⟩
  · cases e
  · cases e; exact Or.inr ⟨g, c, cur, rfl, hg, r⟩
theorem nil_row (B : Nat) (w : World) : Q.ownsQ true w B 5 1 (.slice none 0 0) 0 (vals []) := ⟨rfl, Or.inl ⟨rfl, rfl⟩⟩
theorem Look_u (w : World) (K : Knd) (o nb : Nat) (N : Nt) (h : Nk w K o nb N) (i : Int) (hs : ∀ m ∈ N.row, m.b.size ≤ 4096) : Calls Try.prog 16 #[.pointer (some ⟨nb, 0, none⟩), .int .i64 i] w (LkP w N i) :=
  (Look_any w K o nb N h i).mono fun e w' ⟨hb, hq⟩ => by
    rcases hq with ⟨hh, m, g, c, hm, rfl, hg, ht⟩ | ⟨hh, rfl⟩
    · refine ⟨some ⟨g, 0, none⟩, c, ?_, ?_, ?_, hb⟩
      · rw [tell_has hh hm, hh, nums_len]
      · rw [tell_has hh hm]; exact told_row ht (hs m (List.mem_of_getElem? hm)) hg
      · rw [tell_has hh hm]; exact nums_small _
    · refine ⟨none, 0, ?_, ?_, ?_, hb⟩
      · rw [tell_no hh, hh]; rfl
      · rw [tell_no hh]; exact nil_row _ _
      · rw [tell_no hh]; simp
theorem FLook_u (w : World) (K : Knd) (o nb : Nat) (N : Nt) (h : Fk w K o nb N) (i : Int) (hs : ∀ m ∈ N.row, m.b.size ≤ 4096) : Calls Try.prog 18 #[.pointer (some ⟨nb, 0, none⟩), .int .i64 i] w (LkU w N i) :=
  (FLook_any w K o nb N h i (fun m hm => Nat.le_trans (hs m hm) (by omega))).mono fun e w' ⟨hb, hq⟩ => by
    rcases hq with ⟨hh, m, a, c, hm, rfl, hc⟩ | ⟨hh, rfl⟩
    · refine ⟨a, c, ?_, ?_, hb, fun g' q e => (hc.new g' (by rw [e]; rfl)).1⟩
      · rw [tell_has hh hm, hh, nums_len]
      · rw [tell_has hh hm]; exact hc.by_
    · refine ⟨none, 0, ?_, ?_, hb, fun g' q e => by cases e⟩
      · rw [tell_no hh, hh]; rfl
      · rw [tell_no hh]; exact bytes_nil _
def TkU (k0 : Nat × Nat) (K : Knd) (o nb : Nat) (w : World) (N : Nt) (i : Int) (e : Ending) (w' : World) : Prop := ∃ p c, e = .returned (.tuple #[.agg #[.int .i64 (N.tell i).1, .slice p (N.tell i).2.length c], .bool (N.has i)]) ∧ Q.ownsQ true w' w.heap.size 5 1 (.slice p (N.tell i).2.length c) (N.tell i).2.length (vals (N.tell i).2) ∧ (∀ x ∈ (N.tell i).2, x < 256) ∧ Nk w' (ext K w.heap.size k0) o nb (N.dropped i) ∧ Kp (PNet o) K (ext K w.heap.size k0) w w'
theorem Take_u (w : World) (K : Knd) (k0 : Nat × Nat) (o nb : Nat) (ho : k0.1 ≠ o) (N : Nt) (h : Nk w K o nb N) (hL : N.row.length ≤ 8192) (hs : ∀ m ∈ N.row, m.b.size ≤ 4096) (i : Int) : Calls Try.prog 22 #[.pointer (some ⟨nb, 0, none⟩), .int .i64 i] w (TkU k0 K o nb w N i) :=
  (Take_any w K k0 o nb ho N h hL i).mono fun e w' ⟨hn, hk, hq⟩ => by
    rcases hq with ⟨hh, m, g, c, hm, rfl, hg, ht⟩ | ⟨hh, rfl⟩
    · refine ⟨some ⟨g, 0, none⟩, c, ?_, ?_, ?_, hn, hk⟩
      · rw [tell_has hh hm, hh, nums_len]
      · rw [tell_has hh hm]; exact told_row ht (hs m (List.mem_of_getElem? hm)) hg
      · rw [tell_has hh hm]; exact nums_small _
    · refine ⟨none, 0, ?_, ?_, ?_, hn, hk⟩
      · rw [tell_no hh, hh]; rfl
      · rw [tell_no hh]; exact nil_row _ _
      · rw [tell_no hh]; simp
def FTkU (K : Knd) (o nb : Nat) (w : World) (N : Nt) (i : Int) (e : Ending) (w' : World) : Prop := ∃ K' p c, e = .returned (.tuple #[.agg #[.int .i64 (N.tell i).1, .slice p (N.tell i).2.length c], .bool (N.has i)]) ∧ Bytes w' p (N.tell i).2 ∧ Fk w' K' o nb (N.dropped i) ∧ Kp (PNet o) K K' w w'
theorem FTake_u (w : World) (K : Knd) (o nb : Nat) (ho : o ≠ 0) (N : Nt) (h : Fk w K o nb N) (hL : N.row.length ≤ 8192) (i : Int) (hs : ∀ m ∈ N.row, m.b.size ≤ 4096) : Calls Try.prog 30 #[.pointer (some ⟨nb, 0, none⟩), .int .i64 i] w (FTkU K o nb w N i) :=
  (FTake_any w K o nb ho N h hL i (fun m hm => Nat.le_trans (hs m hm) (by omega))).mono fun e w' ⟨K', hn, hk, hq⟩ => by
    rcases hq with ⟨hh, m, a, c, hm, rfl, hc⟩ | ⟨hh, rfl⟩
    · refine ⟨K', a, c, ?_, ?_, hn, hk⟩
      · rw [tell_has hh hm, hh, nums_len]
      · rw [tell_has hh hm]; exact hc.by_
    · refine ⟨K', none, 0, ?_, ?_, hn, hk⟩
      · rw [tell_no hh, hh]; rfl
      · rw [tell_no hh]; exact bytes_nil _
/-- Doubled. -/
def Nt.dbl (N : Nt) (i : Int) : Nt := if N.has i = true then match N.row[i.toNat]? with | some m => N.add m | none => N else N
theorem dbl_has {N : Nt} {i : Int} {m : Ms} (h : N.has i = true) (hm : N.row[i.toNat]? = some m) : N.dbl i = N.add m := by unfold Nt.dbl; rw [if_pos h, hm]
theorem dbl_no {N : Nt} {i : Int} (h : N.has i = false) : N.dbl i = N := by unfold Nt.dbl; rw [if_neg (by rw [h]; simp)]
theorem Double_u (w : World) (K : Knd) (o nb : Nat) (N : Nt) (h : Nk w K o nb N) (hr : N.room ≤ 8192) (i : Int) :
    Calls Try.prog 33 #[.pointer (some ⟨nb, 0, none⟩), .int .i64 i] w fun e w' => ∃ K', e = .returned (.bool (N.has i && N.adds)) ∧ Nk w' K' o nb (N.dbl i) ∧ Kp (PNet o) K K' w w' :=
  (Double_any w K o nb N h hr i).mono fun e w' ⟨K', hk, hq⟩ => by
    rcases hq with ⟨hh, m, hm, rfl, hn⟩ | ⟨hh, rfl, rfl, rfl⟩
    · exact ⟨K', by rw [hh]; rfl, by rw [dbl_has hh hm]; exact hn, hk⟩
    · exact ⟨_, by rw [hh]; rfl, by rw [dbl_no hh]; exact h, hk⟩
theorem FDouble_u (w : World) (K : Knd) (o nb : Nat) (N : Nt) (h : Fk w K o nb N) (hr : N.room ≤ 8192) (i : Int) (hs : ∀ m ∈ N.row, m.b.size ≤ 4096) :
    Calls Try.prog 34 #[.pointer (some ⟨nb, 0, none⟩), .int .i64 i] w fun e w' => ∃ K', e = .returned (.bool (N.has i && N.adds)) ∧ Fk w' K' o nb (N.dbl i) ∧ Kp (PNet o) K K' w w' :=
  (FDouble_any w K o nb N h hr i (fun m hm => Nat.le_trans (hs m hm) (by omega))).mono fun e w' ⟨K', hk, hq⟩ => by
    rcases hq with ⟨hh, m, hm, rfl, hn⟩ | ⟨hh, rfl, hn⟩
    · exact ⟨K', by rw [hh]; rfl, by rw [dbl_has hh hm]; exact hn, hk⟩
    · exact ⟨K', by rw [hh]; rfl, by rw [dbl_no hh]; exact hn, hk⟩

end Go.Proofs.Ythgggjdefhgfiaa
