import Derived.Test.YthgggjdefhgfiaaNCopy
namespace Go.Proofs.Ythgggjdefhgfiaa
open Go.RowKit Go.Maps

abbrev Ds := List (Option Addr × Nat)
def flv (l : List Ms) (ds : Ds) : List Value := (l.zip ds).flatMap fun q => [.int .i64 q.1.to, .slice q.2.1 q.1.b.size q.2.2]
theorem flv_len : ∀ {l : List Ms} {ds : Ds}, ds.length = l.length → (flv l ds).length = l.length * 2
  | [], _, _ => by simp [flv]
  | m :: l, [], h => by simp at h
  | m :: l, d :: ds, h => by
    have := flv_len (l := l) (ds := ds) (by simpa using h)
    show ([_, _] ++ flv l ds).length = _
    rw [List.length_append, this, List.length_cons]; simp; omega
theorem flv_snoc : ∀ {l : List Ms} {ds : Ds}, ds.length = l.length → ∀ (m : Ms) (d : Option Addr × Nat), flv (l ++ [m]) (ds ++ [d]) = flv l ds ++ [.int .i64 m.to, .slice d.1 m.b.size d.2] := fun {l ds} h m d => by
  unfold flv
  rw [List.zip_append (by rw [h])]
  simp
theorem flv_at : ∀ {l : List Ms} {ds : Ds} {k : Nat} {m : Ms} {d : Option Addr × Nat}, l[k]? = some m → ds[k]? = some d → (flv l ds)[k * 2]? = some (.int .i64 m.to) ∧ (flv l ds)[k * 2 + 1]? = some (.slice d.1 m.b.size d.2)
  | [], _, _, _, _, h, _ => by simp at h
  | _ :: _, [], _, _, _, _, h => by simp at h
  | m0 :: l, d0 :: ds, 0, m, d, h1, h2 => by
    simp at h1 h2
    subst h1 h2
    exact ⟨rfl, rfl⟩
  | m0 :: l, d0 :: ds, k + 1, m, d, h1, h2 => by
    have := flv_at (l := l) (ds := ds) (k := k) (by simpa using h1) (by simpa using h2)
    show ([_, _] ++ flv l ds)[(k + 1) * 2]? = _ ∧ ([_, _] ++ flv l ds)[(k + 1) * 2 + 1]? = _
    rw [List.getElem?_append_right (by simp; omega), List.getElem?_append_right (by simp; omega)]
    have e1 : (k + 1) * 2 - [Value.int .i64 m0.to, Value.slice d0.1 m0.b.size d0.2].length = k * 2 := by simp; omega
    have e2 : (k + 1) * 2 + 1 - [Value.int .i64 m0.to, Value.slice d0.1 m0.b.size d0.2].length = k * 2 + 1 := by simp; omega
    rw [e1, e2]
    exact this
theorem flv_one (l : List Ms) (ds : Ds) : ∀ u ∈ flv l ds, u.oneCell' = true := by
  intro u hu
  simp only [flv, List.mem_flatMap] at hu
  obtain ⟨m, _, hm⟩ := hu
  simp only [List.mem_cons, List.not_mem_nil, or_false] at hm
  rcases hm with e | e <;> (subst e; rfl)
/-- Where the bytes of a message of the document's lie. -/
structure Dy (w : World) (K : Knd) (o : Nat) (m : Ms) (d : Option Addr × Nat) : Prop where
  by_ : Bytes w d.1 (nums m.b)
  kind : ∀ g, (Value.slice d.1 m.b.size d.2).ownBlock = some g → K g = (o, 3) ∧ g < w.heap.size
  le : m.b.size ≤ d.2
  max : d.2 ≤ 9223372036854775807
def fcells (N : Nt) (rv : Value) : Array Value := #[rv, .int .i64 (N.room : Int), .int .u64 (N.lost : Int)]
/-- THE DOCUMENT'S NET. -/
structure Fw (w : World) (K : Knd) (o fb : Nat) (rv : Value) (ds : Ds) (N : Nt) : Prop where
  blk : w.heap[fb]? = some (.cells (fcells N rv) 105 (0, 0))
  kn : K fb = (o, 1)
  len : ds.length = N.row.length
  row : Rk w K (o, 2) 75 2 rv N.row.length (flv N.row ds)
  bys : ∀ (i : Nat) (m : Ms) (d : Option Addr × Nat), N.row[i]? = some m → ds[i]? = some d → Dy w K o m d
def Fk (w : World) (K : Knd) (o fb : Nat) (N : Nt) : Prop := ∃ rv ds, Fw w K o fb rv ds N
theorem Fk.lt {w : World} {K : Knd} {o nb : Nat} {N : Nt} (h : Fk w K o nb N) : nb < w.heap.size := by
  obtain ⟨rv, ds, hm⟩ := h
  exact lt_of_block hm.blk
theorem bytes_kept {w w' : World} {sp : Option Addr} {xs : List Nat} (h : Bytes w sp xs) (hs : w.heap.size ≤ w'.heap.size) (hb : ∀ g o, sp = some ⟨g, o, none⟩ → g < w.heap.size → w'.heap[g]? = w.heap[g]?) : Bytes w' sp xs := by
  refine ⟨h.small, h.lie.imp id ?_⟩
  rintro ⟨g, o, e, hg, hc⟩
  exact ⟨g, o, e, Nat.lt_of_lt_of_le hg hs, fun j hj => by
    have := hb g o e hg
    have e2 : w'.cell? ⟨g, o + j, none⟩ = w.cell? ⟨g, o + j, none⟩ := by simp only [World.cell?, this]
    rw [e2]; exact hc j hj⟩
theorem Dy.kept {p : Nat × Nat → Prop} {K K' : Knd} {w w' : World} {o : Nat} {m : Ms} {d : Option Addr × Nat} (h : Dy w K o m d) (hk : Kp p K K' w w') (hp : ¬ p (o, 3)) : Dy w' K' o m d :=
  ⟨bytes_kept h.by_ hk.size (fun g q e hg => hk.block g hg (by rw [(h.kind g (by rw [e]; rfl)).1]; exact hp)), fun g e => ⟨(hk.same g (h.kind g e).2).trans (h.kind g e).1, Nat.lt_of_lt_of_le (h.kind g e).2 hk.size⟩, h.le, h.max⟩
theorem Fk.kept {p : Nat × Nat → Prop} {K K' : Knd} {w w' : World} {o nb : Nat} {N : Nt} (h : Fk w K o nb N) (hk : Kp p K K' w w') (hp : ∀ k, ¬ p (o, k)) : Fk w' K' o nb N := by
  obtain ⟨rv, ds, hm⟩ := h
  have hl := lt_of_block hm.blk
  exact ⟨rv, ds, (hk.block nb hl (by rw [hm.kn]; exact hp _)).trans hm.blk, (hk.same nb hl).trans hm.kn, hm.len, hm.row.kept hk (hp _), fun i m d h1 h2 => (hm.bys i m d h1 h2).kept hk (hp _)⟩
theorem Fw.at {w : World} {K : Knd} {o fb : Nat} {a : Option Addr} {n c : Nat} {ds : Ds} {N : Nt} (h : Fw w K o fb (.slice a n c) ds N) {k : Nat} {m : Ms} (hm : N.row[k]? = some m) : ∃ g d, a = some ⟨g, 0, none⟩ ∧ ds[k]? = some d ∧ w.cell? ⟨g, k * 2, none⟩ = some (.int .i64 m.to) ∧ w.cell? ⟨g, k * 2 + 1, none⟩ = some (.slice d.1 m.b.size d.2) ∧ g < w.heap.size ∧ k < n ∧ n ≤ c ∧ K g = (o, 2) := by
  have hk : k < N.row.length := (List.getElem?_eq_some_iff.1 hm).1
  have hd : ds[k]? = some (ds[k]'(by rw [h.len]; exact hk)) := List.getElem?_eq_getElem _
  rcases h.row.own.2 with ⟨h1, h2⟩ | ⟨g, cap, cur, h1, _, hg, h3, h4, h5, h6⟩
  · omega
  · cases h1
    obtain ⟨e0, e1⟩ := flv_at hm hd
    rw [← h6, List.getElem?_take, if_pos (by omega), Array.getElem?_toList] at e0 e1
    exact ⟨g, _, rfl, hd, by simp only [World.cell?, hg]; exact e0, by simp only [World.cell?, hg]; exact e1, lt_of_block hg, hk, h3, h.row.kind g rfl⟩

set_option maxRecDepth 100000 in
theorem flen_any (w : World) (K : Knd) (o nb : Nat) (N : Nt) (h : Fk w K o nb N) :
    Calls Try.prog 17 #[.pointer (some ⟨nb, 0, none⟩)] w fun e w' => e = .returned (.int .i64 (N.row.length : Int)) ∧ w' = w := by
  obtain ⟨rv, ds, hm⟩ := h
  have hb := hm.blk
  unfold fcells at hb
  obtain ⟨a, c, hrv, _, _⟩ := hm.row.form
  subst hrv
  obtain ⟨q0, q1, q2, qf⟩ := blk3 hb
  clear hm hb
  go_enter Try.func17, Try.ntmps17
  go_wp2
  go_ret
  exact ⟨rfl, rfl⟩
set_option maxRecDepth 100000 in
theorem flost_any (w : World) (K : Knd) (o nb : Nat) (N : Nt) (h : Fk w K o nb N) :
    Calls Try.prog 38 #[.pointer (some ⟨nb, 0, none⟩)] w fun e w' => e = .returned (.int .u64 (N.lost : Int)) ∧ w' = w := by
  obtain ⟨rv, ds, hm⟩ := h
  have hb := hm.blk
  unfold fcells at hb
  obtain ⟨q0, q1, q2, qf⟩ := blk3 hb
  clear hm hb
  go_enter Try.func38, Try.ntmps38
  go_wp2
  go_ret
  exact ⟨rfl, rfl⟩
def FNewPost (K : Knd) (o : Nat) (w : World) (z : Int) (e : Ending) (w' : World) : Prop :=
  Below w.heap.size w w' ∧ ((newR z = true ∧ e = .returned (.tuple #[.pointer (some ⟨w.heap.size, 0, none⟩), .int .i64 0]) ∧ Fk w' (ext K w.heap.size (o, 1)) o w.heap.size ⟨z.toNat, [], 0⟩) ∨ (newR z = false ∧ e = .returned (.tuple #[.pointer none, .int .i64 60]) ∧ w' = w))
set_option maxRecDepth 100000 in
set_option maxHeartbeats 400000 in
theorem FNew_any (w : World) (K : Knd) (o : Nat) (z : Int) : Calls Try.prog 25 #[.int .i64 z] w (FNewPost K o w z) := by
  by_cases h1 : z < 1
  · have h1n : newR z = false := by unfold newR; simp; omega
    have HN := hide h1n
    clear h1n
    go_enter Try.func25, Try.ntmps25
    go_wp2
    go_ret2
    exact ⟨Below.refl _ _, Or.inr ⟨HN.out, rfl, rfl⟩⟩
  · by_cases h2 : 8192 < z
    · have h1n : newR z = false := by unfold newR; simp; omega
      have HN := hide h1n
      clear h1n
      go_enter Try.func25, Try.ntmps25
      go_wp2
      go_ret2
      exact ⟨Below.refl _ _, Or.inr ⟨HN.out, rfl, rfl⟩⟩
    · have h1n : newR z = true := by unfold newR; simp; omega
      have HN := hide h1n
      clear h1n
      go_enter Try.func25, Try.ntmps25
      go_wp2
      go_ret2
      refine ⟨(Below.refl _ _).alloc (Nat.le_refl _) _, Or.inl ⟨HN.out, rfl, .slice none 0 0, [], ?_, ext_new K _ (Nat.le_refl _), rfl, rk_nil _ _ _ _ _, fun i m d h => (by simp at h)⟩⟩
      rw [heap_alloc_new]
      unfold fcells
      rw [show ((z.toNat : Nat) : Int) = z by omega]
      rfl

/-- A copy: nil, or a block of its own. -/
structure Cp (w : World) (B : Nat) (a : Option Addr) (n c : Nat) (xs : List Nat) : Prop where
  by_ : Bytes w a xs
  new : ∀ g, (Value.slice a n c).ownBlock = some g → B ≤ g ∧ g < w.heap.size
  le : n ≤ c
  max : c ≤ 9223372036854775807
theorem cp_own {w : World} {B : Nat} {a : Option Addr} {n c : Nat} {xs : List Nat} (h : w.ownsRow B 5 1 (.slice a n c) n (vals xs)) (hs : ∀ x ∈ xs, x < 256) : Cp w B a n c xs := by
  obtain ⟨a', c', e, h1, h2⟩ := owns_form h
  cases e
  refine ⟨owns_bytes h hs, fun g e => ?_, h1, by unfold maxLen at h2; omega⟩
  rcases h.2 with ⟨e1, _⟩ | ⟨g', _, _, e1, e2, e3, _⟩
  · rw [e1] at e; simp [Value.ownBlock] at e
  · rw [e1] at e; simp [Value.ownBlock] at e; subst e; exact ⟨e2, lt_of_block e3⟩
theorem Cp.same {w w' : World} {B : Nat} {a : Option Addr} {n c : Nat} {xs : List Nat} (h : Cp w B a n c xs) (hs : w.heap.size ≤ w'.heap.size) (hb : ∀ g, B ≤ g → g < w.heap.size → w'.heap[g]? = w.heap[g]?) : Cp w' B a n c xs :=
  ⟨bytes_kept h.by_ hs (fun g o e hg => hb g (h.new g (by rw [e]; rfl)).1 hg), fun g e => ⟨(h.new g e).1, Nat.lt_of_lt_of_le (h.new g e).2 hs⟩, h.le, h.max⟩
theorem Cp.dy {w : World} {K : Knd} {B o : Nat} {a : Option Addr} {c : Nat} {m : Ms} (h : Cp w B a m.b.size c (nums m.b)) (hk : ∀ g, B ≤ g → g < w.heap.size → K g = (o, 3)) : Dy w K o m (a, c) :=
  ⟨h.by_, fun g e => ⟨hk g (h.new g e).1 (h.new g e).2, (h.new g e).2⟩, h.le, h.max⟩

end Go.Proofs.Ythgggjdefhgfiaa
