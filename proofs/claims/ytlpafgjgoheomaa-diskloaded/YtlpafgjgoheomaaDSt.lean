import Derived.Test.YtlpafgjgoheomaaFName
namespace Go.Proofs.Ytlpafgjgoheomaa
open Go.RowKit Go.Maps

/-! A disk, as numbers and lists -/
structure St where
  room : Nat
  strokes : Nat
  planned : Nat
  pOff : Int
  pFrom : Int
  pTo : Int
  off : Bool
  safe : List (Nm × Nat)
  seen : List (Nm × Nat)
  chg : List Chg
  files : List Fil
def St.file (S : St) (i : Nat) : Fil := (S.files[i]?).getD ⟨[], []⟩
def St.used (S : St) : Nat := (S.seen.map fun p => (S.file p.2).all.length).sum
def St.stroked (S : St) : St := { S with strokes := S.strokes + 1, planned := S.planned + 1, off := S.off || decide (((S.planned + 1 : Nat) : Int) = S.pOff) }
def St.power (S : St) : Nat := if ((S.planned + 1 : Nat) : Int) = S.pOff then 45 else 0
def St.fullP (S : St) : Bool := decide (1 ≤ S.pFrom) && decide (S.pFrom ≤ S.planned) && decide ((S.planned : Int) ≤ S.pTo)
def St.full (S : St) (more : Nat) : Bool := S.fullP || decide (S.room < more + S.used)
def St.turn (S : St) (i : Nat) (f : Fil) : St := { S with files := S.files.set i f }
def St.ren (S : St) (c : Chg) : St := { S with seen := withN S.seen c, chg := S.chg ++ [c] }
def St.made (S : St) (f : Fil) : St := { S with files := S.files ++ [f] }
def St.settledN (S : St) : St := { S with safe := S.chg.foldl withN S.safe, chg := [] }

/-- A change with its file led to another place. -/
def lc (loc : Nat → Nat) (c : Chg) : Chg := ⟨c.frm, c.to, loc c.file⟩
theorem mapN_with (loc : Nat → Nat) (l : List (Nm × Nat)) (c : Chg) : mapN loc (withN l c) = withN (mapN loc l) (lc loc c) := by
  unfold withN lc
  split
  · rw [mapN_del]
  · rw [mapN_put, mapN_del]
/-- A change in memory. -/
def chv (loc : Nat → Nat) (c : Chg) : List Value := [.string ⟨c.frm.toArray⟩, .string ⟨c.to.toArray⟩, .pointer (if c.to = [] then none else some ⟨loc c.file, 0, none⟩)]
def chvs (loc : Nat → Nat) (l : List Chg) : List Value := l.flatMap (chv loc)
theorem chvs_len (loc : Nat → Nat) (l : List Chg) : (chvs loc l).length = l.length * 3 := by
  unfold chvs
  induction l with
  | nil => rfl
  | cons c l ih => simp [List.flatMap_cons, chv, ih] at *; omega
theorem chvs_app (loc : Nat → Nat) (l : List Chg) (c : Chg) : chvs loc (l ++ [c]) = chvs loc l ++ chv loc c := by simp [chvs]
theorem chvs_at (loc : Nat → Nat) : ∀ (l : List Chg) (k : Nat) (c : Chg), l[k]? = some c → ∀ j, j < 3 → (chvs loc l)[3 * k + j]? = (chv loc c)[j]?
  | [], k, c, h, _, _ => by simp at h
  | a :: l, 0, c, h, j, hj => by
    simp at h; subst h
    show (chv loc a ++ chvs loc l)[3 * 0 + j]? = _
    rw [Nat.mul_zero, Nat.zero_add, List.getElem?_append_left (by simpa [chv] using hj)]
  | a :: l, k + 1, c, h, j, hj => by
    have ih := chvs_at loc l k c (by simpa using h) j hj
    show (chv loc a ++ chvs loc l)[3 * (k + 1) + j]? = _
    rw [List.getElem?_append_right (by simp [chv]; omega), ← ih]
    congr 1
    simp [chv]; omega
theorem chvs_cong {loc loc' : Nat → Nat} {l : List Chg} (h : ∀ c ∈ l, c.to ≠ [] → loc c.file = loc' c.file) : chvs loc l = chvs loc' l := by
  unfold chvs
  induction l with
  | nil => rfl
  | cons c l ih =>
    rw [List.flatMap_cons, List.flatMap_cons, ih (fun d hd => h d (List.mem_cons_of_mem _ hd))]
    congr 1
    unfold chv
    by_cases e : c.to = []
    · simp [e]
    · rw [h c (List.mem_cons_self ..) e]

/-! .. in memory -/
def dcells (S : St) (sv nv cv : Value) : Array Value := #[.int .i64 (S.room : Int), sv, nv, cv, .int .i64 (S.strokes : Int), .int .i64 S.pOff, .int .i64 S.pFrom, .int .i64 S.pTo, .int .i64 (S.planned : Int), .bool S.off]
structure Mk (w : World) (K : Knd) (k : Nat × Nat) (v : Value) (l : List (Nm × Nat)) : Prop where
  mp : Mp w v l
  kind : ∀ b, mblk v = some b → K b = k
structure Fk (w : World) (K : Knd) (o i b : Nat) (f : Fil) : Prop where
  kb : K b = (o, 5 + 3 * i)
  fl : ∃ sv uv, Flw w b sv uv f ∧ (∀ g, sv.ownBlock = some g → K g = (o, 6 + 3 * i)) ∧ (∀ g, uv.ownBlock = some g → K g = (o, 7 + 3 * i))
structure Dm (w : World) (K : Knd) (o d : Nat) (loc : Nat → Nat) (sv nv cv : Value) (S : St) : Prop where
  blk : w.heap[d]? = some (.cells (dcells S sv nv cv) 82 (0, 0))
  kd : K d = (o, 1)
  sf : Mk w K (o, 2) sv (mapN loc S.safe)
  sn : Mk w K (o, 3) nv (mapN loc S.seen)
  ch : Rk w K (o, 4) 77 3 cv S.chg.length (chvs loc S.chg)
  fl : ∀ i f, S.files[i]? = some f → Fk w K o i (loc i) f

theorem Mk.kept {p : Nat × Nat → Prop} {K K' : Knd} {w w' : World} {k : Nat × Nat} {v : Value} {l : List (Nm × Nat)} (h : Mk w K k v l) (hk : Kp p K K' w w') (hp : ¬ p k) : Mk w' K' k v l :=
  ⟨h.mp.same (fun b hb => hk.block b (h.mp.lt hb) (by rw [h.kind b hb]; exact hp)), fun b hb => (hk.same b (h.mp.lt hb)).trans (h.kind b hb)⟩
theorem Flw.kept {w w' : World} {b : Nat} {sv uv : Value} {f : Fil} (h : Flw w b sv uv f) (h1 : w'.heap[b]? = w.heap[b]?) (h2 : ∀ g, sv.ownBlock = some g → w'.heap[g]? = w.heap[g]?) (h3 : ∀ g, uv.ownBlock = some g → w'.heap[g]? = w.heap[g]?) : Flw w' b sv uv f :=
  ⟨h1.trans h.blk, owns_same h.safe h2, owns_same h.unit h3, h.ok⟩
theorem Fk.lt {w : World} {K : Knd} {o i b : Nat} {f : Fil} (h : Fk w K o i b f) : b < w.heap.size := by
  obtain ⟨sv, uv, h1, _⟩ := h.fl
  exact lt_of_block h1.blk
theorem Fk.kept {p : Nat × Nat → Prop} {K K' : Knd} {w w' : World} {o i b : Nat} {f : Fil} (h : Fk w K o i b f) (hk : Kp p K K' w w') (hp : ¬ p (o, 5 + 3 * i) ∧ ¬ p (o, 6 + 3 * i) ∧ ¬ p (o, 7 + 3 * i)) : Fk w' K' o i b f := by
  have hlt := h.lt
  obtain ⟨sv, uv, h1, h2, h3⟩ := h.fl
  exact ⟨(hk.same b hlt).trans h.kb, sv, uv, h1.kept (hk.block b hlt (by rw [h.kb]; exact hp.1)) (fun g hg => hk.block g (rk_lt h1.safe hg) (by rw [h2 g hg]; exact hp.2.1)) (fun g hg => hk.block g (rk_lt h1.unit hg) (by rw [h3 g hg]; exact hp.2.2)),
    fun g hg => (hk.same g (rk_lt h1.safe hg)).trans (h2 g hg), fun g hg => (hk.same g (rk_lt h1.unit hg)).trans (h3 g hg)⟩
theorem Dm.lt {w : World} {K : Knd} {o d : Nat} {loc : Nat → Nat} {sv nv cv : Value} {S : St} (h : Dm w K o d loc sv nv cv S) : d < w.heap.size := lt_of_block h.blk
theorem Dm.kept {p : Nat × Nat → Prop} {K K' : Knd} {w w' : World} {o d : Nat} {loc : Nat → Nat} {sv nv cv : Value} {S : St} (h : Dm w K o d loc sv nv cv S) (hk : Kp p K K' w w') (hp : ∀ k, ¬ p (o, k)) : Dm w' K' o d loc sv nv cv S :=
  ⟨(hk.block d h.lt (by rw [h.kd]; exact hp _)).trans h.blk, (hk.same d h.lt).trans h.kd, h.sf.kept hk (hp _), h.sn.kept hk (hp _), h.ch.kept hk (hp _), fun i f hf => (h.fl i f hf).kept hk ⟨hp _, hp _, hp _⟩⟩
/-- The disk's own cells have turned. -/
theorem Dm.turnD {K K' : Knd} {w w' : World} {o d : Nat} {loc : Nat → Nat} {sv nv cv : Value} {S S' : St} (h : Dm w K o d loc sv nv cv S) (hk : Kp (fun k => k = (o, 1)) K K' w w') (hb : w'.heap[d]? = some (.cells (dcells S' sv nv cv) 82 (0, 0)))
    (e1 : S'.safe = S.safe) (e2 : S'.seen = S.seen) (e3 : S'.chg = S.chg) (e4 : S'.files = S.files) : Dm w' K' o d loc sv nv cv S' :=
  ⟨hb, (hk.same d h.lt).trans h.kd, by rw [e1]; exact h.sf.kept hk (by simp), by rw [e2]; exact h.sn.kept hk (by simp), by rw [e3]; exact h.ch.kept hk (by simp), fun i f hf => (h.fl i f (by rw [← e4]; exact hf)).kept hk ⟨by simp; omega, by simp; omega, by simp; omega⟩⟩
/-- A file has turned. -/
theorem Dm.turnF {p : Nat × Nat → Prop} {K K' : Knd} {w w' : World} {o d : Nat} {loc : Nat → Nat} {sv nv cv : Value} {S : St} (h : Dm w K o d loc sv nv cv S) {i : Nat} (hk : Kp p K K' w w') (hp : ∀ k, p k → k = (o, 5 + 3 * i) ∨ k = (o, 6 + 3 * i) ∨ k = (o, 7 + 3 * i))
    {f : Fil} (hf : Fk w' K' o i (loc i) f) : Dm w' K' o d loc sv nv cv (S.turn i f) := by
  have np : ∀ k, k ≠ 5 + 3 * i → k ≠ 6 + 3 * i → k ≠ 7 + 3 * i → ¬ p (o, k) := fun k h1 h2 h3 hpk => by
    rcases hp _ hpk with e | e | e <;> simp at e <;> omega
  refine ⟨(hk.block d h.lt (by rw [h.kd]; exact np 1 (by omega) (by omega) (by omega))).trans h.blk, (hk.same d h.lt).trans h.kd, h.sf.kept hk (np 2 (by omega) (by omega) (by omega)), h.sn.kept hk (np 3 (by omega) (by omega) (by omega)), h.ch.kept hk (np 4 (by omega) (by omega) (by omega)), fun j g hg => ?_⟩
  by_cases e : i = j
  · subst e
    have : g = f := by
      have h1 : (S.files.set i f)[i]? = some g := hg
      rw [List.getElem?_set] at h1
      split at h1
      · split at h1
        · exact (Option.some.inj h1).symm
        · cases h1
      · rename_i hne; exact absurd rfl hne
    rw [this]; exact hf
  · have h1 : (S.files.set i f)[j]? = some g := hg
    rw [List.getElem?_set_ne e] at h1
    exact (h.fl j g h1).kept hk ⟨np _ (by omega) (by omega) (by omega), np _ (by omega) (by omega) (by omega), np _ (by omega) (by omega) (by omega)⟩

theorem blk10 {w : World} {b : Nat} {x0 x1 x2 x3 x4 x5 x6 x7 x8 x9 : Value} {t : TypeId} (h : w.heap[b]? = some (.cells #[x0, x1, x2, x3, x4, x5, x6, x7, x8, x9] t (0, 0))) :
    w.cell? ⟨b, 0, none⟩ = some x0 ∧ w.cell? ⟨b, 1, none⟩ = some x1 ∧ w.cell? ⟨b, 2, none⟩ = some x2 ∧ w.cell? ⟨b, 3, none⟩ = some x3 ∧ w.cell? ⟨b, 4, none⟩ = some x4 ∧ w.cell? ⟨b, 5, none⟩ = some x5 ∧ w.cell? ⟨b, 6, none⟩ = some x6 ∧ w.cell? ⟨b, 7, none⟩ = some x7 ∧ w.cell? ⟨b, 8, none⟩ = some x8 ∧ w.cell? ⟨b, 9, none⟩ = some x9 ∧ (∀ o, w.frozen? ⟨b, o, none⟩ = false) :=
  ⟨by simp [World.cell?, h], by simp [World.cell?, h], by simp [World.cell?, h], by simp [World.cell?, h], by simp [World.cell?, h], by simp [World.cell?, h], by simp [World.cell?, h], by simp [World.cell?, h], by simp [World.cell?, h], by simp [World.cell?, h], fun o => by simp [World.frozen?, h]⟩

end Go.Proofs.Ytlpafgjgoheomaa
