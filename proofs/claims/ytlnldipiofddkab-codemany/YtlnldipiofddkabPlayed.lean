import Derived.Test.YtlnldipiofddkabAg2
namespace Go.Proofs.Ytlnldipiofddkab
open Go.RowKit

/-- Bytes in blocks of a kind. -/
structure BytesS (S : Nat → Prop) (w : World) (sp : Option Addr) (xs : List Nat) : Prop where
  small : ∀ x ∈ xs, x < 256
  lie : xs = [] ∨ ∃ g o, sp = some ⟨g, o, none⟩ ∧ S g ∧ g < w.heap.size ∧ ∀ j, j < xs.length → w.cell? ⟨g, o + j, none⟩ = some (.int .u8 (xs.getD j 0))
theorem BytesS.bytes {S : Nat → Prop} {w : World} {sp : Option Addr} {xs : List Nat} (h : BytesS S w sp xs) : Bytes w sp xs :=
  ⟨h.small, h.lie.elim Or.inl (fun ⟨g, o, e, _, hg, hc⟩ => Or.inr ⟨g, o, e, hg, hc⟩)⟩
theorem BytesS.kept {S : Nat → Prop} {w w' : World} {sp : Option Addr} {xs : List Nat} (h : BytesS S w sp xs) (hk : ∀ k, S k → k < w.heap.size → w'.heap[k]? = w.heap[k]?) (hs : w.heap.size ≤ w'.heap.size) : BytesS S w' sp xs :=
  ⟨h.small, h.lie.elim Or.inl (fun ⟨g, o, e, hS, hg, hc⟩ => Or.inr ⟨g, o, e, hS, Nat.lt_of_lt_of_le hg hs, fun j hj => by rw [World.cell?_of_block (w := w) (hk g hS hg)]; exact hc j hj⟩)⟩
theorem BytesS.imp {S T : Nat → Prop} {w : World} {sp : Option Addr} {xs : List Nat} (h : BytesS S w sp xs) (hT : ∀ k, k < w.heap.size → S k → T k) : BytesS T w sp xs :=
  ⟨h.small, h.lie.elim Or.inl (fun ⟨g, o, e, hS, hg, hc⟩ => Or.inr ⟨g, o, e, hT g hg hS, hg, hc⟩)⟩

/-- A step's numbers and lengths. -/
structure Op1.Nums (o : Op1) : Prop where
  k1 : -9223372036854775808 ≤ o.kind
  k2 : o.kind ≤ 9223372036854775807
  w1 : -9223372036854775808 ≤ o.which
  w2 : o.which ≤ 9223372036854775807
  m1 : -9223372036854775808 ≤ o.m
  m2 : o.m ≤ 9223372036854775807
  n2 : o.n < 18446744073709551616
  len : o.bs.length = o.bl
  cap : o.bl ≤ o.bc
  most : o.bc ≤ 140737488351232

def opCells (p : Op1) : List Value := [.int .i64 p.kind, .int .i64 p.which, .int .i64 p.m, .int .u64 (p.n : Int), .slice p.bp p.bl p.bc]

/-- THE STEPS OF A SCRIPT IN BLOCKS OF A KIND. -/
structure OpsS (S : Nat → Prop) (w : World) (sp : Option Addr) (ops : List Op1) : Prop where
  nums : ∀ o ∈ ops, o.Nums
  bytes : ∀ o ∈ ops, BytesS S w o.bp o.bs
  lie : ops = [] ∨ ∃ g o, sp = some ⟨g, o, none⟩ ∧ S g ∧ g < w.heap.size ∧ ∀ j p, ops[j]? = some p →
    w.cell? ⟨g, o + j * 5, none⟩ = some (.int .i64 p.kind) ∧ w.cell? ⟨g, o + j * 5 + 1, none⟩ = some (.int .i64 p.which) ∧ w.cell? ⟨g, o + j * 5 + 2, none⟩ = some (.int .i64 p.m) ∧ w.cell? ⟨g, o + j * 5 + 3, none⟩ = some (.int .u64 (p.n : Int)) ∧ w.cell? ⟨g, o + j * 5 + 4, none⟩ = some (.slice p.bp p.bl p.bc)
theorem OpsS.kept {S : Nat → Prop} {w w' : World} {sp : Option Addr} {ops : List Op1} (h : OpsS S w sp ops) (hk : ∀ k, S k → k < w.heap.size → w'.heap[k]? = w.heap[k]?) (hs : w.heap.size ≤ w'.heap.size) : OpsS S w' sp ops :=
  ⟨h.nums, fun o ho => (h.bytes o ho).kept hk hs, h.lie.elim Or.inl (fun ⟨g, o, e, hS, hg, hc⟩ => Or.inr ⟨g, o, e, hS, Nat.lt_of_lt_of_le hg hs, fun j p hj => by
    have hb := hk g hS hg
    obtain ⟨a0, a1, a2, a3, a4⟩ := hc j p hj
    exact ⟨(World.cell?_of_block (w := w) hb).trans a0, (World.cell?_of_block (w := w) hb).trans a1, (World.cell?_of_block (w := w) hb).trans a2, (World.cell?_of_block (w := w) hb).trans a3, (World.cell?_of_block (w := w) hb).trans a4⟩⟩)⟩
theorem OpsIn.s {w : World} {sp : Option Addr} {ops : List Op1} (h : OpsIn w sp ops) : OpsS (fun k => k < w.heap.size) w sp ops := by
  refine ⟨fun o ho => ?_, fun o ho => ?_, ?_⟩
  · have := h.good o ho
    exact ⟨this.k1, this.k2, this.w1, this.w2, this.m1, this.m2, this.n2, this.len, this.cap, this.most⟩
  · have := (h.good o ho).bytes
    exact ⟨this.small, this.lie.elim Or.inl (fun ⟨g, o, e, hg, hc⟩ => Or.inr ⟨g, o, e, hg, hg, hc⟩)⟩
  · exact h.lie.elim Or.inl (fun ⟨g, o, e, hg, hc⟩ => Or.inr ⟨g, o, e, hg, hg, hc⟩)

/-- A step as it is played with so much room. -/
def trim (room : Nat) (o : Op1) : Op1 := if room < o.bl then ⟨o.kind, o.which, o.m, o.n, none, 0, 0, []⟩ else o
def playsF : Nat → List Op1 → List Op1
  | _, [] => []
  | room, o :: r => trim room o :: playsF (room - (trim room o).bl) r
theorem trim_le (room : Nat) (o : Op1) : (trim room o).bl ≤ room := by unfold trim; split <;> simp_all
theorem plays_length : ∀ (l : List Op1) (room : Nat), (playsF room l).length = l.length
  | [], _ => rfl
  | o :: r, room => by simp [playsF, plays_length r]
theorem plays_sum : ∀ (l : List Op1) (room : Nat), ((playsF room l).map (·.bl)).sum ≤ room
  | [], _ => by simp [playsF]
  | o :: r, room => by
    have h1 := trim_le room o
    have h2 := plays_sum r (room - (trim room o).bl)
    simp only [playsF, List.map_cons, List.sum_cons]; omega
theorem plays_of {q : Op1 → Prop} (hq : ∀ room o, q o → q (trim room o)) : ∀ (l : List Op1) (room : Nat), (∀ o ∈ l, q o) → ∀ o ∈ playsF room l, q o
  | [], _, _, o, ho => by simp [playsF] at ho
  | p :: r, room, h, o, ho => by
    simp only [playsF, List.mem_cons] at ho
    rcases ho with rfl | ho
    · exact hq room p (h p (by simp))
    · exact plays_of hq r _ (fun o ho => h o (List.mem_cons_of_mem _ ho)) o ho

theorem Try.infoOp : (Try.prog.info? 60).map (fun i => (i.zero, i.size, i.bytes)) = some (some (.agg #[.int .i64 0, .int .i64 0, .int .i64 0, .int .u64 0, .slice none 0 0]), 5, 56) := by kernel_rfl

theorem owns_base {w : World} {base : Nat} {e : TypeId} {size n : Nat} {v : Value} {xs : List Value} (h : w.ownsRow base e size v n xs) : ∀ g, v.ownBlock = some g → base ≤ g := by
  intro g e
  rcases h.2 with ⟨h1, _⟩ | ⟨g', cap, cur, h1, hb, _⟩
  · rw [h1] at e; simp [Value.ownBlock] at e
  · rw [h1] at e; simp [Value.ownBlock] at e; omega

theorem heap_two (w : World) (A B : Obj) : ((w.alloc A).alloc B).heap[w.heap.size + 1]? = some B := by
  have h := heap_alloc_new (w.alloc A) B
  rw [show (w.alloc A).heap.size = w.heap.size + 1 by simp] at h
  exact h

theorem flat_at (P : List Op1) (j : Nat) (p : Op1) (h : P[j]? = some p) (i : Nat) (hi : i < 5) : (P.flatMap opCells)[j * 5 + i]? = (opCells p)[i]? := by
  induction P generalizing j with
  | nil => simp at h
  | cons q P ih =>
    cases j with
    | zero =>
      simp at h; subst h
      rw [List.flatMap_cons, List.getElem?_append_left (by simp [opCells]; omega)]
      simp
    | succ j =>
      simp at h
      rw [List.flatMap_cons, List.getElem?_append_right (by simp [opCells]; omega)]
      have := ih j h
      rw [← this]
      congr 1
      simp [opCells]; omega

theorem flat_len (P : List Op1) : (P.flatMap opCells).length = P.length * 5 := by
  induction P with
  | nil => rfl
  | cons q P ih => simp [List.flatMap_cons, ih, opCells]; omega

theorem trim_nums (room : Nat) (o : Op1) (h : o.Nums) : (trim room o).Nums := by
  unfold trim
  split
  · exact ⟨h.k1, h.k2, h.w1, h.w2, h.m1, h.m2, h.n2, rfl, Nat.le_refl _, by simp only; omega⟩
  · exact h
theorem trim_bytes {S : Nat → Prop} {w : World} (room : Nat) (o : Op1) (h : BytesS S w o.bp o.bs) : BytesS S w (trim room o).bp (trim room o).bs := by
  unfold trim
  split
  · exact ⟨by simp, Or.inl rfl⟩
  · exact h

end Go.Proofs.Ytlnldipiofddkab
