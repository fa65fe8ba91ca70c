import Derived.Test.YthgggjdefhgfiaaHData
import Derived.Deep.DeepCutAuto
import Derived.Deep.CutBlock
namespace Go.Proofs.Ythgggjdefhgfiaa
open Go.RowKit Go.Maps

/-- What is told of a place, in names. -/
structure Td (N : Nt) (i : Int) (t : Int) (hv : Bool) (xs : List Nat) (l : Nat) : Prop where
  tell : N.tell i = (t, xs)
  has : N.has i = hv
  len : xs.length = l
  le : l ≤ 4096
  small : ∀ y ∈ xs, y < 256
theorem td_ex (N : Nt) (i : Int) (hs : ∀ m ∈ N.row, m.b.size ≤ 4096) : ∃ t hv xs l, Td N i t hv xs l := ⟨(N.tell i).1, N.has i, (N.tell i).2, (N.tell i).2.length, rfl, rfl, rfl, tell_len hs, tell_small⟩
theorem below_of {w W W' : World} (h : Below w.heap.size w W) (h2 : Below W.heap.size W W') : Below w.heap.size w W' := h.trans (h2.mono h.size)
theorem look_td {w W : World} {K : Knd} {o nb : Nat} {N : Nt} {i t : Int} {hv : Bool} {xs : List Nat} {l : Nat} (h : Nk w K o nb N) (hs : ∀ m ∈ N.row, m.b.size ≤ 4096) (ht : Td N i t hv xs l) (hW : Below w.heap.size w W) :
    Calls Try.prog 16 #[.pointer (some ⟨nb, 0, none⟩), .int .i64 i] W fun e W' => ∃ p c, e = .returned (.tuple #[.agg #[.int .i64 t, .slice p l c], .bool hv]) ∧ Q.ownsQ true W' W.heap.size 5 1 (.slice p l c) l (vals xs) ∧ Below W.heap.size W W' ∧ Below w.heap.size w W' := by
  have := Look_u W _ o nb N (h.kept (kp_below hW (fun _ => False) _ (0, 0)) (fun _ h => h)) i hs
  unfold LkP at this
  rw [ht.tell, ht.has] at this
  simp only [ht.len] at this
  exact this.mono fun e W' ⟨p, c, q1, q2, _, q3⟩ => ⟨p, c, q1, q2, q3, below_of hW q3⟩
theorem flook_td {w W : World} {K : Knd} {o nb : Nat} {N : Nt} {i t : Int} {hv : Bool} {xs : List Nat} {l : Nat} (h : Fk w K o nb N) (hs : ∀ m ∈ N.row, m.b.size ≤ 4096) (ht : Td N i t hv xs l) (hW : Below w.heap.size w W) :
    Calls Try.prog 18 #[.pointer (some ⟨nb, 0, none⟩), .int .i64 i] W fun e W' => ∃ p c, e = .returned (.tuple #[.agg #[.int .i64 t, .slice p l c], .bool hv]) ∧ (Bytes W' p xs ∧ ∀ g q, p = some ⟨g, q, none⟩ → W.heap.size ≤ g) ∧ Below W.heap.size W W' ∧ Below w.heap.size w W' := by
  have := FLook_u W _ o nb N (h.kept (kp_below hW (fun _ => False) _ (0, 0)) (fun _ h => h)) i hs
  unfold LkU at this
  rw [ht.tell, ht.has] at this
  simp only [ht.len] at this
  exact this.mono fun e W' ⟨p, c, q1, q2, q3, q4⟩ => ⟨p, c, q1, ⟨q2, q4⟩, q3, below_of hW q3⟩
theorem flen_td {w W : World} {K : Knd} {o nb : Nat} {N : Nt} (h : Fk w K o nb N) (hW : Below w.heap.size w W) :
    Calls Try.prog 17 #[.pointer (some ⟨nb, 0, none⟩)] W fun e w' => e = .returned (.int .i64 (N.row.length : Int)) ∧ w' = W := flen_any W _ o nb N (h.kept (kp_below hW (fun _ => False) _ (0, 0)) (fun _ h => h))
/-- A message that was told, in a variable of its own. -/
def FlA (w wy : World) (f : Nat) (t : Int) (p : Option Addr) (l c : Nat) (xs : List Nat) : Prop := wy.heap[f]? = some (.cells #[.int .i64 t, .slice p l c] 75 (0, 0)) ∧ w.heap.size ≤ f ∧ Q.ownsQ true wy w.heap.size 5 1 (.slice p l c) l (vals xs) ∧ Below w.heap.size w wy
def FlB (w wy : World) (f : Nat) (t : Int) (p : Option Addr) (l c : Nat) (xs : List Nat) : Prop := wy.heap[f]? = some (.cells #[.int .i64 t, .slice p l c] 75 (0, 0)) ∧ w.heap.size ≤ f ∧ (Bytes wy p xs ∧ ∀ g q, p = some ⟨g, q, none⟩ → w.heap.size ≤ g) ∧ Below w.heap.size w wy
theorem fla_new {w w2 : World} {B : Nat} {t : Int} {p : Option Addr} {l c : Nat} {xs : List Nat} (hy : Q.ownsQ true w2 B 5 1 (.slice p l c) l (vals xs)) (hB : w.heap.size ≤ B) (hb : Below w.heap.size w w2) : FlA w (w2.alloc (.cells #[.int .i64 t, .slice p l c] 75)) w2.heap.size t p l c xs :=
  ⟨heap_alloc_new _ _, hb.size, Q.owns_mono (bq_below hy ((Below.refl _ _).alloc (Nat.le_refl _) _)) hB, hb.alloc hb.size _⟩
theorem flb_new {w w2 : World} {B : Nat} {t : Int} {p : Option Addr} {l c : Nat} {xs : List Nat} (hy : Bytes w2 p xs ∧ ∀ g q, p = some ⟨g, q, none⟩ → B ≤ g) (hB : w.heap.size ≤ B) (hb : Below w.heap.size w w2) : FlB w (w2.alloc (.cells #[.int .i64 t, .slice p l c] 75)) w2.heap.size t p l c xs :=
  ⟨heap_alloc_new _ _, hb.size, ⟨hy.1.below ((Below.refl _ _).alloc (Nat.le_refl _) _), fun g q e => Nat.le_trans hB (hy.2 g q e)⟩, hb.alloc hb.size _⟩
theorem fla_set {w w2 : World} {B : Nat} {t : Int} {p : Option Addr} {l c : Nat} {xs : List Nat} {u v : Value} (hr : w2.heap[w.heap.size]? = some (.cells #[u, v] 75 (0, 0))) (hy : Q.ownsQ true w2 B 5 1 (.slice p l c) l (vals xs)) (hB : w.heap.size < B) (hb : Below w.heap.size w w2) : FlA w ((w2.setCell ⟨w.heap.size, 0, none⟩ (.int .i64 t)).setCell ⟨w.heap.size, 1, none⟩ (.slice p l c)) w.heap.size t p l c xs :=
  ⟨by rw [block_set (block_set hr _)]; rfl, Nat.le_refl _, row_set hy hB, (hb.setCell (p := ⟨w.heap.size, 0, none⟩) (Nat.le_refl _) _).setCell (p := ⟨w.heap.size, 1, none⟩) (Nat.le_refl _) _⟩
theorem flb_set {w w2 : World} {B : Nat} {t : Int} {p : Option Addr} {l c : Nat} {xs : List Nat} {u v : Value} (hr : w2.heap[w.heap.size]? = some (.cells #[u, v] 75 (0, 0))) (hy : Bytes w2 p xs ∧ ∀ g q, p = some ⟨g, q, none⟩ → B ≤ g) (hB : w.heap.size < B) (hb : Below w.heap.size w w2) : FlB w ((w2.setCell ⟨w.heap.size, 0, none⟩ (.int .i64 t)).setCell ⟨w.heap.size, 1, none⟩ (.slice p l c)) w.heap.size t p l c xs :=
  ⟨by rw [block_set (block_set hr _)]; rfl, Nat.le_refl _, ⟨bytes_kept hy.1 (by simp [World.setCell]) (fun g q e _ => (Below.heap_setCell _ _ _ _ (by show g ≠ w.heap.size; have h1 := hy.2 g q e; omega)).trans (Below.heap_setCell _ _ _ _ (by show g ≠ w.heap.size; have h1 := hy.2 g q e; omega))), fun g q e => by have := hy.2 g q e; omega⟩, (hb.setCell (p := ⟨w.heap.size, 0, none⟩) (Nat.le_refl _) _).setCell (p := ⟨w.heap.size, 1, none⟩) (Nat.le_refl _) _⟩

theorem drew_alloc_lt (w : World) (O : Obj) : w.heap.size < (w.alloc O).drew.heap.size := by simp [World.drew]
/-- FOUR ANSWERS: two of the net, two of the document's; then both are kept late. -/
structure Fr4 (w w1 w2 w3 w4 : World) (f1 f2 f3 f4 : Nat) (t1 t2 : Int) (p1 p2 p3 p4 : Option Addr) (l1 l2 c1 c2 c3 c4 : Nat) (xs1 xs2 : List Nat) : Prop where
  a : FlA w w1 f1 t1 p1 l1 c1 xs1
  b : FlA w1 w2 f2 t2 p2 l2 c2 xs2
  c : FlB w2 w3 f3 t1 p3 l1 c3 xs1
  d : FlB w3 w4 f4 t2 p4 l2 c4 xs2
theorem Fr4.below {w w1 w2 w3 w4 : World} {f1 f2 f3 f4 : Nat} {t1 t2 : Int} {p1 p2 p3 p4 : Option Addr} {l1 l2 c1 c2 c3 c4 : Nat} {xs1 xs2 : List Nat} (h : Fr4 w w1 w2 w3 w4 f1 f2 f3 f4 t1 t2 p1 p2 p3 p4 l1 l2 c1 c2 c3 c4 xs1 xs2) : Below w1.heap.size w1 w4 ∧ Below w2.heap.size w2 w4 ∧ Below w.heap.size w w4 :=
  ⟨below_of h.b.2.2.2 (below_of h.c.2.2.2 h.d.2.2.2), below_of h.c.2.2.2 h.d.2.2.2, below_of h.a.2.2.2 (below_of h.b.2.2.2 (below_of h.c.2.2.2 h.d.2.2.2))⟩
/-- The kinds: what the first told is (7, L), what the second told (7, L + 1). -/
def k4 (K : Knd) (n n1 n2 L : Nat) : Knd := ext (ext (ext K n (7, L)) n1 (7, L + 1)) n2 (0, 0)
theorem k4_kp {K : Knd} {w w1 w2 w4 : World} {L : Nat} (h1 : Below w.heap.size w w1) (h2 : Below w1.heap.size w1 w2) (h4 : Below w2.heap.size w2 w4) (p : Nat × Nat → Prop) : Kp p K (k4 K w.heap.size w1.heap.size w2.heap.size L) w w4 := ((kp_below h1 p K (7, L)).trans (kp_below h2 p _ (7, L + 1))).trans (kp_below h4 p _ (0, 0))
def AddPost (K3 K : Knd) (w3 w : World) (sb bb lb pb M : Nat) (x : Nat → Option Sl) (bm : Bm) (xs : List Q.Gt) (V : Value) (ns : List Nat) (ob : Nat) (O : Obj) (n : Nat) (e : Ending) (w' : World) : Prop := e = .returned (.tuple #[]) ∧ ∃ K' G' W' xs', Hd w' K' sb bb lb pb M x bm G' W' xs' V ns ∧ xs'.length = xs.length + n ∧ Kp (fun q => 1 ≤ q.1) K3 K' w3 w' ∧ w'.heap[ob]? = some O ∧ K' ob = (0, 0) ∧ Kp (fun q => q = (6, 0)) K K' w w'
theorem held_add {K3 K : Knd} {w3 w : World} {sb bb lb pb M : Nat} {x : Nat → Option Sl} {bm : Bm} {G W V : Value} {xs : List Q.Gt} {ns : List Nat} {ob : Nat} {O : Obj} (h : Hd w K sb bb lb pb M x bm G W xs V ns) (hk : Kp (fun q => 1 ≤ q.1) K3 K w3 w) (hO : w.heap[ob]? = some O) (hKo : K ob = (0, 0)) {p sp : Option Addr} {l c sc : Nat} {ys : List Nat} (hl : l ≤ 4096) (hx : xs.length ≤ 5000)
    (hrow : Q.ownsQ true w 0 5 1 (.slice p l c) l (vals ys)) (hcx : ∀ g, (Value.slice p l c).ownBlock = some g → K g = (7, xs.length)) (hb : Bytes w sp ys) (hbk : ys = [] ∨ ∀ g q, sp = some ⟨g, q, none⟩ → K g ≠ (6, 0)) :
    Calls Try.prog 19 #[.pointer (some ⟨lb, 0, none⟩), .slice p l c, .slice sp l sc] w (AddPost K3 K w3 w sb bb lb pb M x bm xs V ns ob O 1) := by
  refine (Q.late_add K w lb G W xs p l c ys sp sc h.lt hrow hcx ⟨hb.small, hbk.elim Or.inl (fun hbk => hb.lie.imp id (fun ⟨g, o, e, hg, hc⟩ => ⟨g, o, e, hbk g o e, hg, hc⟩))⟩ (by omega) hx).mono ?_
  rintro e w' ⟨rfl, G', W', wp, wc, hlt, hk'⟩
  have hob := lt_of_block hO
  exact ⟨rfl, _, G', W', _, h.late hk' hlt, by simp, hk.trans (hk'.mono (fun q e => by subst e; show 1 ≤ 6; omega)), (hk'.block _ hob (by rw [hKo]; simp)).trans hO, (hk'.same _ hob).trans hKo, hk'⟩
/-- Both are kept, one behind the other. -/
theorem held_adds {K3 K : Knd} {w3 w w1 w2 w23 w4 : World} {sb bb lb pb M : Nat} {x : Nat → Option Sl} {bm : Bm} {G W V : Value} {xs : List Q.Gt} {ns : List Nat} {ob : Nat} {O : Obj} (h : Hd w K sb bb lb pb M x bm G W xs V ns) (hk : Kp (fun q => 1 ≤ q.1) K3 K w3 w) (hO : w.heap[ob]? = some O) (hKo : K ob = (0, 0)) (hx : xs.length ≤ 4000)
    {f1 f2 f3 f4 : Nat} {t1 t2 : Int} {p1 p2 p3 p4 : Option Addr} {l1 l2 c1 c2 c3 c4 : Nat} {xs1 xs2 : List Nat} (hf : Fr4 w w1 w2 w23 w4 f1 f2 f3 f4 t1 t2 p1 p2 p3 p4 l1 l2 c1 c2 c3 c4 xs1 xs2) (h1 : l1 ≤ 4096) (h2 : l2 ≤ 4096) :
    Calls Try.prog 19 #[.pointer (some ⟨lb, 0, none⟩), .slice p1 l1 c1, .slice p3 l1 c3] w4 fun e w5 => e = .returned (.tuple #[]) ∧ w5.heap[f2]? = w4.heap[f2]? ∧ w5.heap[f4]? = w4.heap[f4]? ∧
      Calls Try.prog 19 #[.pointer (some ⟨lb, 0, none⟩), .slice p2 l2 c2, .slice p4 l2 c4] w5 (AddPost K3 (k4 K w.heap.size w1.heap.size w2.heap.size xs.length) w3 w4 sb bb lb pb M x bm xs V ns ob O 2) := by
  obtain ⟨⟨a1, a2, a3, a4⟩, ⟨b1, b2, b3, b4⟩, ⟨d1, d2, ⟨d3, d3'⟩, d4⟩, ⟨e1, e2, ⟨e3, e3'⟩, e4⟩⟩ := hf
  have q24 : Below w2.heap.size w2 w4 := below_of d4 e4
  have q14 : Below w1.heap.size w1 w4 := below_of b4 q24
  have hob := lt_of_block hO
  have kp := fun p => k4_kp (K := K) (L := xs.length) a4 b4 q24 p
  have hd4 := h.free (kp (fun _ => False))
  have z1 := a4.size
  have z2 := b4.size
  have z3 := d4.size
  have z4 := e4.size
  have kn1 : ∀ g, w.heap.size ≤ g → g < w1.heap.size → k4 K w.heap.size w1.heap.size w2.heap.size xs.length g = (7, xs.length) := fun g h1 h2 => by unfold k4; rw [ext_old _ _ (by omega), ext_old _ _ h2, ext_new _ _ h1]
  have kn2 : ∀ g, w1.heap.size ≤ g → g < w2.heap.size → k4 K w.heap.size w1.heap.size w2.heap.size xs.length g = (7, xs.length + 1) := fun g h1 h2 => by unfold k4; rw [ext_old _ _ h2, ext_new _ _ h1]
  have kn3 : ∀ g, w2.heap.size ≤ g → k4 K w.heap.size w1.heap.size w2.heap.size xs.length g = (0, 0) := fun g h1 => by unfold k4; rw [ext_new _ _ h1]
  have r1 := bq_below a3 q14
  have r2 := bq_below b3 q24
  have y3 := d3.below e4
  have lf2 := lt_of_block b1
  have lf4 := lt_of_block e1
  refine (held_add hd4 (hk.trans (kp _)) ((q14.block _ (Nat.lt_of_lt_of_le hob z1)).trans ((a4.block _ hob).trans hO)) (((kp (fun _ => False)).same _ hob).trans hKo) h1 (by omega) (Q.owns_mono r1 (Nat.zero_le _)) (fun g e => kn1 g (Q.owns_low a3 g e) (Q.owns_lt a3 g e)) y3 (Or.inr (fun g q e => by rw [kn3 g (d3' g q e)]; simp))).mono ?_
  rintro e w5 ⟨rfl, K5, G5, W5, xs5, hd5, hx5, hk5, hO5, hKo5, h65⟩
  have l2' : ∀ g, (Value.slice p2 l2 c2).ownBlock = some g → g < w4.heap.size := fun g e => Q.owns_lt r2 g e
  refine ⟨rfl, h65.block _ (by omega) (by rw [kn2 f2 b2 lf2]; simp), h65.block _ lf4 (by rw [kn3 f4 (by omega)]; simp), ?_⟩
  have r2' : Q.ownsQ true w5 w1.heap.size 5 1 (.slice p2 l2 c2) l2 (vals xs2) := Q.owns_kept' r2 (fun g e => h65.block g (l2' g e) (by rw [kn2 g (Q.owns_low b3 g e) (Q.owns_lt b3 g e)]; simp))
  have y4 : Bytes w5 p4 xs2 := bytes_kept e3 h65.size (fun g q e hg => h65.block g hg (by rw [kn3 g (by have := e3' g q e; omega)]; simp))
  refine (held_add hd5 hk5 hO5 hKo5 h2 (by omega) (Q.owns_mono r2' (Nat.zero_le _)) (fun g e => by rw [h65.same g (l2' g e), kn2 g (Q.owns_low b3 g e) (Q.owns_lt b3 g e), hx5]) y4 (e3.lie.imp id (fun ⟨g', o', e', hg', _⟩ g q e => by
    rw [e] at e'
    cases e'
    rw [h65.same g hg', kn3 g (by have := e3' g q e; omega)]; simp))).mono ?_
  rintro e w6 ⟨rfl, K6, G6, W6, xs6, hd6, hx6, hk6, hO6, hKo6, h66⟩
  exact ⟨rfl, K6, G6, W6, xs6, hd6, by omega, hk6, hO6, hKo6, h65.trans h66⟩

theorem Try.infoPn : (Try.prog.info? 51).map (fun i => (i.zero, i.size, i.bytes)) = some (some (.pointer none), 1, 8) := by kernel_rfl
/-- One net more in the row. -/
theorem other_row {K : Knd} {w wD : World} {sb bb lb pb M : Nat} {x : Nat → Option Sl} {bm : Bm} {G W V : Value} {xs : List Q.Gt} {ns : List Nat} (h : Hd w K sb bb lb pb M x bm G W xs V ns) {b gl cl : Nat} (hn : Nk w K (100 + ns.length) b (oN ns.length)) {O : Obj}
    (ho : wD.ownsRow 0 51 1 (.slice (some ⟨gl, 0, none⟩) (ns.length + 1) cl) (ns.length + 1) ((ns.map fun b => .pointer (some ⟨b, 0, none⟩)) ++ [.pointer (some ⟨b, 0, none⟩)])) (hg : (w.alloc O).grownBy wD V.ownBlock) (hat : V.ownBlock = some gl ∨ gl = (w.alloc O).heap.size) :
    ∃ K', Hd wD K' sb bb lb pb M x bm G W xs (.slice (some ⟨gl, 0, none⟩) (ns.length + 1) cl) (ns ++ [b]) ∧ Kp (fun q => q = (9, 0)) K K' w wD := by
  have k1 : Kp (fun _ => False) K (ext K w.heap.size (9, 0)) w (w.alloc O) := kp_below ((Below.refl _ _).alloc (Nat.le_refl _) _) _ _ _
  have h1 := h.free k1
  have k2 : Kp (fun q => q = (9, 0)) (ext K w.heap.size (9, 0)) (ext (ext K w.heap.size (9, 0)) (w.alloc O).heap.size (9, 0)) (w.alloc O) wD := kp_grown hg _ (9, 0) (9, 0) _ (fun g e => h1.ot.row.kind g e) rfl
  exact ⟨_, h1.other (hn.kept k1 (fun _ h => h)) k2 (h1.ot.row.grown ho (by rcases hat with e | e; exact Or.inl e.symm; exact Or.inr ⟨gl, rfl, by omega⟩)), (k1.mono (fun _ h => h.elim)).trans k2⟩

end Go.Proofs.Ythgggjdefhgfiaa
