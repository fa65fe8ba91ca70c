import Derived.Test.YthgggjdefhgfiaaHPlace
namespace Go.Proofs.Ythgggjdefhgfiaa
open Go.RowKit Go.Maps

/-- The message of the i-th other net. -/
def oxs (i : Nat) : List Nat := [i, 111]
def oN (i : Nat) : Nt := ⟨1, [⟨(i : Int), str (oxs i)⟩], 0⟩
theorem oxs_small (i : Nat) (hi : i < 256) : ∀ x ∈ oxs i, x < 256 := fun x hx => by
  simp only [oxs, List.mem_cons, List.mem_nil_iff, or_false] at hx
  omega
/-- THE OTHER NETS, each of kinds of its own. -/
structure Ots (w : World) (K : Knd) (v : Value) (ns : List Nat) : Prop where
  row : Rk w K (9, 0) 51 1 v ns.length (ns.map fun b => .pointer (some ⟨b, 0, none⟩))
  net : ∀ i b, ns[i]? = some b → Nk w K (100 + i) b (oN i)
theorem Ots.kept {p : Nat × Nat → Prop} {K K' : Knd} {w w' : World} {v : Value} {ns : List Nat} (h : Ots w K v ns) (hk : Kp p K K' w w') (h9 : ¬ p (9, 0)) (hp : ∀ i j, i < ns.length → ¬ p (100 + i, j)) : Ots w' K' v ns :=
  ⟨h.row.kept hk h9, fun i b e => (h.net i b e).kept hk (fun j => hp i j (List.getElem?_eq_some_iff.1 e).1)⟩
/-- ALL THAT held HOLDS. -/
structure Hd (w : World) (K : Knd) (sb bb lb pb M : Nat) (x : Nat → Option Sl) (bm : Bm) (G W : Value) (xs : List Q.Gt) (V : Value) (ns : List Nat) : Prop where
  sg : Sg w K sb bb M x bm
  lt : Q.Lt K w lb G W xs
  pl : Plc w K pb
  ot : Ots w K V ns
theorem Hd.played {K K' : Knd} {w w' : World} {sb bb lb pb M M' : Nat} {x x' : Nat → Option Sl} {bm bm' : Bm} {G W V : Value} {xs : List Q.Gt} {ns : List Nat} (h : Hd w K sb bb lb pb M x bm G W xs V ns) (hs : Sg w' K' sb bb M' x' bm') (hk : Kp PPl K K' w w') : Hd w' K' sb bb lb pb M' x' bm' G W xs V ns := by
  have no : ∀ a b, (a = 0 ∨ 6 ≤ a) → a ≠ 60 → ¬ PPl (a, b) := fun a b h1 h2 => by rintro (e | e) <;> simp at e <;> omega
  exact ⟨hs, h.lt.keep hk (no _ _ (Or.inr (by decide)) (by decide)) (fun j _ => no _ _ (Or.inr (by decide)) (by decide)), h.pl.kept hk (fun j => no _ _ (Or.inr (by decide)) (by decide)), h.ot.kept hk (no _ _ (Or.inr (by decide)) (by decide)) (fun i j _ => no _ _ (Or.inr (by omega)) (by omega))⟩
theorem Hd.free {K K' : Knd} {w w' : World} {sb bb lb pb M : Nat} {x : Nat → Option Sl} {bm : Bm} {G W V : Value} {xs : List Q.Gt} {ns : List Nat} (h : Hd w K sb bb lb pb M x bm G W xs V ns) (hk : Kp (fun _ => False) K K' w w') : Hd w' K' sb bb lb pb M x bm G W xs V ns :=
  ⟨h.sg.kept hk (fun _ _ h => h), h.lt.keep hk (fun h => h) (fun _ _ h => h), h.pl.kept hk (fun _ h => h), h.ot.kept hk (fun h => h) (fun _ _ _ h => h)⟩
theorem Hd.below {K : Knd} {w w' : World} {sb bb lb pb M : Nat} {x : Nat → Option Sl} {bm : Bm} {G W V : Value} {xs : List Q.Gt} {ns : List Nat} (h : Hd w K sb bb lb pb M x bm G W xs V ns) (hb : Below w.heap.size w w') (k : Nat × Nat) : Hd w' (ext K w.heap.size k) sb bb lb pb M x bm G W xs V ns := h.free (kp_below hb _ _ _)
theorem Hd.more {K : Knd} {w : World} {sb bb lb pb M M' : Nat} {x : Nat → Option Sl} {bm : Bm} {G W V : Value} {xs : List Q.Gt} {ns : List Nat} (h : Hd w K sb bb lb pb M x bm G W xs V ns) (hM : M ≤ M') : Hd w K sb bb lb pb M' x bm G W xs V ns := ⟨h.sg.more hM, h.lt, h.pl, h.ot⟩
/-- What was laid at the place. -/
theorem Hd.laid {K K' : Knd} {w w' : World} {sb bb lb pb M : Nat} {x : Nat → Option Sl} {bm : Bm} {G W V : Value} {xs : List Q.Gt} {ns : List Nat} (h : Hd w K sb bb lb pb M x bm G W xs V ns) (hk : Kp P8 K K' w w') (hp : Plc w' K' pb) : Hd w' K' sb bb lb pb M x bm G W xs V ns := by
  have no : ∀ a b, a ≠ 8 → ¬ P8 (a, b) := fun a b h1 h2 => h1 h2
  exact ⟨h.sg.kept hk (fun q hq e => by have : q.1 = 8 := e; omega), h.lt.keep hk (no _ _ (by decide)) (fun j _ => no _ _ (by decide)), hp, h.ot.kept hk (no _ _ (by decide)) (fun i j _ => no _ _ (by omega))⟩
/-- One answer more is kept late. -/
theorem Hd.late {K K' : Knd} {w w' : World} {sb bb lb pb M : Nat} {x : Nat → Option Sl} {bm : Bm} {G W G' W' V : Value} {xs xs' : List Q.Gt} {ns : List Nat} (h : Hd w K sb bb lb pb M x bm G W xs V ns) (hk : Kp (fun q => q = (6, 0)) K K' w w') (hl : Q.Lt K' w' lb G' W' xs') : Hd w' K' sb bb lb pb M x bm G' W' xs' V ns := by
  have no : ∀ a b, a ≠ 6 → ¬ ((a, b) : Nat × Nat) = (6, 0) := fun a b h1 h2 => h1 (congrArg Prod.fst h2)
  exact ⟨h.sg.kept hk (fun q hq e => by subst e; simp at hq), hl, h.pl.kept hk (fun j => no _ _ (by decide)), h.ot.kept hk (no _ _ (by decide)) (fun i j _ => no _ _ (by omega))⟩
def P100 (i : Nat) (q : Nat × Nat) : Prop := q.1 = 100 + i
/-- A net of kinds of its own has turned. -/
theorem Hd.apart {K K' : Knd} {w w' : World} {sb bb lb pb M : Nat} {x : Nat → Option Sl} {bm : Bm} {G W V : Value} {xs : List Q.Gt} {ns : List Nat} (h : Hd w K sb bb lb pb M x bm G W xs V ns) (hk : Kp (P100 ns.length) K K' w w') : Hd w' K' sb bb lb pb M x bm G W xs V ns := by
  have no : ∀ a b, a ≠ 100 + ns.length → ¬ P100 ns.length (a, b) := fun a b h1 h2 => h1 h2
  exact ⟨h.sg.kept hk (fun q hq e => by have : q.1 = 100 + ns.length := e; omega), h.lt.keep hk (no _ _ (by omega)) (fun j _ => no _ _ (by omega)), h.pl.kept hk (fun j => no _ _ (by omega)), h.ot.kept hk (no _ _ (by omega)) (fun i j hi => no _ _ (by omega))⟩
/-- One net more. -/
theorem Hd.other {K K' : Knd} {w w' : World} {sb bb lb pb M : Nat} {x : Nat → Option Sl} {bm : Bm} {G W V V' : Value} {xs : List Q.Gt} {ns : List Nat} (h : Hd w K sb bb lb pb M x bm G W xs V ns) {b : Nat} (hn : Nk w K (100 + ns.length) b (oN ns.length)) (hk : Kp (fun q => q = (9, 0)) K K' w w') (hr : Rk w' K' (9, 0) 51 1 V' (ns.length + 1) ((ns.map fun b => .pointer (some ⟨b, 0, none⟩)) ++ [.pointer (some ⟨b, 0, none⟩)])) : Hd w' K' sb bb lb pb M x bm G W xs V' (ns ++ [b]) := by
  have no : ∀ a b, a ≠ 9 → ¬ ((a, b) : Nat × Nat) = (9, 0) := fun a b h1 h2 => h1 (congrArg Prod.fst h2)
  refine ⟨h.sg.kept hk (fun q hq e => by subst e; simp at hq), h.lt.keep hk (no _ _ (by decide)) (fun j _ => no _ _ (by decide)), h.pl.kept hk (fun j => no _ _ (by decide)), ⟨by simpa using hr, fun i b' e => ?_⟩⟩
  by_cases hi : i < ns.length
  · rw [List.getElem?_append_left hi] at e
    exact (h.ot.net i b' e).kept hk (fun j => no _ _ (by omega))
  · rw [List.getElem?_append_right (by omega)] at e
    have hi0 : i = ns.length := by
      have := (List.getElem?_eq_some_iff.1 e).1
      simp at this; omega
    subst hi0
    simp at e
    subst e
    exact hn.kept hk (fun j => no _ _ (by omega))
theorem other_sent (i : Nat) : (⟨Int.toNat 1, [], 0⟩ : Nt).send ⟨(i : Int), str (oxs i)⟩ = oN i := rfl
theorem ppl_10 : ∀ q, PPl q → 1 ≤ q.1 := ppl_one

/-- Four cells that a step reads. -/
def C4 (w : World) (ob sb k : Nat) (ad : Int) (bp : Option Addr) (bl bc nb fb : Nat) : Prop := w.cell? ⟨ob, 3, none⟩ = some (.int .i64 ad) ∧ w.cell? ⟨ob, 4, none⟩ = some (.slice bp bl bc) ∧ w.cell? ⟨sb, k, none⟩ = some (.pointer (some ⟨nb, 0, none⟩)) ∧ w.cell? ⟨sb, 2 + k, none⟩ = some (.pointer (some ⟨fb, 0, none⟩))
theorem C4.kept {p : Nat × Nat → Prop} {K K' : Knd} {w w' : World} {ob sb k : Nat} {ad : Int} {bp : Option Addr} {bl bc nb fb : Nat} (h : C4 w ob sb k ad bp bl bc nb fb) (hk : Kp p K K' w w') (ho : ob < w.heap.size) (hko : K ob = (0, 0)) (hs : sb < w.heap.size) (hks : K sb = (5, 0)) (h0 : ¬ p (0, 0)) (h5 : ¬ p (5, 0)) : C4 w' ob sb k ad bp bl bc nb fb := by
  have e1 : w'.heap[ob]? = w.heap[ob]? := hk.block _ ho (by rw [hko]; exact h0)
  have e2 : w'.heap[sb]? = w.heap[sb]? := hk.block _ hs (by rw [hks]; exact h5)
  exact ⟨(World.cell?_of_block e1).trans h.1, (World.cell?_of_block e1).trans h.2.1, (World.cell?_of_block e2).trans h.2.2.1, (World.cell?_of_block e2).trans h.2.2.2⟩
/-- Behind what was laid at the place and sent. -/
theorem held_laid {K K2 : Knd} {w w2 : World} {sb bb lb pb M k ob nb fb n c' : Nat} {x : Nat → Option Sl} {bm : Bm} {G W V : Value} {xs : List Q.Gt} {ns : List Nat} {N : Nt} {ad : Int} {bp a : Option Addr} {bl bc : Nat} {xz : List Nat} (h : Hd w K sb bb lb pb M x bm G W xs V ns) (hk : k < 2) (hs : x k = some ⟨nb, fb, N⟩) (hM : M ≤ 1099511627776) (hob : ob < w.heap.size) (hko : K ob = (0, 0)) (hc : C4 w ob sb k ad bp bl bc nb fb) (hx : Bytes w bp xz) (hxk : xz = [] ∨ ∀ g q, bp = some ⟨g, q, none⟩ → g < w.heap.size ∧ K g = (0, 0)) (hn : xz.length = n)
    (h2 : Plc w2 K2 pb) (k2 : Kp P8 K K2 w w2) (hb : Bytes w2 a xz) :
    C4 w2 ob sb k ad bp bl bc nb fb ∧ Hd w2 K2 sb bb lb pb M x bm G W xs V ns ∧ Bytes w2 bp xz ∧ (xz = [] ∨ ∀ g q, bp = some ⟨g, q, none⟩ → g < w2.heap.size ∧ K2 g = (0, 0)) ∧ (ob < w2.heap.size ∧ K2 ob = (0, 0)) ∧ Calls Try.prog 12 #[.pointer (some ⟨nb, 0, none⟩), .int .i64 ad, .slice a n c'] w2 fun e w' => ∃ K', e = .returned (.bool N.adds) ∧ Nk w' K' (1 + k) nb (N.send ⟨ad, str xz⟩) ∧ Kp (PNet (1 + k)) K2 K' w2 w' := by
  have n8 : ∀ a b, a ≠ 8 → ¬ P8 (a, b) := fun a b h1 h2 => h1 h2
  have hd := h.laid k2 h2
  have ho := hd.sg.ok k _ hk hs
  refine ⟨hc.kept k2 hob hko (lt_of_block h.sg.blk) h.sg.ks (n8 _ _ (by decide)) (n8 _ _ (by decide)), hd, bytes_or hx k2.size (hxk.imp id (fun e g q e2 hg => k2.block g hg (by rw [(e g q e2).2]; exact n8 _ _ (by decide)))), hxk.imp id (fun e g q e2 => ⟨Nat.lt_of_lt_of_le (e g q e2).1 k2.size, (k2.same g (e g q e2).1).trans (e g q e2).2⟩), ⟨Nat.lt_of_lt_of_le hob k2.size, (k2.same ob hob).trans hko⟩, Send_any w2 K2 (1 + k) nb N ho.net ho.room (Nat.lt_of_le_of_lt ho.lost (by omega)) ad a n c' xz hb hn⟩
theorem held_sent {K K2 : Knd} {w w2 : World} {sb bb lb pb M k ob nb fb n : Nat} {x : Nat → Option Sl} {bm : Bm} {G W V : Value} {xs : List Q.Gt} {ns : List Nat} {N : Nt} {ad : Int} {bp : Option Addr} {bl bc : Nat} {xz : List Nat} (h : Hd w K sb bb lb pb M x bm G W xs V ns) (hk : k < 2) (hs : x k = some ⟨nb, fb, N⟩) (hM : M ≤ 1099511627776) (hob : ob < w.heap.size) (hko : K ob = (0, 0)) (hc : C4 w ob sb k ad bp bl bc nb fb) (hx : Bytes w bp xz) (hxk : xz = [] ∨ ∀ g q, bp = some ⟨g, q, none⟩ → g < w.heap.size ∧ K g = (0, 0)) (hn : xz.length = n) (hn4 : n ≤ 4096)
    (k2 : Kp (PNet (1 + k)) K K2 w w2) :
    C4 w2 ob sb k ad bp bl bc nb fb ∧ Calls Try.prog 15 #[.pointer (some ⟨fb, 0, none⟩), .int .i64 ad, .slice bp n bc] w2 fun e w' => ∃ K', e = .returned (.bool N.adds) ∧ Fk w' K' (3 + k) fb (N.send ⟨ad, str xz⟩) ∧ Kp (PNet (3 + k)) K2 K' w2 w' := by
  have ho := h.sg.ok k _ hk hs
  exact ⟨hc.kept k2 hob hko (lt_of_block h.sg.blk) h.sg.ks (pnet_far (by omega)) (pnet_far (by omega)), FSend_any w2 K2 (3 + k) fb N (ho.doc.kept k2 (fun j => pnet_far (by omega))) ho.room (Nat.lt_of_le_of_lt ho.lost (by omega)) ad bp n bc xz (bytes_or hx k2.size (hxk.imp id (fun e g q e2 hg => k2.block g hg (by rw [(e g q e2).2]; exact pnet_far (by omega))))) hn (by omega)⟩
theorem held_both {K K2 K3 : Knd} {w w2 w3 : World} {sb bb lb pb M k ob nb fb n : Nat} {x : Nat → Option Sl} {bm : Bm} {G W V : Value} {xs : List Q.Gt} {ns : List Nat} {N : Nt} {ad : Int} {bp : Option Addr} {bl bc : Nat} {xz : List Nat} (h : Hd w K sb bb lb pb M x bm G W xs V ns) (hk : k < 2) (hs : x k = some ⟨nb, fb, N⟩) (hob : ob < w.heap.size) (hko : K ob = (0, 0)) (hc : C4 w ob sb k ad bp bl bc nb fb) (hsm : ∀ y ∈ xz, y < 256) (hn : xz.length = n) (hn4 : n ≤ 4096)
    (k2 : Kp (PNet (1 + k)) K K2 w w2) (h2 : Nk w2 K2 (1 + k) nb (N.send ⟨ad, str xz⟩)) (k3 : Kp (PNet (3 + k)) K2 K3 w2 w3) (h3 : Fk w3 K3 (3 + k) fb (N.send ⟨ad, str xz⟩)) :
    C4 w3 ob sb k ad bp bl bc nb fb ∧ Hd w3 K3 sb bb lb pb (M + 1) (upd x k (some ⟨nb, fb, N.send ⟨ad, str xz⟩⟩)) bm G W xs V ns ∧ w3.heap[ob]? = w.heap[ob]? ∧ K3 ob = (0, 0) ∧ Kp PPl K K3 w w3 := by
  have ho := h.sg.ok k _ hk hs
  obtain ⟨⟨hE, hEk⟩, _, _, hx⟩ := h.sg.turnC hk hs k2 k3 (sent_ok (m := ⟨ad, str xz⟩) (by show (str xz).size ≤ 4096; rw [str_size hsm, hn]; omega) ho.le) h2 h3 hob hko
  have hp := hEk.mono (kp_one hk)
  exact ⟨hc.kept hEk hob hko (lt_of_block h.sg.blk) h.sg.ks (pk_no _ (Or.inl rfl) hk) (pk_no _ (Or.inr (by decide)) hk), h.played hE hp, hx, (hp.same ob hob).trans hko, hp⟩

end Go.Proofs.Ythgggjdefhgfiaa
