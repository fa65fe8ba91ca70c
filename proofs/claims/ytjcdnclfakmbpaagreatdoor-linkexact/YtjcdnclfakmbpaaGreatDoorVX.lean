import Derived.Deep.CutRange
import Derived.Test.YtjcdnclfakmbpaaGreatDoorVR
import Derived.BigQuiet
namespace Go.Proofs.YtjcdnclfakmbpaaGreatDoor.V
open Go.RowKit Go.Proofs.YtjcdnclfakmbpaaGreatDoor.U Go.Proofs.YtjcdnclfakmbpaaGreatDoor.Q
structure Z (w : World) (N : Nat) (F : Nat → Prop) (b : Nat) (X : Rv) (L M : Value) (A turn done used : Nat) (ks rs : List Kl) : Prop where
  bk : Bk X w N b L M A turn done used ks
  rz : Rz w N F X rs
  lr : ∀ k ∈ rs, ∀ g, k.val.ownBlock = some g → L.ownBlock ≠ some g
  mo : ∀ g, X.o.ownBlock = some g → M.ownBlock ≠ some g
  km : ∀ k ∈ ks, ∀ g, k.val.ownBlock = some g → ¬ F g
def PS (b : Nat) (X : Rv) (i : Nat) : Prop := i = b ∨ some i = X.r.ownBlock ∨ some i = X.o.ownBlock
section
variable {w wr w' : World} {N b : Nat} {F : Nat → Prop} {X X0 : Rv} {L M : Value} {A turn done used m n : Nat} {ks rs rs2 : List Kl} {g g' : Value}
theorem Z.push (h : Z w N F b X L M A turn done used ks rs) {p : Option Addr} {c : Nat} (hx : Rwm w N F m (.slice p n c) n) (ho : ∀ y ∈ rs, ∀ q, y.val.ownBlock = some q → (Value.slice p n c).ownBlock = some q → y.m = m) {r' o' : Value} (k : Kept (PS b X) w w') (hb : w'.heap[b]? = some (.cells (bkCells ⟨r', o', X.a⟩ L M A turn done used) 70 (0, 0)))
    (hl : ownsQ false w' N 44 1 r' (rs.length + 1) ((rs.map fun k => k.val) ++ [.slice p n c])) (hm : ownsQ false w' N 3 1 o' (rs.length + 1) ((rs.map fun k => Value.int .i64 (k.m : Int)) ++ [.int .i64 (m : Int)])) (hn : m ≤ 1000000000 ∧ n ≤ 100000000000) (hc : rs.length + 1 ≤ 1000000000)
    (hlr : ∀ q, (Value.slice p n c).ownBlock = some q → L.ownBlock ≠ some q) (hmo : o'.ownBlock = X.o.ownBlock ∨ ∃ q, o'.ownBlock = some q ∧ w.heap.size ≤ q) : Z w' N F b ⟨r', o', X.a⟩ L M A turn done used ks (rs ++ [⟨p, n, c, m⟩]) := by
  have k1 : ∀ {z : Bool} {B n : Nat} {ty : TypeId} {v : Value} {xs : List Value}, ownsQ z w B ty 1 v n xs → ty ≠ 70 → ty ≠ 44 → (ty ≠ 3 ∨ (∀ q, X.o.ownBlock = some q → v.ownBlock ≠ some q)) → ∀ q, v.ownBlock = some q → w'.heap[q]? = w.heap[q]? := fun hv h1 h2 h3 q e => k.block q (owns_lt hv q e) (by
    rintro (e' | e' | e')
    · subst e'; exact owns_ne hv h.bk.blk (fun e => h1 e.symm) e
    · exact rows_far0 hv h.rz.ls h2 q e e'.symm
    · rcases h3 with h3 | h3
      · exact rows_far0 hv h.rz.ms h3 q e e'.symm
      · exact h3 q e'.symm e)
  have k2 : ∀ q cur, F q → w.heap[q]? = some (.cells cur 5 (0, 0)) → w'.heap[q]? = w.heap[q]? := fun q cur _ hq => k.block q (lt_of_block hq) (by
    rintro (e' | e' | e')
    · subst e'; rw [h.bk.blk] at hq; simp at hq
    · exact owns_ne h.rz.ls hq (by decide) e'.symm
    · exact owns_ne h.rz.ms hq (by decide) e'.symm)
  have k3 : ∀ {m n : Nat} {v : Value}, Rwm w N F m v n → Rwm w' N F m v n := fun hv => by
    obtain ⟨vs, h1, h2⟩ := hv
    exact ⟨vs, owns_kept' h1 (k1 h1 (by decide) (by decide) (Or.inl (by decide))), fun u hu => (h2 u hu).keep k2 (fun _ e => e)⟩
  refine ⟨⟨hb, owns_kept' h.bk.ls (k1 h.bk.ls (by decide) (by decide) (Or.inl (by decide))), owns_kept' h.bk.ms (k1 h.bk.ms (by decide) (by decide) (Or.inr h.mo)), fun x hx => owns_kept' (h.bk.rows x hx) (k1 (h.bk.rows x hx) (by decide) (by decide) (Or.inl (by decide))), h.bk.num, h.bk.most, h.bk.one⟩, ⟨by simpa [Kl.val] using hl, by simpa using hm, fun y hy => ?_, fun y hy => ?_, by simpa using hc, fun y hy z hz q e1 e2 => ?_⟩, fun y hy => ?_, fun q e => ?_, h.km⟩
  · rcases List.mem_append.1 hy with h' | h'
    · exact k3 (h.rz.rows y h')
    · simp at h'; subst h'; exact k3 hx
  · rcases List.mem_append.1 hy with h' | h'
    · exact h.rz.num y h'
    · simp at h'; subst h'; exact hn
  · rcases List.mem_append.1 hy with h' | h' <;> rcases List.mem_append.1 hz with h'' | h''
    · exact h.rz.one y h' z h'' q e1 e2
    · simp at h''; subst h''; exact ho y h' q e1 e2
    · simp at h'; subst h'; exact (ho z h'' q e2 e1).symm
    · simp at h' h''; subst h'; subst h''; rfl
  · rcases List.mem_append.1 hy with h' | h'
    · exact h.lr y h'
    · simp at h'; subst h'; exact hlr
  · rcases hmo with e' | ⟨q', e', hq'⟩
    · exact h.mo q (by rw [← e']; exact e)
    · intro e2
      have h1 := owns_lt h.bk.ms q e2
      have e3 : o'.ownBlock = some q := e
      rw [e'] at e3
      cases e3
      omega
def GZ (b : Nat) (X : Rv) (rs : List Kl) (i : Nat) : Prop := i = b ∨ some i = X.r.ownBlock ∨ some i = X.o.ownBlock ∨ ∃ k ∈ rs, some i = k.val.ownBlock
structure Gz (w : World) (X0 : Rv) (rs : List Kl) (wr : World) (N : Nat) (F : Nat → Prop) (b : Nat) (X : Rv) (L M : Value) (A turn done used : Nat) (ks rs2 : List Kl) : Prop where
  z : Z wr N F b X L M A turn done used ks rs2
  pre : ∀ j, j < rs.length → rs2[j]? = rs[j]?
  len : rs.length ≤ rs2.length
  own : ∀ x ∈ rs2, ∀ g, x.val.ownBlock = some g → (∃ k ∈ rs, k.val.ownBlock = some g) ∨ w.heap.size ≤ g
  lo : X.r.ownBlock = X0.r.ownBlock ∨ ∃ g, X.r.ownBlock = some g ∧ w.heap.size ≤ g
  mo : X.o.ownBlock = X0.o.ownBlock ∨ ∃ g, X.o.ownBlock = some g ∧ w.heap.size ≤ g
  kept : Kept (GZ b X0 rs) w wr
  lL : ∀ g, L.ownBlock = some g → g < w.heap.size ∧ ∀ k ∈ rs, k.val.ownBlock ≠ some g
  ax : X.a = X0.a
structure Cz (w : World) (rs : List Kl) (wr : World) (N : Nat) (F : Nat → Prop) (m : Nat) (g : Value) (n : Nat) (rs2 : List Kl) : Prop where
  row : Rwm wr N F m g n
  one : ∀ x ∈ rs2, ∀ q, x.val.ownBlock = some q → g.ownBlock = some q → x.m = m
  own : ∀ q, g.ownBlock = some q → (∃ k ∈ rs, k.val.ownBlock = some q) ∨ w.heap.size ≤ q
theorem Gz.sep (h : Gz w X0 rs wr N F b X L M A turn done used ks rs2) (c : Cz w rs wr N F m g n rs2) (q : Nat) (e : g.ownBlock = some q) : L.ownBlock ≠ some q := by
  intro e2
  have h1 := h.lL q e2
  rcases c.own q e with ⟨k, hk, e3⟩ | e3
  · exact h1.2 k hk e3
  · omega
theorem Gz.mark (h : Gz w X0 rs wr N F b X L M A turn done used ks rs2) (c : Cz w rs wr N F m g n rs2) (hrow : Rwm w' N F m g' (n + 1)) (hat : g'.ownBlock = g.ownBlock ∨ ∃ q, g'.ownBlock = some q ∧ wr.heap.size ≤ q) (k : Kept (fun i => some i = g.ownBlock) wr w')
    (hm : ∀ u k, Rwm wr N F m u k → Rwm w' N F m u k) : Gz w X0 rs w' N F b X L M A turn done used ks rs2 ∧ Cz w rs w' N F m g' (n + 1) rs2 := by
  have hz := h.kept.size
  have hkm : ∀ q cur, F q → wr.heap[q]? = some (.cells cur 5 (0, 0)) → w'.heap[q]? = wr.heap[q]? := fun q cur _ hq => k.block q (lt_of_block hq) (fun e => rwm_ne c.row hq (by decide) e.symm)
  refine ⟨⟨⟨h.z.bk.keep k (fun e => rwm_ne c.row h.z.bk.blk (by decide) e.symm) (fun q e e' => h.sep c q e'.symm e) (fun q e e' => rwm_far c.row h.z.bk.ms (by decide) q e'.symm e) (fun x hx q e e' => rwm_far c.row (h.z.bk.rows x hx) (by decide) q e'.symm e), ⟨owns_kept' h.z.rz.ls (fun q e => k.block q (owns_lt h.z.rz.ls q e) (fun e' => rwm_far c.row h.z.rz.ls (by decide) q e'.symm e)), owns_kept' h.z.rz.ms (fun q e => k.block q (owns_lt h.z.rz.ms q e) (fun e' => rwm_far c.row h.z.rz.ms (by decide) q e'.symm e)), fun x hx => ?_, h.z.rz.num, h.z.rz.most, h.z.rz.one⟩, h.z.lr, h.z.mo, h.z.km⟩, h.pre, h.len, h.own, h.lo, h.mo, h.kept.trans k (fun i e => ?_), h.lL, h.ax⟩, ⟨hrow, fun x hx q e1 e2 => ?_, fun q e => ?_⟩⟩
  · by_cases hxm : x.m = m
    · have := h.z.rz.rows x hx
      rw [hxm] at this ⊢
      exact hm _ _ this
    · exact (h.z.rz.rows x hx).keep (fun q e => k.block q ((h.z.rz.rows x hx).lt q e) (fun e' => hxm (c.one x hx q e e'.symm))) hkm (fun _ e => e)
  · rcases c.own i e.symm with ⟨x, hx, e'⟩ | e'
    · exact Or.inl (Or.inr (Or.inr (Or.inr ⟨x, hx, e'.symm⟩)))
    · exact Or.inr e'
  · rcases hat with e' | ⟨q', e', hq'⟩
    · exact c.one x hx q e1 (by rw [← e', e2])
    · rw [e'] at e2; cases e2
      have := (h.z.rz.rows x hx).lt _ e1
      omega
  · rcases hat with e' | ⟨q', e', hq'⟩
    · exact c.own q (by rw [← e', e])
    · rw [e'] at e; cases e; exact Or.inr (by omega)
theorem Gz.push (h : Gz w X0 rs wr N F b X L M A turn done used ks rs2) {p : Option Addr} {cc : Nat} (c : Cz w rs wr N F m (.slice p n cc) n rs2) {r' o' : Value} (k : Kept (PS b X) wr w') (hb : w'.heap[b]? = some (.cells (bkCells ⟨r', o', X.a⟩ L M A turn done used) 70 (0, 0)))
    (hl : ownsQ false w' N 44 1 r' (rs2.length + 1) ((rs2.map fun k => k.val) ++ [.slice p n cc])) (hm : ownsQ false w' N 3 1 o' (rs2.length + 1) ((rs2.map fun k => Value.int .i64 (k.m : Int)) ++ [.int .i64 (m : Int)])) (hn : m ≤ 1000000000 ∧ n ≤ 100000000000) (hc : rs2.length + 1 ≤ 1000000000)
    (ha : r'.ownBlock = X.r.ownBlock ∨ ∃ q, r'.ownBlock = some q ∧ wr.heap.size ≤ q) (hb' : o'.ownBlock = X.o.ownBlock ∨ ∃ q, o'.ownBlock = some q ∧ wr.heap.size ≤ q) :
    Gz w X0 rs w' N F b ⟨r', o', X.a⟩ L M A turn done used ks (rs2 ++ [⟨p, n, cc, m⟩]) ∧ Cz w rs w' N F m (.slice p n cc) n (rs2 ++ [⟨p, n, cc, m⟩]) := by
  have hz := h.kept.size
  have hzz := h.z.push c.row (fun y hy q e1 e2 => c.one y hy q e1 e2) k hb hl hm hn hc (h.sep c) hb'
  have hfix : ∀ {X1 Y Zv : Value}, (X1.ownBlock = Y.ownBlock ∨ ∃ q, X1.ownBlock = some q ∧ w.heap.size ≤ q) → (Zv.ownBlock = X1.ownBlock ∨ ∃ q, Zv.ownBlock = some q ∧ wr.heap.size ≤ q) → (Zv.ownBlock = Y.ownBlock ∨ ∃ q, Zv.ownBlock = some q ∧ w.heap.size ≤ q) := fun h1 h2 => by
    rcases h2 with e | ⟨q, e, hq⟩
    · rw [e]; exact h1
    · exact Or.inr ⟨q, e, by omega⟩
  refine ⟨⟨hzz, fun j hj => ?_, by simp; have := h.len; omega, fun x hx q e => ?_, hfix h.lo ha, hfix h.mo hb', h.kept.trans k (fun i hi => ?_), h.lL, h.ax⟩, ⟨hzz.rz.rows ⟨p, n, cc, m⟩ (by simp), fun x hx q e1 e2 => ?_, c.own⟩⟩
  · rw [List.getElem?_append_left (by have := h.len; omega)]; exact h.pre j hj
  · rcases List.mem_append.1 hx with h' | h'
    · exact h.own x h' q e
    · simp at h'; subst h'; exact c.own q e
  · rcases hi with e | e | e
    · exact Or.inl (Or.inl e)
    · rcases h.lo with e' | ⟨q, e', hq⟩
      · exact Or.inl (Or.inr (Or.inl (by rw [e, e'])))
      · rw [e'] at e; cases e; exact Or.inr hq
    · rcases h.mo with e' | ⟨q, e', hq⟩
      · exact Or.inl (Or.inr (Or.inr (Or.inl (by rw [e, e']))))
      · rw [e'] at e; cases e; exact Or.inr hq
  · rcases List.mem_append.1 hx with h' | h'
    · exact c.one x h' q e1 e2
    · simp at h'; subst h'; rfl
end
theorem Z.grownTo {w : World} {N b : Nat} {F : Nat → Prop} {X : Rv} {L M : Value} {A turn done used : Nat} {ks rs : List Kl} (h : Z w N F b X L M A turn done used ks rs) (t : Nat) : Z (w.setCell ⟨b, 5, none⟩ (.int .i64 (t : Int))) N F b ⟨X.r, X.o, t⟩ L M A turn done used ks rs := by
  have hs : ∀ j, j ≠ b → (w.setCell ⟨b, 5, none⟩ (.int .i64 (t : Int))).heap[j]? = w.heap[j]? := fun j hj => Below.heap_setCell _ _ _ _ hj
  have hr : ∀ {z0 : Bool} {B0 n : Nat} {ty : TypeId} {v : Value} {xs : List Value}, ownsQ z0 w B0 ty 1 v n xs → 70 ≠ ty → ∀ g, v.ownBlock = some g → (w.setCell ⟨b, 5, none⟩ (.int .i64 (t : Int))).heap[g]? = w.heap[g]? := fun hv ht g e => hs g (fun e' => owns_ne hv h.bk.blk ht (by rw [e, e']))
  refine ⟨⟨by rw [block_set h.bk.blk]; rfl, owns_kept' h.bk.ls (hr h.bk.ls (by decide)), owns_kept' h.bk.ms (hr h.bk.ms (by decide)), fun x hx => owns_kept' (h.bk.rows x hx) (hr (h.bk.rows x hx) (by decide)), h.bk.num, h.bk.most, h.bk.one⟩, ⟨owns_kept' h.rz.ls (hr h.rz.ls (by decide)), owns_kept' h.rz.ms (hr h.rz.ms (by decide)), fun x hx => ?_, h.rz.num, h.rz.most, h.rz.one⟩, h.lr, h.mo, h.km⟩
  exact (h.rz.rows x hx).keep (fun g e => hs g (fun e' => rwm_ne (h.rz.rows x hx) h.bk.blk (by decide) (by rw [e, e']))) (fun g cur _ hb => hs g (fun e => by subst e; rw [h.bk.blk] at hb; simp at hb)) (fun _ e => e)
theorem Tryz.infoRw : (Tryz.prog.info? 44).map (fun i => (i.zero, i.size, i.bytes)) = some (some (.slice none 0 0), 1, 24) := by kernel_rfl
end Go.Proofs.YtjcdnclfakmbpaaGreatDoor.V
namespace Go.Proofs.YtjcdnclfakmbpaaGreatDoor.V
open Go.RowKit Go.Proofs.YtjcdnclfakmbpaaGreatDoor.U Go.Proofs.YtjcdnclfakmbpaaGreatDoor.Q
set_option maxRecDepth 100000 in
set_option maxHeartbeats 4000000 in
theorem bk_growRows (w : World) (N b : Nat) (F : Nat → Prop) (X0 : Rv) (L M : Value) (A turn done used : Nat) (ks rs : List Kl) (h : Z w N F b X0 L M A turn done used ks rs) (hF : ∀ g, w.heap.size ≤ g → F g) (hN : N ≤ w.heap.size) (hA : X0.a ≤ rs.length) (hks : rs.length ≤ 4000000) (hl : ∀ j x, X0.a ≤ j → rs[j]? = some x → x.l ≤ 1000000000) :
    Calls Tryz.prog 72 #[.pointer (some ⟨b, 0, none⟩)] w fun e w' => e = .returned (.tuple #[]) ∧ ∃ X rs2, (Z w' N F b X L M A turn done used ks rs2 ∧ Kept (GZ b X0 rs) w w' ∧ X.a = rs2.length) ∧ rs2.length ≤ rs.length + 32 * (rs.length - X0.a) := by
  obtain ⟨i1, hi1, hz10, hz11, hz12⟩ := info_parts Tryz.infoRw
  obtain ⟨i2, hi2, hz20, hz21, hz22⟩ := info_parts Tryz.infoIn
  have HLs := hide hl
  have HFn := hide hF
  have q0 := bk_cell h.bk.blk 3 X0.r rfl
  have q2 := bk_cell h.bk.blk 5 (.int .i64 (X0.a : Int)) rfl
  have HG0 : Hid (∃ r o, Gz w X0 rs w N F b ⟨r, o, X0.a⟩ L M A turn done used ks rs) := ⟨X0.r, X0.o, h, fun _ _ => rfl, Nat.le_refl _, fun x hx g e => Or.inl ⟨x, hx, e⟩, Or.inl rfl, Or.inl rfl, Kept.refl _ _, fun g e => ⟨owns_lt h.bk.ls g e, fun k hk e' => h.lr k hk g e' e⟩, rfl⟩
  obtain ⟨lp, lc, hL0⟩ : ∃ p c, X0.r = .slice p rs.length c := Q.owns_form h.rz.ls
  rw [hL0] at q0
  obtain ⟨a3, ha3⟩ : ∃ a3, X0.a = a3 := ⟨_, rfl⟩
  rw [ha3] at HLs HG0 q2 hA ⊢
  clear h hl hL0 hF ha3
  go_enter Tryz.func72, Tryz.ntmps72
  go_wp2
  clear q0 q2
  go_loopw [3] (fun i wr => ∃ (k : Nat) (r o : Value) (rs2 : List Kl), a3 ≤ k ∧ k ≤ rs.length ∧ i = .int .i64 k ∧ Hid (Gz w X0 rs wr N F b ⟨r, o, a3⟩ L M A turn done used ks rs2) ∧ Hid (rs2.length ≤ rs.length + 32 * (k - a3))) (fun i _ => rs.length - (intOf i).toNat)
  case atStart =>
    obtain ⟨r, o, hg⟩ := HG0.out
    exact ⟨a3, r, o, rs, Nat.le_refl _, hA, rfl, hg, by show _ ≤ _; omega⟩
  case round =>
    clear HG0
    obtain ⟨k, r, o, rs2, hkA, hk, rfl, HG, HC⟩ := hrel
    by_cases hlt : k < rs.length
    · have hop : rs[k]? = some (rs[k]'hlt) := List.getElem?_eq_getElem _
      have hop2 : rs2[k]? = some (rs[k]'hlt) := (HG.out.pre k hlt).trans hop
      have hx9 := HLs.out k _ hkA hop
      have hmem := hide (List.mem_of_getElem? hop2)
      obtain ⟨gl, cl, hgl, cl0⟩ := row_cell HG.out.z.rz.ls (k := k) (a := (rs[k]'hlt).val) (by simp [hop2])
      obtain ⟨gm, cm, hgm, cm0⟩ := row_cell HG.out.z.rz.ms (k := k) (a := .int .i64 ((rs[k]'hlt).m : Int)) (by simp [hop2])
      have q0 := bk_cell HG.out.z.bk.blk 3 r rfl
      have q1 := bk_cell HG.out.z.bk.blk 4 o rfl
      have HCu : Hid (Cz w rs wr N F (rs[k]'hlt).m (rs[k]'hlt).val (rs[k]'hlt).l rs2) := ⟨HG.out.z.rz.rows _ hmem.out, fun x hx q e1 e2 => HG.out.z.rz.one x hx _ hmem.out q e1 e2, HG.out.own _ hmem.out⟩
      obtain ⟨hm9, _⟩ := HG.out.z.rz.num _ hmem.out
      generalize rs[k]'hlt = xk at *
      obtain ⟨p, l, c, m⟩ := xk
      simp only [Kl.val] at cl0 cm0 HCu hm9 hx9
      have hgl' : r = .slice (some ⟨gl, 0, none⟩) rs2.length cl := hgl
      have hgm' : o = .slice (some ⟨gm, 0, none⟩) rs2.length cm := hgm
      rw [hgl'] at q0
      rw [hgm'] at q1
      have HGL := hide hgl'
      have HGM := hide hgm'
      have hl2 := HG.out.len
      have hcnt := HC.out
      clear hop hop2 hmem hgl hgm hgl' hgm'
      have l1 : (k : Int) < (rs2.length : Int) := by omega
      have l2 : (0 : Int) ≤ (k : Int) := by omega
      have l3 : (k : Int) < (rs.length : Int) := by omega
      go_wp2
      clear q0 q1 cl0 cm0 l1
      go_loopw [4, 6] (fun gv i wr => ∃ (i' n : Nat) (v r o : Value) (rs3 : List Kl), 1 ≤ i' ∧ i' ≤ 33 ∧ i = .int .i64 i' ∧ gv = v ∧ Hid (Gz w X0 rs wr N F b ⟨r, o, a3⟩ L M A turn done used ks rs3) ∧ Hid (Cz w rs wr N F m v n rs3) ∧ n + 1 = l + i' ∧ rs3.length + 1 ≤ rs2.length + i') (fun _ i _ => 33 - (intOf i).toNat)
      case atStart => exact ⟨1, l, _, r, o, rs2, by omega, by omega, rfl, rfl, HG, HCu, rfl, Nat.le_refl _⟩
      case round =>
        clear HG HCu HGL HGM
        obtain ⟨i, n, v, r3, o3, rs3, hi1', hi33, rfl, rfl, HG, HCu, hnl, hcn⟩ := hrel
        have HNL := hide hnl
        have hn9 : n + 1 ≤ 1000000033 := by omega
        clear hnl
        by_cases hi32 : i < 33
        · obtain ⟨p3, c3, hv3⟩ := HCu.out.row.form
          subst hv3
          have HA0 := hide (fun w => at_mark w m 0 hm9 (by omega))
          have HA1 := hide (fun w => at_mark w m 1 hm9 (by omega))
          have HNr : Hid (N ≤ wr.heap.size) := Nat.le_trans hN HG.out.kept.size
          have HFr : Hid (F wr.heap.size) := HFn.out _ HG.out.kept.size
          have l4 : (i : Int) ≤ 32 := by omega
          go_wp2_with fail
          refine (HA0.out _).mono ?_
          rintro e wx ⟨rfl, rfl⟩
          go_wp2_with fail
          refine (HA1.out _).mono ?_
          rintro e wx ⟨rfl, rfl⟩
          obtain ⟨wm, hwm⟩ : ∃ wm, wx.alloc (.cells #[.int .u8 (mkB m 0 : Nat), .int .u8 (mkB m 1 : Nat)] 5) = wm := ⟨_, rfl⟩
          have hbm : Below wx.heap.size wx wm := by rw [← hwm]; exact (Below.refl _ _).alloc (Nat.le_refl _) _
          have hsm : wm.heap.size = wx.heap.size + 1 := by rw [← hwm]; simp
          have hMk : Mrk wm F m (.slice (some ⟨wx.heap.size, 0, none⟩) 2 2) := ⟨wx.heap.size, rfl, HFr.out, by rw [← hwm]; exact heap_alloc_new _ _⟩
          have HMk : Hid (Mrk (wm.alloc (.cells #[.slice (some ⟨wx.heap.size, 0, none⟩) 2 2] 31)) F m (.slice (some ⟨wx.heap.size, 0, none⟩) 2 2)) := hMk.keep (fun g cur _ hb => Below.heap_alloc _ _ _ (lt_of_block hb)) (fun _ e => e)
          have HB0 : Hid ((wm.alloc (.cells #[.slice (some ⟨wx.heap.size, 0, none⟩) 2 2] 31)).cell? ⟨wx.heap.size + 1, 0, none⟩ = some (.slice (some ⟨wx.heap.size, 0, none⟩) 2 2)) := by
            rw [← hsm]
            have := heap_alloc_new wm (.cells #[.slice (some ⟨wx.heap.size, 0, none⟩) 2 2] 31 (0, 0))
            show _ = _
            simp only [World.cell?, this]
            rfl
          have HBm : Hid (Below wx.heap.size wx (wm.alloc (.cells #[.slice (some ⟨wx.heap.size, 0, none⟩) 2 2] 31))) := hbm.trans (((Below.refl wm.heap.size wm).alloc (Nat.le_refl _) _).mono hbm.size)
          have HRo : Hid (Rwm (wm.alloc (.cells #[.slice (some ⟨wx.heap.size, 0, none⟩) 2 2] 31)) N F m (.slice p3 n c3) n) := HCu.out.row.keep (fun g e => HBm.out.block g (HCu.out.row.lt g e)) (fun g cur _ hb => HBm.out.block g (lt_of_block hb)) (fun _ e => e)
          have HWm := hide hwm
          have HSm := hide hsm
          clear hwm hbm hMk hsm
          go_upto_region 10 with (first | (at_builtin; rw [HWm.out]; refine wpList_append_row rfl (.tmp 39) (.tmp 45) rfl N m n F (.slice p3 n c3) rfl HRo.out (wx.heap.size + 1) (.slice (some ⟨wx.heap.size, 0, none⟩) 2 2) rfl HB0.out HMk.out (by omega) (by have := HNr.out; have := HSm.out; simp; omega) ?_; intro v4 w4 r1 r2 r3 r4; have hp4 := HG.out.mark HCu.out r1 (by rcases r2 with e | ⟨q, e, hq⟩; exact Or.inl e; exact Or.inr ⟨q, e, by have := HSm.out; simp at hq; omega⟩) ((kept_below (S := fun i => some i = (Value.slice p3 n c3).ownBlock) HBm.out).trans r3 (fun i e => Or.inl e)) (fun u k hu => r4 u k (hu.keep (fun g e => HBm.out.block g (hu.lt g e)) (fun g cur _ hb => HBm.out.block g (lt_of_block hb)) (fun _ e => e))); have HG4 := hide hp4.1; have HC4 := hide hp4.2; clear r1 r2 r3 r4 hp4))
          obtain ⟨p4, k4, hv4⟩ := HC4.out.row.form
          subst hv4
          clear HG HCu HA0 HA1 HB0 HNr HMk HBm HRo HFr
          by_cases hi4 : i < 4
          · have l5 : (i : Int) < 4 := by omega
            have c0 := bk_cell HG4.out.z.bk.blk 3 r3 rfl
            have cf := bk_thaw HG4.out.z.bk.blk
            have HN2 : Hid (N ≤ w4.heap.size) := Nat.le_trans hN HG4.out.kept.size
            go_upto_region 12 with (at_builtin; refine wpList_append_lies _ rfl (.tmp 58) (.tmp 60) 52 rfl N 44 i1 (.slice none 0 0) 1 24 Tryz.underlying52 hi1 hz10 hz11 hz12 rfl (by omega) r3 rs3.length _ rfl (HG4.out.z.rz.ls.row.alloc _) ⟨w4.heap.size, 0, none⟩ 1 1 [.slice p4 (n + 1) k4] rfl rfl (World.news_of_block (heap_alloc_new w4 (.cells #[.slice p4 (n + 1) k4] 44))) (by simp [Value.oneCell']) (by omega) (by unfold maxLen; omega) (by omega) (by have := HN2.out; simp; omega) _ rfl ?_; intro gl cl w5 hown5 hgrow5 hat5 hlt5; have kk5 : Kept (fun i => some i = Value.ownBlock r3) w4 w5 := (kept_below (S := fun i => some i = Value.ownBlock r3) ((Below.refl _ _).alloc (Nat.le_refl _) (.cells #[.slice p4 (n + 1) k4] 44))).trans (kept_grown hgrow5) (fun i e => Or.inl e); have HK5 := hide kk5; have HB5 := hide ((kk5.block b (lt_of_block HG4.out.z.bk.blk) (fun e => owns_ne HG4.out.z.rz.ls HG4.out.z.bk.blk (by decide) e.symm)).trans HG4.out.z.bk.blk); have c50 := bk_cell HB5.out 3 r3 rfl; have cf5 := bk_thaw HB5.out; have HL5 := hide (ownsQ_of (z := false) hown5); have HA5 := hide hat5; clear hown5 hgrow5 hat5 hlt5 kk5)
            have HB6 : Hid ((w5.setCell ⟨b, 3, none⟩ (.slice (some ⟨gl, 0, none⟩) (rs3.length + 1) cl)).heap[b]? = some (.cells (bkCells ⟨.slice (some ⟨gl, 0, none⟩) (rs3.length + 1) cl, o3, a3⟩ L M A turn done used) 70 (0, 0))) := by show _ = _; rw [block_set HB5.out]; rfl
            have HL6 : Hid (ownsQ false (w5.setCell ⟨b, 3, none⟩ (.slice (some ⟨gl, 0, none⟩) (rs3.length + 1) cl)) N 44 1 (.slice (some ⟨gl, 0, none⟩) (rs3.length + 1) cl) (rs3.length + 1) ((rs3.map fun k => k.val) ++ [.slice p4 (n + 1) k4])) := owns_kept' HL5.out (fun g e => Below.heap_setCell _ _ _ _ (fun e' => owns_ne HL5.out HB5.out (by decide) (by rw [e, e'])))
            have HK6 : Hid (Kept (PS b ⟨r3, o3, a3⟩) w4 (w5.setCell ⟨b, 3, none⟩ (.slice (some ⟨gl, 0, none⟩) (rs3.length + 1) cl))) := ((Kept.refl _ _).trans HK5.out (fun i e => Or.inl (Or.inr (Or.inl e)))).trans (kept_but ((But.refl b w5).setCell (p := ⟨b, 3, none⟩) (Or.inl rfl) _)) (fun i e => Or.inl (Or.inl e))
            have HM6 : Hid (ownsQ false (w5.setCell ⟨b, 3, none⟩ (.slice (some ⟨gl, 0, none⟩) (rs3.length + 1) cl)) N 3 1 o3 rs3.length (rs3.map fun k => .int .i64 (k.m : Int))) := owns_kept' HG4.out.z.rz.ms (fun g e => (Below.heap_setCell _ _ _ _ (fun e' => owns_ne HG4.out.z.rz.ms HG4.out.z.bk.blk (by decide) (by rw [e, e']))).trans (HK5.out.block g (owns_lt HG4.out.z.rz.ms g e) (fun e' => rows_far HG4.out.z.rz.ls HG4.out.z.rz.ms (by decide) g e'.symm e)))
            generalize w5.setCell ⟨b, 3, none⟩ (.slice (some ⟨gl, 0, none⟩) (rs3.length + 1) cl) = w6 at *
            clear HK5 HB5 HL5 c50 cf5 c0 cf
            have c1 := bk_cell HB6.out 4 o3 rfl
            have cf := bk_thaw HB6.out
            have HN6 : Hid (N ≤ w6.heap.size) := Nat.le_trans HN2.out HK6.out.size
            go_wp2_with (at_builtin; refine wpList_append_lies _ rfl (.tmp 68) (.tmp 70) 51 rfl N 3 i2 (.int .i64 0) 1 8 Tryz.underlying51 hi2 hz20 hz21 hz22 rfl (by omega) o3 rs3.length _ rfl (HM6.out.row.alloc _) ⟨w6.heap.size, 0, none⟩ 1 1 [.int .i64 (m : Int)] rfl rfl (World.news_of_block (heap_alloc_new w6 (.cells #[.int .i64 (m : Int)] 3))) (by simp [Value.oneCell']) (by omega) (by unfold maxLen; omega) (by omega) (by have := HN6.out; simp; omega) _ rfl ?_; intro gm cm w7 hown7 hgrow7 hat7 hlt7; have kk7 : Kept (fun i => some i = Value.ownBlock o3) w6 w7 := (kept_below (S := fun i => some i = Value.ownBlock o3) ((Below.refl _ _).alloc (Nat.le_refl _) (.cells #[.int .i64 (m : Int)] 3))).trans (kept_grown hgrow7) (fun i e => Or.inl e); have HK7 := hide kk7; have HB7 := hide ((kk7.block b (lt_of_block HB6.out) (fun e => owns_ne HM6.out HB6.out (by decide) e.symm)).trans HB6.out); have c71 := bk_cell HB7.out 4 o3 rfl; have cf7 := bk_thaw HB7.out; have HM7 := hide (ownsQ_of (z := false) hown7); have HA7 := hide hat7; clear hown7 hgrow7 hat7 hlt7 kk7)
            have HB8 : Hid ((w7.setCell ⟨b, 4, none⟩ (.slice (some ⟨gm, 0, none⟩) (rs3.length + 1) cm)).heap[b]? = some (.cells (bkCells ⟨.slice (some ⟨gl, 0, none⟩) (rs3.length + 1) cl, .slice (some ⟨gm, 0, none⟩) (rs3.length + 1) cm, a3⟩ L M A turn done used) 70 (0, 0))) := by show _ = _; rw [block_set HB7.out]; rfl
            have HM8 : Hid (ownsQ false (w7.setCell ⟨b, 4, none⟩ (.slice (some ⟨gm, 0, none⟩) (rs3.length + 1) cm)) N 3 1 (.slice (some ⟨gm, 0, none⟩) (rs3.length + 1) cm) (rs3.length + 1) ((rs3.map fun k => Value.int .i64 (k.m : Int)) ++ [.int .i64 (m : Int)])) := owns_kept' HM7.out (fun g e => Below.heap_setCell _ _ _ _ (fun e' => owns_ne HM7.out HB7.out (by decide) (by rw [e, e'])))
            have HL8 : Hid (ownsQ false (w7.setCell ⟨b, 4, none⟩ (.slice (some ⟨gm, 0, none⟩) (rs3.length + 1) cm)) N 44 1 (.slice (some ⟨gl, 0, none⟩) (rs3.length + 1) cl) (rs3.length + 1) ((rs3.map fun k => k.val) ++ [.slice p4 (n + 1) k4])) := owns_kept' HL6.out (fun g e => (Below.heap_setCell _ _ _ _ (fun e' => owns_ne HL6.out HB6.out (by decide) (by rw [e, e']))).trans (HK7.out.block g (owns_lt HL6.out g e) (fun e' => rows_far HM6.out HL6.out (by decide) g e'.symm e)))
            have HK8 : Hid (Kept (PS b ⟨r3, o3, a3⟩) w4 (w7.setCell ⟨b, 4, none⟩ (.slice (some ⟨gm, 0, none⟩) (rs3.length + 1) cm))) := (HK6.out.trans HK7.out (fun i e => Or.inl (Or.inr (Or.inr e)))).trans (kept_but ((But.refl b w7).setCell (p := ⟨b, 4, none⟩) (Or.inl rfl) _)) (fun i e => Or.inl (Or.inl e))
            have HA5' : Hid ((Value.slice (some ⟨gl, 0, none⟩) (rs3.length + 1) cl).ownBlock = Value.ownBlock r3 ∨ ∃ q, (Value.slice (some ⟨gl, 0, none⟩) (rs3.length + 1) cl).ownBlock = some q ∧ w4.heap.size ≤ q) := by
              rcases HA5.out with h | h
              · exact Or.inl h.symm
              · exact Or.inr ⟨gl, rfl, by simp at h; omega⟩
            have HA7' : Hid ((Value.slice (some ⟨gm, 0, none⟩) (rs3.length + 1) cm).ownBlock = Value.ownBlock o3 ∨ ∃ q, (Value.slice (some ⟨gm, 0, none⟩) (rs3.length + 1) cm).ownBlock = some q ∧ w4.heap.size ≤ q) := by
              rcases HA7.out with h | h
              · exact Or.inl h.symm
              · exact Or.inr ⟨gm, rfl, by have := HK6.out.size; simp at h; omega⟩
            have HP8 := hide (HG4.out.push HC4.out HK8.out HB8.out HL8.out HM8.out ⟨hm9, by omega⟩ (by omega) HA5'.out HA7'.out)
            go_wp2
            go_roundw
            case rel => exact ⟨i + 1, n + 1, _, _, _, _, by omega, by omega, by go_num, rfl, HP8.out.1, HP8.out.2, by have := HNL.out; omega, by simp; omega⟩
            case measure => simp [intOf]; omega
          · have l5 : ¬ (i : Int) < 4 := by omega
            by_cases hi16 : i % 16 = 0
            · have l6 : ((i : Int) % 16 == 0) = true := by simp; omega
              have l7 : (i : Int) % 16 = 0 := by omega
              have c0 := bk_cell HG4.out.z.bk.blk 3 r3 rfl
              have cf := bk_thaw HG4.out.z.bk.blk
              have HN2 : Hid (N ≤ w4.heap.size) := Nat.le_trans hN HG4.out.kept.size
              go_upto_region 12 with (at_builtin; refine wpList_append_lies _ rfl (.tmp 58) (.tmp 60) 52 rfl N 44 i1 (.slice none 0 0) 1 24 Tryz.underlying52 hi1 hz10 hz11 hz12 rfl (by omega) r3 rs3.length _ rfl (HG4.out.z.rz.ls.row.alloc _) ⟨w4.heap.size, 0, none⟩ 1 1 [.slice p4 (n + 1) k4] rfl rfl (World.news_of_block (heap_alloc_new w4 (.cells #[.slice p4 (n + 1) k4] 44))) (by simp [Value.oneCell']) (by omega) (by unfold maxLen; omega) (by omega) (by have := HN2.out; simp; omega) _ rfl ?_; intro gl cl w5 hown5 hgrow5 hat5 hlt5; have kk5 : Kept (fun i => some i = Value.ownBlock r3) w4 w5 := (kept_below (S := fun i => some i = Value.ownBlock r3) ((Below.refl _ _).alloc (Nat.le_refl _) (.cells #[.slice p4 (n + 1) k4] 44))).trans (kept_grown hgrow5) (fun i e => Or.inl e); have HK5 := hide kk5; have HB5 := hide ((kk5.block b (lt_of_block HG4.out.z.bk.blk) (fun e => owns_ne HG4.out.z.rz.ls HG4.out.z.bk.blk (by decide) e.symm)).trans HG4.out.z.bk.blk); have c50 := bk_cell HB5.out 3 r3 rfl; have cf5 := bk_thaw HB5.out; have HL5 := hide (ownsQ_of (z := false) hown5); have HA5 := hide hat5; clear hown5 hgrow5 hat5 hlt5 kk5)
              have HB6 : Hid ((w5.setCell ⟨b, 3, none⟩ (.slice (some ⟨gl, 0, none⟩) (rs3.length + 1) cl)).heap[b]? = some (.cells (bkCells ⟨.slice (some ⟨gl, 0, none⟩) (rs3.length + 1) cl, o3, a3⟩ L M A turn done used) 70 (0, 0))) := by show _ = _; rw [block_set HB5.out]; rfl
              have HL6 : Hid (ownsQ false (w5.setCell ⟨b, 3, none⟩ (.slice (some ⟨gl, 0, none⟩) (rs3.length + 1) cl)) N 44 1 (.slice (some ⟨gl, 0, none⟩) (rs3.length + 1) cl) (rs3.length + 1) ((rs3.map fun k => k.val) ++ [.slice p4 (n + 1) k4])) := owns_kept' HL5.out (fun g e => Below.heap_setCell _ _ _ _ (fun e' => owns_ne HL5.out HB5.out (by decide) (by rw [e, e'])))
              have HK6 : Hid (Kept (PS b ⟨r3, o3, a3⟩) w4 (w5.setCell ⟨b, 3, none⟩ (.slice (some ⟨gl, 0, none⟩) (rs3.length + 1) cl))) := ((Kept.refl _ _).trans HK5.out (fun i e => Or.inl (Or.inr (Or.inl e)))).trans (kept_but ((But.refl b w5).setCell (p := ⟨b, 3, none⟩) (Or.inl rfl) _)) (fun i e => Or.inl (Or.inl e))
              have HM6 : Hid (ownsQ false (w5.setCell ⟨b, 3, none⟩ (.slice (some ⟨gl, 0, none⟩) (rs3.length + 1) cl)) N 3 1 o3 rs3.length (rs3.map fun k => .int .i64 (k.m : Int))) := owns_kept' HG4.out.z.rz.ms (fun g e => (Below.heap_setCell _ _ _ _ (fun e' => owns_ne HG4.out.z.rz.ms HG4.out.z.bk.blk (by decide) (by rw [e, e']))).trans (HK5.out.block g (owns_lt HG4.out.z.rz.ms g e) (fun e' => rows_far HG4.out.z.rz.ls HG4.out.z.rz.ms (by decide) g e'.symm e)))
              generalize w5.setCell ⟨b, 3, none⟩ (.slice (some ⟨gl, 0, none⟩) (rs3.length + 1) cl) = w6 at *
              clear HK5 HB5 HL5 c50 cf5 c0 cf
              have c1 := bk_cell HB6.out 4 o3 rfl
              have cf := bk_thaw HB6.out
              have HN6 : Hid (N ≤ w6.heap.size) := Nat.le_trans HN2.out HK6.out.size
              go_wp2_with (at_builtin; refine wpList_append_lies _ rfl (.tmp 68) (.tmp 70) 51 rfl N 3 i2 (.int .i64 0) 1 8 Tryz.underlying51 hi2 hz20 hz21 hz22 rfl (by omega) o3 rs3.length _ rfl (HM6.out.row.alloc _) ⟨w6.heap.size, 0, none⟩ 1 1 [.int .i64 (m : Int)] rfl rfl (World.news_of_block (heap_alloc_new w6 (.cells #[.int .i64 (m : Int)] 3))) (by simp [Value.oneCell']) (by omega) (by unfold maxLen; omega) (by omega) (by have := HN6.out; simp; omega) _ rfl ?_; intro gm cm w7 hown7 hgrow7 hat7 hlt7; have kk7 : Kept (fun i => some i = Value.ownBlock o3) w6 w7 := (kept_below (S := fun i => some i = Value.ownBlock o3) ((Below.refl _ _).alloc (Nat.le_refl _) (.cells #[.int .i64 (m : Int)] 3))).trans (kept_grown hgrow7) (fun i e => Or.inl e); have HK7 := hide kk7; have HB7 := hide ((kk7.block b (lt_of_block HB6.out) (fun e => owns_ne HM6.out HB6.out (by decide) e.symm)).trans HB6.out); have c71 := bk_cell HB7.out 4 o3 rfl; have cf7 := bk_thaw HB7.out; have HM7 := hide (ownsQ_of (z := false) hown7); have HA7 := hide hat7; clear hown7 hgrow7 hat7 hlt7 kk7)
              have HB8 : Hid ((w7.setCell ⟨b, 4, none⟩ (.slice (some ⟨gm, 0, none⟩) (rs3.length + 1) cm)).heap[b]? = some (.cells (bkCells ⟨.slice (some ⟨gl, 0, none⟩) (rs3.length + 1) cl, .slice (some ⟨gm, 0, none⟩) (rs3.length + 1) cm, a3⟩ L M A turn done used) 70 (0, 0))) := by show _ = _; rw [block_set HB7.out]; rfl
              have HM8 : Hid (ownsQ false (w7.setCell ⟨b, 4, none⟩ (.slice (some ⟨gm, 0, none⟩) (rs3.length + 1) cm)) N 3 1 (.slice (some ⟨gm, 0, none⟩) (rs3.length + 1) cm) (rs3.length + 1) ((rs3.map fun k => Value.int .i64 (k.m : Int)) ++ [.int .i64 (m : Int)])) := owns_kept' HM7.out (fun g e => Below.heap_setCell _ _ _ _ (fun e' => owns_ne HM7.out HB7.out (by decide) (by rw [e, e'])))
              have HL8 : Hid (ownsQ false (w7.setCell ⟨b, 4, none⟩ (.slice (some ⟨gm, 0, none⟩) (rs3.length + 1) cm)) N 44 1 (.slice (some ⟨gl, 0, none⟩) (rs3.length + 1) cl) (rs3.length + 1) ((rs3.map fun k => k.val) ++ [.slice p4 (n + 1) k4])) := owns_kept' HL6.out (fun g e => (Below.heap_setCell _ _ _ _ (fun e' => owns_ne HL6.out HB6.out (by decide) (by rw [e, e']))).trans (HK7.out.block g (owns_lt HL6.out g e) (fun e' => rows_far HM6.out HL6.out (by decide) g e'.symm e)))
              have HK8 : Hid (Kept (PS b ⟨r3, o3, a3⟩) w4 (w7.setCell ⟨b, 4, none⟩ (.slice (some ⟨gm, 0, none⟩) (rs3.length + 1) cm))) := (HK6.out.trans HK7.out (fun i e => Or.inl (Or.inr (Or.inr e)))).trans (kept_but ((But.refl b w7).setCell (p := ⟨b, 4, none⟩) (Or.inl rfl) _)) (fun i e => Or.inl (Or.inl e))
              have HA5' : Hid ((Value.slice (some ⟨gl, 0, none⟩) (rs3.length + 1) cl).ownBlock = Value.ownBlock r3 ∨ ∃ q, (Value.slice (some ⟨gl, 0, none⟩) (rs3.length + 1) cl).ownBlock = some q ∧ w4.heap.size ≤ q) := by
                rcases HA5.out with h | h
                · exact Or.inl h.symm
                · exact Or.inr ⟨gl, rfl, by simp at h; omega⟩
              have HA7' : Hid ((Value.slice (some ⟨gm, 0, none⟩) (rs3.length + 1) cm).ownBlock = Value.ownBlock o3 ∨ ∃ q, (Value.slice (some ⟨gm, 0, none⟩) (rs3.length + 1) cm).ownBlock = some q ∧ w4.heap.size ≤ q) := by
                rcases HA7.out with h | h
                · exact Or.inl h.symm
                · exact Or.inr ⟨gm, rfl, by have := HK6.out.size; simp at h; omega⟩
              have HP8 := hide (HG4.out.push HC4.out HK8.out HB8.out HL8.out HM8.out ⟨hm9, by omega⟩ (by omega) HA5'.out HA7'.out)
              go_wp2
              go_roundw
              case rel => exact ⟨i + 1, n + 1, _, _, _, _, by omega, by omega, by go_num, rfl, HP8.out.1, HP8.out.2, by have := HNL.out; omega, by simp; omega⟩
              case measure => simp [intOf]; omega
            · have l6 : ((i : Int) % 16 == 0) = false := by simp; omega
              have l7 : ¬ (i : Int) % 16 = 0 := by omega
              go_wp2
              go_roundw
              case rel => exact ⟨i + 1, n + 1, _, _, _, _, by omega, by omega, by go_num, rfl, HG4, HC4, by have := HNL.out; omega, by omega⟩
              case measure => simp [intOf]; omega
        · have l4 : ¬ (i : Int) ≤ 32 := by omega
          go_wp2
          go_roundw
          case rel => exact ⟨k + 1, r3, o3, rs3, by omega, by omega, by go_num, HG, by show _ ≤ _; omega⟩
          case measure => simp [intOf]; omega
    · have q0 := bk_cell HG.out.z.bk.blk 3 r rfl
      have cf := bk_thaw HG.out.z.bk.blk
      have q2 := bk_cell HG.out.z.bk.blk 5 (.int .i64 (a3 : Int)) rfl
      obtain ⟨lp2, lc2, hL2⟩ : ∃ p c, r = .slice p rs2.length c := Q.owns_form HG.out.z.rz.ls
      have HZ2 := hide (HG.out.z.grownTo rs2.length)
      have HK2 : Hid (Kept (GZ b X0 rs) w (wr.setCell ⟨b, 5, none⟩ (.int .i64 (rs2.length : Int)))) := HG.out.kept.trans (kept_but ((But.refl b wr).setCell (p := ⟨b, 5, none⟩) (Or.inl rfl) _)) (fun i e => Or.inl (Or.inl e))
      have HCf : Hid (rs2.length ≤ rs.length + 32 * (rs.length - a3)) := by show _ ≤ _; have := HC.out; omega
      rw [hL2] at q0
      have l1 : ¬ (k : Int) < (rs.length : Int) := by omega
      go_wp2
      go_end0
      exact ⟨rfl, _, rs2, ⟨HZ2.out, HK2.out, rfl⟩, HCf.out⟩
end Go.Proofs.YtjcdnclfakmbpaaGreatDoor.V
namespace Go.Proofs.YtjcdnclfakmbpaaGreatDoor.V
open Go.RowKit Go.Proofs.YtjcdnclfakmbpaaGreatDoor.U Go.Proofs.YtjcdnclfakmbpaaGreatDoor.Q
set_option maxRecDepth 100000 in
set_option maxHeartbeats 1000000 in
theorem two_mrk (w : World) (g m : Nat) (hm : m ≤ 1000000000) (hb : w.heap[g]? = some (.cells #[.int .u8 (mkB m 0 : Nat), .int .u8 (mkB m 1 : Nat)] 5 (0, 0))) :
    Calls Tryz.prog 107 #[.slice (some ⟨g, 0, none⟩) 2 2, .int .i64 (m : Int)] w fun e w' => e = .returned (.bool true) ∧ ∃ q, w' = w.drewN q := by
  have c0 : w.cell? ⟨g, 0, none⟩ = some (.int .u8 (mkB m 0 : Nat)) := by simp [World.cell?, hb]
  have c1 : w.cell? ⟨g, 1, none⟩ = some (.int .u8 (mkB m 1 : Nat)) := by simp [World.cell?, hb]
  have HA0 := hide (fun w => at_mark w m 0 hm (by omega))
  have HA1 := hide (fun w => at_mark w m 1 hm (by omega))
  generalize mkB m 0 = x0 at *
  generalize mkB m 1 = x1 at *
  clear hb
  have hz : ∀ (z : Int), (z == z) = true := fun z => by simp
  have e0 : ((x0 : Int) == (x0 : Int)) = true := hz _
  have e1 : ((x1 : Int) == (x1 : Int)) = true := hz _
  have HA0' : Hid (∀ w, Calls Tryz.prog 64 #[.int .i64 (m : Int), .int .i64 0] w fun e w' => e = .returned (.int .u8 (x0 : Int)) ∧ w' = w) := HA0
  have HA1' : Hid (∀ w, Calls Tryz.prog 64 #[.int .i64 (m : Int), .int .i64 1] w fun e w' => e = .returned (.int .u8 (x1 : Int)) ∧ w' = w) := HA1
  clear HA0 HA1
  go_enter Tryz.func107, Tryz.ntmps107
  go_upto_region 1 with (fail)
  go_big_quiet (first | (go_at_call 64; with_reducible exact Calls.quiet_of_same (HA0'.out _)) | (go_at_call 64; with_reducible exact Calls.quiet_of_same (HA1'.out _)))
  go_wp2
  go_ret
  exact ⟨rfl, nq, rfl⟩
end Go.Proofs.YtjcdnclfakmbpaaGreatDoor.V
namespace Go.Proofs.YtjcdnclfakmbpaaGreatDoor.V
open Go.RowKit Go.Proofs.YtjcdnclfakmbpaaGreatDoor.U Go.Proofs.YtjcdnclfakmbpaaGreatDoor.Q
set_option maxRecDepth 100000 in
set_option maxHeartbeats 2000000 in
theorem bk_plain (w : World) (N b : Nat) (F : Nat → Prop) (X : Rv) (L M : Value) (A turn done used : Nat) (ks rs : List Kl) (hz : Z w N F b X L M A turn done used ks rs) :
    Calls Tryz.prog 66 #[.pointer (some ⟨b, 0, none⟩)] w fun e w' => e = .returned (.bool true) ∧ ∃ q, w' = w.drewN q := by
  have h := hz.bk
  have HK := hide h
  have HR0 := hide hz.rz
  have hrmost := hz.rz.most
  obtain ⟨rp, rc, hXr⟩ : ∃ p c, X.r = .slice p rs.length c := Q.owns_form hz.rz.ls
  obtain ⟨op, oc, hXo⟩ : ∃ p c, X.o = .slice p rs.length c := Q.owns_form hz.rz.ms
  have q4 := bk_cell h.blk 4 X.o rfl
  have q0 := bk_cell h.blk 0 L rfl
  have q1 := bk_cell h.blk 1 M rfl
  have q3 := bk_cell h.blk 3 X.r rfl
  rw [hXr] at q3
  rw [hXo] at q4
  obtain ⟨lp, lc, hL⟩ : ∃ p c, L = .slice p ks.length c := by
    rcases h.ls.2 with ⟨h1, h2⟩ | ⟨g, cap, cur, h1, _⟩
    · exact ⟨none, 0, by rw [h1, h2]⟩
    · exact ⟨_, cap, h1⟩
  obtain ⟨mp, mc, hM⟩ : ∃ p c, M = .slice p ks.length c := by
    rcases h.ms.2 with ⟨h1, h2⟩ | ⟨g, cap, cur, h1, _⟩
    · exact ⟨none, 0, by rw [h1, h2]⟩
    · exact ⟨_, cap, h1⟩
  have hmost := h.most
  subst hL
  subst hM
  have HXr := hide hXr
  have HXo := hide hXo
  clear h hz hXr hXo
  go_enter Tryz.func66, Tryz.ntmps66
  go_wp2
  go_loopw [3] (fun i wr => ∃ (j q : Nat), j ≤ ks.length ∧ i = .int .i64 j ∧ Hid (wr = w.drewN q)) (fun i _ => ks.length - (intOf i).toNat)
  case atStart => exact ⟨0, 0, Nat.zero_le _, rfl, rfl⟩
  case round =>
    obtain ⟨j, q, hj, rfl, HW⟩ := hrel
    have e0 : wr.cell? ⟨b, 0, none⟩ = some (.slice lp ks.length lc) := by rw [HW.out]; exact q0
    have e1 : wr.cell? ⟨b, 1, none⟩ = some (.slice mp ks.length mc) := by rw [HW.out]; exact q1
    have e3 : wr.cell? ⟨b, 3, none⟩ = some (.slice rp rs.length rc) := by rw [HW.out]; exact q3
    by_cases hlt : j < ks.length
    · have hop : ks[j]? = some (ks[j]'hlt) := List.getElem?_eq_getElem _
      obtain ⟨gl, _, hgl, cl0⟩ := row_cell HK.out.ls (k := j) (a := (ks[j]'hlt).val) (by simp [hop])
      obtain ⟨gm, _, hgm, cm0⟩ := row_cell HK.out.ms (k := j) (a := .int .i64 ((ks[j]'hlt).m : Int)) (by simp [hop])
      cases hgl
      cases hgm
      have HR := hide (HK.out.rows _ (List.mem_of_getElem? hop))
      obtain ⟨n1, n2⟩ := HK.out.num _ (List.mem_of_getElem? hop)
      generalize ks[j]'hlt = kl at *
      obtain ⟨p, l, c, m⟩ := kl
      simp only [Kl.val] at cl0 cm0 HR n1 n2
      clear hop
      have l1 : (j : Int) < (ks.length : Int) := by omega
      have l2 : (0 : Int) ≤ (j : Int) := by omega
      go_wp2
      go_loopw [4] (fun i wr => ∃ (i' q : Nat), i' ≤ l ∧ i = .int .i64 i' ∧ Hid (wr = w.drewN q)) (fun i _ => l - (intOf i).toNat)
      case atStart => exact ⟨0, q, Nat.zero_le _, rfl, HW⟩
      case round =>
        clear e0 e1 e3 HW
        obtain ⟨i, q2, hi, rfl, HW⟩ := hrel
        have e0 : wr.cell? ⟨b, 0, none⟩ = some (.slice (some ⟨gl, 0, none⟩) ks.length lc) := by rw [HW.out]; exact q0
        have e1 : wr.cell? ⟨b, 1, none⟩ = some (.slice (some ⟨gm, 0, none⟩) ks.length mc) := by rw [HW.out]; exact q1
        have cl : wr.cell? ⟨gl, j, none⟩ = some (.slice p l c) := by rw [HW.out]; exact cl0
        have cm : wr.cell? ⟨gm, j, none⟩ = some (.int .i64 (m : Int)) := by rw [HW.out]; exact cm0
        by_cases hil : i < l
        · obtain ⟨gx, _, hgx, cx0⟩ := row_cell HR.out (k := i) (a := .int .u8 (mkB m i : Nat)) (by simp [vals, mks, hil])
          cases hgx
          have cx : wr.cell? ⟨gx, i, none⟩ = some (.int .u8 (mkB m i : Nat)) := by rw [HW.out]; exact cx0
          have HA := hide (fun w => at_mark w m i n1 (by omega))
          have hx := mkB_lt m i
          generalize mkB m i = x at *
          have l3 : (i : Int) < (l : Int) := by omega
          have l4 : (0 : Int) ≤ (i : Int) := by omega
          go_wp2
          go_quiet (first | (go_at_call 64; exact Calls.quiet_of_same (HA.out _)))
          go_wp2
          go_roundw
          case rel => exact ⟨i + 1, q2 + nq, by omega, by go_num, by show _ = _; rw [HW.out, World.drewN_drewN]⟩
          case measure => simp [intOf]; omega
        · have l3 : ¬ (i : Int) < (l : Int) := by omega
          go_wp2
          go_roundw
          case rel => exact ⟨j + 1, q2, by omega, by go_num, HW⟩
          case measure => simp [intOf]; omega
    · have l1 : ¬ (j : Int) < (ks.length : Int) := by omega
      go_wp2
      clear e0 e1 e3
      go_loopw [5] (fun i wr => ∃ (j q : Nat), j ≤ rs.length ∧ i = .int .i64 j ∧ Hid (wr = w.drewN q)) (fun i _ => rs.length - (intOf i).toNat)
      case atStart => exact ⟨0, q, Nat.zero_le _, rfl, HW⟩
      case round =>
        clear HW
        obtain ⟨j, q, hj, rfl, HW⟩ := hrel
        have e3 : wr.cell? ⟨b, 3, none⟩ = some (.slice rp rs.length rc) := by rw [HW.out]; exact q3
        have e4 : wr.cell? ⟨b, 4, none⟩ = some (.slice op rs.length oc) := by rw [HW.out]; exact q4
        by_cases hlt : j < rs.length
        · have hop : rs[j]? = some (rs[j]'hlt) := List.getElem?_eq_getElem _
          obtain ⟨gl, _, hgl, cl0⟩ := row_cell HR0.out.ls (k := j) (a := (rs[j]'hlt).val) (by simp [hop])
          obtain ⟨gm, _, hgm, cm0⟩ := row_cell HR0.out.ms (k := j) (a := .int .i64 ((rs[j]'hlt).m : Int)) (by simp [hop])
          rw [HXr.out] at hgl
          rw [HXo.out] at hgm
          cases hgl
          cases hgm
          obtain ⟨vs, hvs1, hvs2⟩ := HR0.out.rows _ (List.mem_of_getElem? hop)
          obtain ⟨n1, n2⟩ := HR0.out.num _ (List.mem_of_getElem? hop)
          have HV1 := hide hvs1
          have HV2 := hide hvs2
          clear hvs1 hvs2
          generalize rs[j]'hlt = kl at *
          obtain ⟨p, l, c, m⟩ := kl
          simp only [Kl.val] at cl0 cm0 HV1 HV2 n1 n2
          clear hop
          have l1 : (j : Int) < (rs.length : Int) := by omega
          have l2 : (0 : Int) ≤ (j : Int) := by omega
          go_wp2
          go_loopw [6] (fun i wr => ∃ (i' q : Nat), i' ≤ l ∧ i = .int .i64 i' ∧ Hid (wr = w.drewN q)) (fun i _ => l - (intOf i).toNat)
          case atStart => exact ⟨0, q, Nat.zero_le _, rfl, HW⟩
          case round =>
            clear e3 e4 HW
            obtain ⟨i, q2, hi, rfl, HW⟩ := hrel
            have e3 : wr.cell? ⟨b, 3, none⟩ = some (.slice (some ⟨gl, 0, none⟩) rs.length rc) := by rw [HW.out]; exact q3
            have e4 : wr.cell? ⟨b, 4, none⟩ = some (.slice (some ⟨gm, 0, none⟩) rs.length oc) := by rw [HW.out]; exact q4
            have cl : wr.cell? ⟨gl, j, none⟩ = some (.slice p l c) := by rw [HW.out]; exact cl0
            have cm : wr.cell? ⟨gm, j, none⟩ = some (.int .i64 (m : Int)) := by rw [HW.out]; exact cm0
            by_cases hil : i < l
            · have hvl : vs.length = l := by have := HV1.out.1; omega
              have hvi : vs[i]? = some (vs[i]'(by omega)) := List.getElem?_eq_getElem _
              obtain ⟨gx, _, hgx, cx0⟩ := row_cell HV1.out (k := i) hvi
              obtain ⟨g2, hg2, _, hm2⟩ := HV2.out _ (List.mem_of_getElem? hvi)
              cases hgx
              rw [hg2] at cx0
              have cx : wr.cell? ⟨gx, i, none⟩ = some (.slice (some ⟨g2, 0, none⟩) 2 2) := by rw [HW.out]; exact cx0
              have HTw : Hid (∀ n, Calls Tryz.prog 107 #[.slice (some ⟨g2, 0, none⟩) 2 2, .int .i64 (m : Int)] (wr.drewN n) fun e w' => e = .returned (.bool true) ∧ ∃ k, w' = (wr.drewN n).drewN k) := fun n => two_mrk _ g2 m n1 (by rw [HW.out]; exact hm2)
              clear hvi hvl hm2 hg2
              have l3 : (i : Int) < (l : Int) := by omega
              have l4 : (0 : Int) ≤ (i : Int) := by omega
              go_wp2
              go_quiet (first | (go_at_call 107; exact Calls.quiet_of (HTw.out _)))
              go_wp2
              go_roundw
              case rel => exact ⟨i + 1, q2 + nq, by omega, by go_num, by show _ = _; rw [HW.out, World.drewN_drewN]⟩
              case measure => simp [intOf]; omega
            · have l3 : ¬ (i : Int) < (l : Int) := by omega
              go_wp2
              go_roundw
              case rel => exact ⟨j + 1, q2, by omega, by go_num, HW⟩
              case measure => simp [intOf]; omega
        · have l1 : ¬ (j : Int) < (rs.length : Int) := by omega
          go_wp2
          go_ret
          exact ⟨rfl, q, HW.out⟩
end Go.Proofs.YtjcdnclfakmbpaaGreatDoor.V
namespace Go.Proofs.YtjcdnclfakmbpaaGreatDoor.V
open Go.RowKit Go.Proofs.YtjcdnclfakmbpaaGreatDoor.U Go.Proofs.YtjcdnclfakmbpaaGreatDoor.Q
theorem Z.draws {w : World} {N b : Nat} {F : Nat → Prop} {X : Rv} {L M : Value} {A turn done used : Nat} {ks rs : List Kl} (h : Z w N F b X L M A turn done used ks rs) (q : Nat) : Z (w.drewN q) N F b X L M A turn done used ks rs := ⟨h.bk.draws q, h.rz.draws q, h.lr, h.mo, h.km⟩
theorem lies_lt {w : World} {L L' : Value} (h : L'.ownBlock = L.ownBlock ∨ ∃ g, L'.ownBlock = some g ∧ w.heap.size ≤ g) (g : Nat) (e : L'.ownBlock = some g) : L.ownBlock = some g ∨ w.heap.size ≤ g := by
  rcases h with e' | ⟨g', e', hg⟩
  · exact Or.inl (by rw [← e', e])
  · rw [e'] at e; cases e; exact Or.inr hg
theorem Z.turn {w w' : World} {N b : Nat} {F : Nat → Prop} {X : Rv} {L M L' M' : Value} {A turn done used A' turn' done' used' : Nat} {ks ks' rs : List Kl} {S : Nat → Prop} (h : Z w N F b X L M A turn done used ks rs) (hb : Bk X w' N b L' M' A' turn' done' used' ks') (k : Kept S w w') (hS : ∀ i, i < w.heap.size → S i → i = b ∨ some i = L.ownBlock ∨ some i = M.ownBlock ∨ (∃ cur fz, w.heap[i]? = some (.cells cur 5 fz)) ∧ ¬ F i)
    (hL : L'.ownBlock = L.ownBlock ∨ ∃ g, L'.ownBlock = some g ∧ w.heap.size ≤ g) (hM : M'.ownBlock = M.ownBlock ∨ ∃ g, M'.ownBlock = some g ∧ w.heap.size ≤ g) (hk : ∀ x ∈ ks', ∀ g, x.val.ownBlock = some g → ¬ F g) : Z w' N F b X L' M' A' turn' done' used' ks' rs := by
  have hn : ∀ {z : Bool} {B n : Nat} {ty : TypeId} {v : Value} {xs : List Value}, ownsQ z w B ty 1 v n xs → ty ≠ 70 → ty ≠ 5 → (∀ g, v.ownBlock = some g → L.ownBlock ≠ some g) → (∀ g, v.ownBlock = some g → M.ownBlock ≠ some g) → ∀ g, v.ownBlock = some g → ¬ S g := fun hv h1 h2 h3 h4 g e hs => by
    rcases hS g (owns_lt hv g e) hs with e' | e' | e' | ⟨⟨cur, fz, e'⟩, _⟩
    · subst e'; exact owns_ne hv h.bk.blk (fun e => h1 e.symm) e
    · exact h3 g e e'.symm
    · exact h4 g e e'.symm
    · exact owns_ne hv e' (fun e => h2 e.symm) e
  refine ⟨hb, h.rz.keep k (hn h.rz.ls (by decide) (by decide) (fun g e => rows_far0 h.rz.ls h.bk.ls (by decide) g e) (fun g e => rows_far0 h.rz.ls h.bk.ms (by decide) g e)) (hn h.rz.ms (by decide) (by decide) (fun g e => rows_far0 h.rz.ms h.bk.ls (by decide) g e) h.mo) (fun x hx g e => ?_) (fun g cur hf hc hs => ?_), fun x hx g e e' => ?_, fun g e e' => ?_, hk⟩
  · obtain ⟨vs, h1, _⟩ := h.rz.rows x hx
    exact hn h1 (by decide) (by decide) (h.lr x hx) (fun g e => rows_far0 h1 h.bk.ms (by decide) g e) g e
  · rcases hS g (lt_of_block hc) hs with e' | e' | e' | ⟨_, e'⟩
    · subst e'; rw [h.bk.blk] at hc; simp at hc
    · exact owns_ne h.bk.ls hc (by decide) e'.symm
    · exact owns_ne h.bk.ms hc (by decide) e'.symm
    · exact e' hf
  · rcases lies_lt hL g e' with q | q
    · exact h.lr x hx g e q
    · have := (h.rz.rows x hx).lt g e; omega
  · rcases lies_lt hM g e' with q | q
    · exact h.mo g e q
    · have := owns_lt h.rz.ms g e; omega
theorem bz_bytes (w : World) (N b : Nat) (F : Nat → Prop) (X : Rv) (L M : Value) (A turn done used : Nat) (ks rs : List Kl) (p : Option Addr) (len c : Nat) (ys : List Nat) (h : Z w N F b X L M A turn done used ks rs) (hrow : ownsQ true w N 5 1 (.slice p len c) len (vals ys)) (hfar : ∀ k ∈ ks, Far (.slice p len c) k.val) (hpF : ∀ g, (Value.slice p len c).ownBlock = some g → ¬ F g) (hN : N ≤ w.heap.size) (ht : turn + 1 ≤ 1000000000) (hlen : len ≤ 140737488355328) (hu : used ≤ 16777216) (hks : ks.length + 1 ≤ 1000000000) :
    Calls Tryz.prog 30 #[.pointer (some ⟨b, 0, none⟩), .slice p len c] w fun e w' => e = .returned (.tuple #[]) ∧ ∃ L' M' used' ks', Z w' N F b X L' M' A (turn + 1) done used' ks' rs ∧ used' ≤ 16777216 ∧ (ks' = ks ∨ (ks' = ks ++ [⟨p, len, c, turn + 1⟩] ∧ len ≤ 16777216)) ∧ Kept (BkS b L M (.slice p len c)) w w' ∧ (L'.ownBlock = L.ownBlock ∨ ∃ g, L'.ownBlock = some g ∧ w.heap.size ≤ g) ∧ (M'.ownBlock = M.ownBlock ∨ ∃ g, M'.ownBlock = some g ∧ w.heap.size ≤ g) := by
  refine (bk_bytes w N b L M A turn done used ks p len c ys h.bk hrow hfar hN ht hlen hu hks).mono ?_
  rintro e w' ⟨rfl, L', M', used', ks', hb, hu', hks', hk, hL, hM⟩
  refine ⟨rfl, L', M', used', ks', h.turn hb hk (fun i hi e => ?_) hL hM (fun x hx g e => ?_), hu', hks', hk, hL, hM⟩
  · rcases e with e | e | e | e
    · exact Or.inl e
    · exact Or.inr (Or.inl e)
    · exact Or.inr (Or.inr (Or.inl e))
    · exact Or.inr (Or.inr (Or.inr ⟨owns_block hrow i e.symm, hpF i e.symm⟩))
  · rcases hks' with rfl | ⟨rfl, _⟩
    · exact h.km x hx g e
    · rcases List.mem_append.1 hx with h' | h'
      · exact h.km x h' g e
      · simp at h'; subst h'; exact hpF g e
set_option maxRecDepth 100000 in
set_option maxHeartbeats 400000 in
theorem bz_holds (w : World) (N b : Nat) (F : Nat → Prop) (X : Rv) (L M : Value) (A turn done used : Nat) (ks rs : List Kl) (h : Z w N F b X L M A turn done used ks rs) :
    Calls Tryz.prog 31 #[.pointer (some ⟨b, 0, none⟩)] w fun e w' => e = .returned (.bool true) ∧ ∃ q, w' = w.drewN q := by
  have HK := hide h
  clear h
  go_enter Tryz.func31, Tryz.ntmps31
  go_wp2_with fail
  refine (bk_plain w N b F X L M A turn done used ks rs HK.out).mono ?_
  rintro e w1 ⟨rfl, q, rfl⟩
  have HB : Hid ((w.drewN q).heap[b]? = some (.cells (bkCells X L M A turn done used) 70 (0, 0))) := HK.out.bk.blk
  generalize hw : w.drewN q = w1 at *
  have HW := hide hw
  clear hw
  go_wp2_with fail
  refine (bk_kept w1 b L M A turn done used HB.out).mono ?_
  rintro e w2 ⟨rfl, rfl⟩
  go_wp2_with fail
  refine (bk_told _ b L M A turn done used HB.out).mono ?_
  rintro e w2 ⟨rfl, rfl⟩
  go_wp2_with fail
  refine (bk_held _ b L M A turn done used HB.out).mono ?_
  rintro e w2 ⟨rfl, rfl⟩
  go_wp2_with fail
  refine (bk_sent _ b L M A turn done used HB.out).mono ?_
  rintro e w2 ⟨rfl, rfl⟩
  go_wp2
  go_ret
  exact ⟨rfl, q, HW.out.symm⟩
def SZ (b : Nat) (X : Rv) (L M : Value) (ks rs : List Kl) (i : Nat) : Prop := GS b L M ks i ∨ GZ b X rs i
theorem Z.doneTo {w : World} {N b : Nat} {F : Nat → Prop} {X : Rv} {L M : Value} {A turn done used : Nat} {ks rs : List Kl} (h : Z w N F b X L M A turn done used ks rs) (t : Nat) : Z (w.setCell ⟨b, 55, none⟩ (.int .i64 (t : Int))) N F b X L M A turn t used ks rs := by
  have hs : ∀ j, j ≠ b → (w.setCell ⟨b, 55, none⟩ (.int .i64 (t : Int))).heap[j]? = w.heap[j]? := fun j hj => Below.heap_setCell _ _ _ _ hj
  have hr : ∀ {z0 : Bool} {B0 n : Nat} {ty : TypeId} {v : Value} {xs : List Value}, ownsQ z0 w B0 ty 1 v n xs → 70 ≠ ty → ∀ g, v.ownBlock = some g → (w.setCell ⟨b, 55, none⟩ (.int .i64 (t : Int))).heap[g]? = w.heap[g]? := fun hv ht g e => hs g (fun e' => owns_ne hv h.bk.blk ht (by rw [e, e']))
  refine ⟨⟨by rw [block_set h.bk.blk]; rfl, owns_kept' h.bk.ls (hr h.bk.ls (by decide)), owns_kept' h.bk.ms (hr h.bk.ms (by decide)), fun x hx => owns_kept' (h.bk.rows x hx) (hr (h.bk.rows x hx) (by decide)), h.bk.num, h.bk.most, h.bk.one⟩, ⟨owns_kept' h.rz.ls (hr h.rz.ls (by decide)), owns_kept' h.rz.ms (hr h.rz.ms (by decide)), fun x hx => ?_, h.rz.num, h.rz.most, h.rz.one⟩, h.lr, h.mo, h.km⟩
  exact (h.rz.rows x hx).keep (fun g e => hs g (fun e' => rwm_ne (h.rz.rows x hx) h.bk.blk (by decide) (by rw [e, e']))) (fun g cur _ hb => hs g (fun e => by subst e; rw [h.bk.blk] at hb; simp at hb)) (fun _ e => e)
set_option maxRecDepth 100000 in
set_option maxHeartbeats 2000000 in
theorem bz_grow (w : World) (N b : Nat) (F : Nat → Prop) (X : Rv) (L M : Value) (A turn done used : Nat) (ks rs : List Kl) (h : Z w N F b X L M A turn done used ks rs) (hF : ∀ g, F g → g < w.heap.size) (hN : N ≤ w.heap.size) (hA : A ≤ ks.length) (hks : ks.length ≤ 4000000) (hl : ∀ j x, A ≤ j → ks[j]? = some x → x.l ≤ 99999999000) (hA2 : X.a ≤ rs.length) (hrs : rs.length ≤ 4000000) (hl2 : ∀ j x, X.a ≤ j → rs[j]? = some x → x.l ≤ 1000000000) :
    Calls Tryz.prog 32 #[.pointer (some ⟨b, 0, none⟩)] w fun e w' => e = .returned (.tuple #[]) ∧ ∃ X' L' M' A' ks' rs' F', Z w' N F' b X' L' M' A' turn turn used ks' rs' ∧ Kept (SZ b X L M ks rs) w w' := by
  have HC := hide (bk_growBytes w N b L M A turn done used ks h.bk hN hA hks hl)
  have HZ := hide h
  have HFl := hide hF
  have HL2 := hide hl2
  clear h hl hl2 hF
  go_enter Tryz.func32, Tryz.ntmps32
  go_wp2_with fail
  refine HC.out.mono ?_
  rintro e w1 ⟨rfl, L1, M1, ks2, hg, hc⟩
  have hz1 : Z w1 N F b X L1 M1 ks2.length turn done used ks2 rs := HZ.out.turn hg.bk hg.kept (fun i hi e => by
    rcases e with e | e | e | ⟨k, hk, e⟩
    · exact Or.inl e
    · exact Or.inr (Or.inl e)
    · exact Or.inr (Or.inr (Or.inl e))
    · exact Or.inr (Or.inr (Or.inr ⟨owns_block (HZ.out.bk.rows k hk) i e.symm, HZ.out.km k hk i e.symm⟩))) hg.lo hg.mo (fun x hx g e hf => by
    rcases hg.own x hx g e with ⟨k, hk, e'⟩ | e'
    · exact HZ.out.km k hk g e' hf
    · have := HFl.out g hf; omega)
  have hz2 : Z w1 N (fun g => F g ∨ w1.heap.size ≤ g) b X L1 M1 ks2.length turn done used ks2 rs := ⟨hz1.bk, hz1.rz.wide (fun g e => Or.inl e), hz1.lr, hz1.mo, fun x hx g e hf => by
    rcases hf with hf | hf
    · exact hz1.km x hx g e hf
    · have := owns_lt (hz1.bk.rows x hx) g e; omega⟩
  have HG := hide (bk_growRows w1 N b (fun g => F g ∨ w1.heap.size ≤ g) X L1 M1 ks2.length turn done used ks2 rs hz2 (fun g e => Or.inr e) (Nat.le_trans hN hg.kept.size) hA2 hrs HL2.out)
  have HK1 := hide hg.kept
  clear hg hc HC hz1 hz2
  go_wp2_with fail
  refine HG.out.mono ?_
  rintro e w2 ⟨rfl, X2, rs2, ⟨hz, hk, -⟩, -⟩
  have HZ2 := hide hz
  have HK2 : Hid (Kept (SZ b X L M ks rs) w w2) := ((Kept.refl (SZ b X L M ks rs) w).trans HK1.out (fun i e => Or.inl (Or.inl e))).trans hk (fun i e => Or.inl (Or.inr e))
  have HB : Hid (w2.heap[b]? = some (.cells (bkCells X2 L1 M1 ks2.length turn done used) 70 (0, 0))) := hz.bk.blk
  clear hz hk HG
  go_wp2_with fail
  refine (bk_growTexts _ b L1 M1 ks2.length turn done used HB.out).mono ?_
  rintro e w3 ⟨rfl, rfl⟩
  go_wp2_with fail
  refine (bk_growInts _ b L1 M1 ks2.length turn done used HB.out).mono ?_
  rintro e w3 ⟨rfl, rfl⟩
  go_wp2_with fail
  refine (bk_growWords _ b L1 M1 ks2.length turn done used HB.out).mono ?_
  rintro e w3 ⟨rfl, rfl⟩
  go_wp2_with fail
  refine (bk_growBools _ b L1 M1 ks2.length turn done used HB.out).mono ?_
  rintro e w3 ⟨rfl, rfl⟩
  go_wp2_with fail
  refine (bk_growLines _ b L1 M1 ks2.length turn done used HB.out).mono ?_
  rintro e w3 ⟨rfl, rfl⟩
  go_wp2_with fail
  refine (bk_growGuards _ b L1 M1 ks2.length turn done used HB.out).mono ?_
  rintro e w3 ⟨rfl, rfl⟩
  go_wp2_with fail
  refine (bk_growSets _ b L1 M1 ks2.length turn done used HB.out).mono ?_
  rintro e w3 ⟨rfl, rfl⟩
  go_wp2_with fail
  refine (bk_growRights _ b L1 M1 ks2.length turn done used HB.out).mono ?_
  rintro e w3 ⟨rfl, rfl⟩
  go_wp2_with fail
  refine (bk_growPrices _ b L1 M1 ks2.length turn done used HB.out).mono ?_
  rintro e w3 ⟨rfl, rfl⟩
  go_wp2_with fail
  refine (bk_growHelds _ b L1 M1 ks2.length turn done used HB.out).mono ?_
  rintro e w3 ⟨rfl, rfl⟩
  go_wp2_with fail
  refine (bk_growPools _ b L1 M1 ks2.length turn done used HB.out).mono ?_
  rintro e w3 ⟨rfl, rfl⟩
  go_wp2_with fail
  refine (bk_growActs _ b L1 M1 ks2.length turn done used HB.out).mono ?_
  rintro e w3 ⟨rfl, rfl⟩
  go_wp2_with fail
  refine (bk_growEntries _ b L1 M1 ks2.length turn done used HB.out).mono ?_
  rintro e w3 ⟨rfl, rfl⟩
  go_wp2_with fail
  refine (bk_growFlights _ b L1 M1 ks2.length turn done used HB.out).mono ?_
  rintro e w3 ⟨rfl, rfl⟩
  go_wp2_with fail
  refine (bk_growFiles _ b L1 M1 ks2.length turn done used HB.out).mono ?_
  rintro e w3 ⟨rfl, rfl⟩
  go_wp2_with fail
  refine (bk_growItems _ b L1 M1 ks2.length turn done used HB.out).mono ?_
  rintro e w3 ⟨rfl, rfl⟩
  have c54 := bk_cell HB.out 54 (.int .i64 (turn : Int)) rfl
  have c55 := bk_cell HB.out 55 (.int .i64 (done : Int)) rfl
  have cf := bk_thaw HB.out
  have HZ3 := hide (HZ2.out.doneTo turn)
  have HK3 : Hid (Kept (SZ b X L M ks rs) w (w3.setCell ⟨b, 55, none⟩ (.int .i64 (turn : Int)))) := HK2.out.trans (kept_but ((But.refl b w3).setCell (p := ⟨b, 55, none⟩) (Or.inl rfl) _)) (fun i e => Or.inl (Or.inl (Or.inl e)))
  go_wp2
  go_end0
  exact ⟨rfl, X2, L1, M1, _, ks2, rs2, _, HZ3.out, HK3.out⟩
set_option maxRecDepth 100000 in
set_option maxHeartbeats 1000000 in
theorem bz_look (w : World) (N b : Nat) (F : Nat → Prop) (X : Rv) (L M : Value) (A turn done used : Nat) (ks rs : List Kl) (h : Z w N F b X L M A turn done used ks rs) (hF : ∀ g, F g → g < w.heap.size) (hN : N ≤ w.heap.size) (hA : A ≤ ks.length) (hks : ks.length ≤ 4000000) (hl : ∀ j x, A ≤ j → ks[j]? = some x → x.l ≤ 99999999000) (hA2 : X.a ≤ rs.length) (hrs : rs.length ≤ 4000000) (hl2 : ∀ j x, X.a ≤ j → rs[j]? = some x → x.l ≤ 1000000000) :
    Calls Tryz.prog 9 #[.pointer (some ⟨b, 0, none⟩)] w fun e w' => e = .returned (.bool true) ∧ ∃ X' L' M' A' ks' rs' F', Z w' N F' b X' L' M' A' turn turn used ks' rs' ∧ Kept (SZ b X L M ks rs) w w' := by
  have HK := hide h
  have HFl := hide hF
  have HLs := hide hl
  have HL2 := hide hl2
  clear h hl hF hl2
  go_enter Tryz.func9, Tryz.ntmps9
  go_wp2_with fail
  refine (bz_holds w N b F X L M A turn done used ks rs HK.out).mono ?_
  rintro e w1 ⟨rfl, q, rfl⟩
  have HK1 := hide (HK.out.draws q)
  have HKe : Hid (Kept (SZ b X L M ks rs) w (w.drewN q)) := kept_below (bad_drews w q)
  have HN1 : Hid (N ≤ (w.drewN q).heap.size) := hN
  have HF1 : Hid (∀ g, F g → g < (w.drewN q).heap.size) := HFl.out
  have HSz : Hid ((w.drewN q).heap.size = w.heap.size) := rfl
  generalize w.drewN q = w1 at *
  clear HK HFl
  have c54 := bk_cell HK1.out.bk.blk 54 (.int .i64 (turn : Int)) rfl
  have c55 := bk_cell HK1.out.bk.blk 55 (.int .i64 (done : Int)) rfl
  by_cases hd : done = turn
  · have hb : ((done : Int) == (turn : Int)) = true := by simp; omega
    have HZ1 := HK1
    rw [hd] at HZ1
    clear hd
    go_wp2
    go_quiet (fail)
    go_wp2
    go_ret
    exact ⟨rfl, X, L, M, A, ks, rs, F, HZ1.out.draws nq, HKe.out.trans (kept_below (S := fun _ => False) (bad_drews w1 nq)) (fun _ e => e.elim)⟩
  · have hb : ((done : Int) == (turn : Int)) = false := by simp; omega
    clear hd
    go_wp2
    go_quiet (fail)
    have HK2 := hide (HK1.out.draws nq)
    have HKe2 : Hid (Kept (SZ b X L M ks rs) w (w1.drewN nq)) := HKe.out.trans (kept_below (S := fun _ => False) (bad_drews w1 nq)) (fun _ e => e.elim)
    have HN2 : Hid (N ≤ (w1.drewN nq).heap.size) := HN1.out
    have HF2 : Hid (∀ g, F g → g < (w1.drewN nq).heap.size) := HF1.out
    generalize w1.drewN nq = w2 at *
    clear c54 c55 HK1
    go_wp2_with fail
    refine (bz_grow w2 N b F X L M A turn done used ks rs HK2.out HF2.out HN2.out hA hks HLs.out hA2 hrs HL2.out).mono ?_
    rintro e w3 ⟨rfl, X3, L3, M3, A3, ks3, rs3, F3, hz, hk⟩
    have HZ3 := hide hz
    have HK3 : Hid (Kept (SZ b X L M ks rs) w w3) := HKe2.out.trans hk (fun i e => Or.inl e)
    clear hz hk
    go_wp2_with fail
    refine (bz_holds w3 N b F3 X3 L3 M3 A3 turn turn used ks3 rs3 HZ3.out).mono ?_
    rintro e w4 ⟨rfl, q4, rfl⟩
    go_wp2
    go_ret
    exact ⟨rfl, X3, L3, M3, A3, ks3, rs3, F3, HZ3.out.draws q4, HK3.out.trans (kept_below (S := fun _ => False) (bad_drews w3 q4)) (fun _ e => e.elim)⟩
end Go.Proofs.YtjcdnclfakmbpaaGreatDoor.V
