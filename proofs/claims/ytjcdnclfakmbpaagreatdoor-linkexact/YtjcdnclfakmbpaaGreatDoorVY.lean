import Derived.Deep.CutRange
import Derived.Test.YtjcdnclfakmbpaaGreatDoorVR
import Derived.BigQuiet
namespace Go.Proofs.YtjcdnclfakmbpaaGreatDoor.V
open Go.RowKit Go.Proofs.YtjcdnclfakmbpaaGreatDoor.U Go.Proofs.YtjcdnclfakmbpaaGreatDoor.Q
structure Z (w : World) (N : Nat) (F : Nat → Prop) (b : Nat) (X : Rv) (L M : Value) (A turn done used : Nat) (ks rs : List Kl) : Prop where
  bk : Bk X w N b L M A turn done used ks
  rz : Rz w N F X rs
  lr : ∀ k ∈ rs, ∀ g, k.val.ownBlock = some g → L.ownBlock ≠ some g
  mo : ∀ g, X.o.ownBlock = some g → M.ownBlock ≠ some g
  km : ∀ k ∈ ks, ∀ g, k.val.ownBlock = some g → ¬ F g
def PS (b : Nat) (X : Rv) (i : Nat) : Prop := i = b ∨ some i = X.r.ownBlock ∨ some i = X.o.ownBlock
section
variable {w wr w' : World} {N b : Nat} {F : Nat → Prop} {X X0 : Rv} {L M : Value} {A turn done used m n : Nat} {ks rs rs2 : List Kl} {g g' : Value}
theorem Z.push (h : Z w N F b X L M A turn done used ks rs) {p : Option Addr} {c : Nat} (hx : Rwm w N F m (.slice p n c) n) (ho : ∀ y ∈ rs, ∀ q, y.val.ownBlock = some q → (Value.slice p n c).ownBlock = some q → y.m = m) {r' o' : Value} (k : Kept (PS b X) w w') (hb : w'.heap[b]? = some (.cells (bkCells ⟨r', o', X.a⟩ L M A turn done used) 70 (0, 0)))
    (hl : ownsQ false w' N 44 1 r' (rs.length + 1) ((rs.map fun k => k.val) ++ [.slice p n c])) (hm : ownsQ false w' N 3 1 o' (rs.length + 1) ((rs.map fun k => Value.int .i64 (k.m : Int)) ++ [.int .i64 (m : Int)])) (hn : m ≤ 1000000000 ∧ n ≤ 100000000000) (hc : rs.length + 1 ≤ 1000000000)
    (hlr : ∀ q, (Value.slice p n c).ownBlock = some q → L.ownBlock ≠ some q) (hmo : o'.ownBlock = X.o.ownBlock ∨ ∃ q, o'.ownBlock = some q ∧ w.heap.size ≤ q) : Z w' N F b ⟨r', o', X.a⟩ L M A turn done used ks (rs ++ [⟨p, n, c, m⟩]) := by
  have k1 : ∀ {z : Bool} {B n : Nat} {ty : TypeId} {v : Value} {xs : List Value}, ownsQ z w B ty 1 v n xs → ty ≠ 70 → ty ≠ 44 → (ty ≠ 3 ∨ (∀ q, X.o.ownBlock = some q → v.ownBlock ≠ some q)) → ∀ q, v.ownBlock = some q → w'.heap[q]? = w.heap[q]? := fun hv h1 h2 h3 q e => k.block q (owns_lt hv q e) (by
    rintro (e' | e' | e')
    · subst e'; exact owns_ne hv h.bk.blk (fun e => h1 e.symm) e
    · exact rows_far0 hv h.rz.ls h2 q e e'.symm
    · rcases h3 with h3 | h3
      · exact rows_far0 hv h.rz.ms h3 q e e'.symm
      · exact h3 q e'.symm e)
  have k2 : ∀ q cur, F q → w.heap[q]? = some (.cells cur 5 (0, 0)) → w'.heap[q]? = w.heap[q]? := fun q cur _ hq => k.block q (lt_of_block hq) (by
    rintro (e' | e' | e')
    · subst e'; rw [h.bk.blk] at hq; simp at hq
    · exact owns_ne h.rz.ls hq (by decide) e'.symm
    · exact owns_ne h.rz.ms hq (by decide) e'.symm)
  have k3 : ∀ {m n : Nat} {v : Value}, Rwm w N F m v n → Rwm w' N F m v n := fun hv => by
    obtain ⟨vs, h1, h2⟩ := hv
    exact ⟨vs, owns_kept' h1 (k1 h1 (by decide) (by decide) (Or.inl (by decide))), fun u hu => (h2 u hu).keep k2 (fun _ e => e)⟩
  refine ⟨⟨hb, owns_kept' h.bk.ls (k1 h.bk.ls (by decide) (by decide) (Or.inl (by decide))), owns_kept' h.bk.ms (k1 h.bk.ms (by decide) (by decide) (Or.inr h.mo)), fun x hx => owns_kept' (h.bk.rows x hx) (k1 (h.bk.rows x hx) (by decide) (by decide) (Or.inl (by decide))), h.bk.num, h.bk.most, h.bk.one⟩, ⟨by simpa [Kl.val] using hl, by simpa using hm, fun y hy => ?_, fun y hy => ?_, by simpa using hc, fun y hy z hz q e1 e2 => ?_⟩, fun y hy => ?_, fun q e => ?_, h.km⟩
  · rcases List.mem_append.1 hy with h' | h'
    · exact k3 (h.rz.rows y h')
    · simp at h'; subst h'; exact k3 hx
  · rcases List.mem_append.1 hy with h' | h'
    · exact h.rz.num y h'
    · simp at h'; subst h'; exact hn
  · rcases List.mem_append.1 hy with h' | h' <;> rcases List.mem_append.1 hz with h'' | h''
    · exact h.rz.one y h' z h'' q e1 e2
    · simp at h''; subst h''; exact ho y h' q e1 e2
    · simp at h'; subst h'; exact (ho z h'' q e2 e1).symm
    · simp at h' h''; subst h'; subst h''; rfl
  · rcases List.mem_append.1 hy with h' | h'
    · exact h.lr y h'
    · simp at h'; subst h'; exact hlr
  · rcases hmo with e' | ⟨q', e', hq'⟩
    · exact h.mo q (by rw [← e']; exact e)
    · intro e2
      have h1 := owns_lt h.bk.ms q e2
      have e3 : o'.ownBlock = some q := e
      rw [e'] at e3
      cases e3
      omega
def GZ (b : Nat) (X : Rv) (rs : List Kl) (i : Nat) : Prop := i = b ∨ some i = X.r.ownBlock ∨ some i = X.o.ownBlock ∨ ∃ k ∈ rs, some i = k.val.ownBlock
structure Gz (w : World) (X0 : Rv) (rs : List Kl) (wr : World) (N : Nat) (F : Nat → Prop) (b : Nat) (X : Rv) (L M : Value) (A turn done used : Nat) (ks rs2 : List Kl) : Prop where
  z : Z wr N F b X L M A turn done used ks rs2
  pre : ∀ j, j < rs.length → rs2[j]? = rs[j]?
  len : rs.length ≤ rs2.length
  own : ∀ x ∈ rs2, ∀ g, x.val.ownBlock = some g → (∃ k ∈ rs, k.val.ownBlock = some g) ∨ w.heap.size ≤ g
  lo : X.r.ownBlock = X0.r.ownBlock ∨ ∃ g, X.r.ownBlock = some g ∧ w.heap.size ≤ g
  mo : X.o.ownBlock = X0.o.ownBlock ∨ ∃ g, X.o.ownBlock = some g ∧ w.heap.size ≤ g
  kept : Kept (GZ b X0 rs) w wr
  lL : ∀ g, L.ownBlock = some g → g < w.heap.size ∧ ∀ k ∈ rs, k.val.ownBlock ≠ some g
  ax : X.a = X0.a
structure Cz (w : World) (rs : List Kl) (wr : World) (N : Nat) (F : Nat → Prop) (m : Nat) (g : Value) (n : Nat) (rs2 : List Kl) : Prop where
  row : Rwm wr N F m g n
  one : ∀ x ∈ rs2, ∀ q, x.val.ownBlock = some q → g.ownBlock = some q → x.m = m
  own : ∀ q, g.ownBlock = some q → (∃ k ∈ rs, k.val.ownBlock = some q) ∨ w.heap.size ≤ q
theorem Gz.sep (h : Gz w X0 rs wr N F b X L M A turn done used ks rs2) (c : Cz w rs wr N F m g n rs2) (q : Nat) (e : g.ownBlock = some q) : L.ownBlock ≠ some q := by
  intro e2
  have h1 := h.lL q e2
  rcases c.own q e with ⟨k, hk, e3⟩ | e3
  · exact h1.2 k hk e3
  · omega
theorem Gz.mark (h : Gz w X0 rs wr N F b X L M A turn done used ks rs2) (c : Cz w rs wr N F m g n rs2) (hrow : Rwm w' N F m g' (n + 1)) (hat : g'.ownBlock = g.ownBlock ∨ ∃ q, g'.ownBlock = some q ∧ wr.heap.size ≤ q) (k : Kept (fun i => some i = g.ownBlock) wr w')
    (hm : ∀ u k, Rwm wr N F m u k → Rwm w' N F m u k) : Gz w X0 rs w' N F b X L M A turn done used ks rs2 ∧ Cz w rs w' N F m g' (n + 1) rs2 := by
  have hz := h.kept.size
  have hkm : ∀ q cur, F q → wr.heap[q]? = some (.cells cur 5 (0, 0)) → w'.heap[q]? = wr.heap[q]? := fun q cur _ hq => k.block q (lt_of_block hq) (fun e => rwm_ne c.row hq (by decide) e.symm)
  refine ⟨⟨⟨h.z.bk.keep k (fun e => rwm_ne c.row h.z.bk.blk (by decide) e.symm) (fun q e e' => h.sep c q e'.symm e) (fun q e e' => rwm_far c.row h.z.bk.ms (by decide) q e'.symm e) (fun x hx q e e' => rwm_far c.row (h.z.bk.rows x hx) (by decide) q e'.symm e), ⟨owns_kept' h.z.rz.ls (fun q e => k.block q (owns_lt h.z.rz.ls q e) (fun e' => rwm_far c.row h.z.rz.ls (by decide) q e'.symm e)), owns_kept' h.z.rz.ms (fun q e => k.block q (owns_lt h.z.rz.ms q e) (fun e' => rwm_far c.row h.z.rz.ms (by decide) q e'.symm e)), fun x hx => ?_, h.z.rz.num, h.z.rz.most, h.z.rz.one⟩, h.z.lr, h.z.mo, h.z.km⟩, h.pre, h.len, h.own, h.lo, h.mo, h.kept.trans k (fun i e => ?_), h.lL, h.ax⟩, ⟨hrow, fun x hx q e1 e2 => ?_, fun q e => ?_⟩⟩
  · by_cases hxm : x.m = m
    · have := h.z.rz.rows x hx
      rw [hxm] at this ⊢
      exact hm _ _ this
    · exact (h.z.rz.rows x hx).keep (fun q e => k.block q ((h.z.rz.rows x hx).lt q e) (fun e' => hxm (c.one x hx q e e'.symm))) hkm (fun _ e => e)
  · rcases c.own i e.symm with ⟨x, hx, e'⟩ | e'
    · exact Or.inl (Or.inr (Or.inr (Or.inr ⟨x, hx, e'.symm⟩)))
    · exact Or.inr e'
  · rcases hat with e' | ⟨q', e', hq'⟩
    · exact c.one x hx q e1 (by rw [← e', e2])
    · rw [e'] at e2; cases e2
      have := (h.z.rz.rows x hx).lt _ e1
      omega
  · rcases hat with e' | ⟨q', e', hq'⟩
    · exact c.own q (by rw [← e', e])
    · rw [e'] at e; cases e; exact Or.inr (by omega)
theorem Gz.push (h : Gz w X0 rs wr N F b X L M A turn done used ks rs2) {p : Option Addr} {cc : Nat} (c : Cz w rs wr N F m (.slice p n cc) n rs2) {r' o' : Value} (k : Kept (PS b X) wr w') (hb : w'.heap[b]? = some (.cells (bkCells ⟨r', o', X.a⟩ L M A turn done used) 70 (0, 0)))
    (hl : ownsQ false w' N 44 1 r' (rs2.length + 1) ((rs2.map fun k => k.val) ++ [.slice p n cc])) (hm : ownsQ false w' N 3 1 o' (rs2.length + 1) ((rs2.map fun k => Value.int .i64 (k.m : Int)) ++ [.int .i64 (m : Int)])) (hn : m ≤ 1000000000 ∧ n ≤ 100000000000) (hc : rs2.length + 1 ≤ 1000000000)
    (ha : r'.ownBlock = X.r.ownBlock ∨ ∃ q, r'.ownBlock = some q ∧ wr.heap.size ≤ q) (hb' : o'.ownBlock = X.o.ownBlock ∨ ∃ q, o'.ownBlock = some q ∧ wr.heap.size ≤ q) :
    Gz w X0 rs w' N F b ⟨r', o', X.a⟩ L M A turn done used ks (rs2 ++ [⟨p, n, cc, m⟩]) ∧ Cz w rs w' N F m (.slice p n cc) n (rs2 ++ [⟨p, n, cc, m⟩]) := by
  have hz := h.kept.size
  have hzz := h.z.push c.row (fun y hy q e1 e2 => c.one y hy q e1 e2) k hb hl hm hn hc (h.sep c) hb'
  have hfix : ∀ {X1 Y Zv : Value}, (X1.ownBlock = Y.ownBlock ∨ ∃ q, X1.ownBlock = some q ∧ w.heap.size ≤ q) → (Zv.ownBlock = X1.ownBlock ∨ ∃ q, Zv.ownBlock = some q ∧ wr.heap.size ≤ q) → (Zv.ownBlock = Y.ownBlock ∨ ∃ q, Zv.ownBlock = some q ∧ w.heap.size ≤ q) := fun h1 h2 => by
    rcases h2 with e | ⟨q, e, hq⟩
    · rw [e]; exact h1
    · exact Or.inr ⟨q, e, by omega⟩
  refine ⟨⟨hzz, fun j hj => ?_, by simp; have := h.len; omega, fun x hx q e => ?_, hfix h.lo ha, hfix h.mo hb', h.kept.trans k (fun i hi => ?_), h.lL, h.ax⟩, ⟨hzz.rz.rows ⟨p, n, cc, m⟩ (by simp), fun x hx q e1 e2 => ?_, c.own⟩⟩
  · rw [List.getElem?_append_left (by have := h.len; omega)]; exact h.pre j hj
  · rcases List.mem_append.1 hx with h' | h'
    · exact h.own x h' q e
    · simp at h'; subst h'; exact c.own q e
  · rcases hi with e | e | e
    · exact Or.inl (Or.inl e)
    · rcases h.lo with e' | ⟨q, e', hq⟩
      · exact Or.inl (Or.inr (Or.inl (by rw [e, e'])))
      · rw [e'] at e; cases e; exact Or.inr hq
    · rcases h.mo with e' | ⟨q, e', hq⟩
      · exact Or.inl (Or.inr (Or.inr (Or.inl (by rw [e, e']))))
      · rw [e'] at e; cases e; exact Or.inr hq
  · rcases List.mem_append.1 hx with h' | h'
    · exact c.one x h' q e1 e2
    · simp at h'; subst h'; rfl
end
theorem Z.grownTo {w : World} {N b : Nat} {F : Nat → Prop} {X : Rv} {L M : Value} {A turn done used : Nat} {ks rs : List Kl} (h : Z w N F b X L M A turn done used ks rs) (t : Nat) : Z (w.setCell ⟨b, 5, none⟩ (.int .i64 (t : Int))) N F b ⟨X.r, X.o, t⟩ L M A turn done used ks rs := by
  have hs : ∀ j, j ≠ b → (w.setCell ⟨b, 5, none⟩ (.int .i64 (t : Int))).heap[j]? = w.heap[j]? := fun j hj => Below.heap_setCell _ _ _ _ hj
  have hr : ∀ {z0 : Bool} {B0 n : Nat} {ty : TypeId} {v : Value} {xs : List Value}, ownsQ z0 w B0 ty 1 v n xs → 70 ≠ ty → ∀ g, v.ownBlock = some g → (w.setCell ⟨b, 5, none⟩ (.int .i64 (t : Int))).heap[g]? = w.heap[g]? := fun hv ht g e => hs g (fun e' => owns_ne hv h.bk.blk ht (by rw [e, e']))
  refine ⟨⟨by rw [block_set h.bk.blk]; rfl, owns_kept' h.bk.ls (hr h.bk.ls (by decide)), owns_kept' h.bk.ms (hr h.bk.ms (by decide)), fun x hx => owns_kept' (h.bk.rows x hx) (hr (h.bk.rows x hx) (by decide)), h.bk.num, h.bk.most, h.bk.one⟩, ⟨owns_kept' h.rz.ls (hr h.rz.ls (by decide)), owns_kept' h.rz.ms (hr h.rz.ms (by decide)), fun x hx => ?_, h.rz.num, h.rz.most, h.rz.one⟩, h.lr, h.mo, h.km⟩
  exact (h.rz.rows x hx).keep (fun g e => hs g (fun e' => rwm_ne (h.rz.rows x hx) h.bk.blk (by decide) (by rw [e, e']))) (fun g cur _ hb => hs g (fun e => by subst e; rw [h.bk.blk] at hb; simp at hb)) (fun _ e => e)
theorem Tryz.infoRw : (Tryz.prog.info? 44).map (fun i => (i.zero, i.size, i.bytes)) = some (some (.slice none 0 0), 1, 24) := by kernel_rfl
end Go.Proofs.YtjcdnclfakmbpaaGreatDoor.V
namespace Go.Proofs.YtjcdnclfakmbpaaGreatDoor.V
open Go.RowKit Go.Proofs.YtjcdnclfakmbpaaGreatDoor.U Go.Proofs.YtjcdnclfakmbpaaGreatDoor.Q
set_option maxRecDepth 100000 in
set_option maxHeartbeats 4000000 in
theorem bk_growRows (w : World) (N b : Nat) (F : Nat → Prop) (X0 : Rv) (L M : Value) (A turn done used : Nat) (ks rs : List Kl) (h : Z w N F b X0 L M A turn done used ks rs) (hF : ∀ g, w.heap.size ≤ g → F g) (hN : N ≤ w.heap.size) (hA : X0.a ≤ rs.length) (hks : rs.length ≤ 4000000) (hl : ∀ j x, X0.a ≤ j → rs[j]? = some x → x.l ≤ 1000000000) :
    Calls Tryz.prog 72 #[.pointer (some ⟨b, 0, none⟩)] w fun e w' => e = .returned (.tuple #[]) ∧ ∃ X rs2, (Z w' N F b X L M A turn done used ks rs2 ∧ Kept (GZ b X0 rs) w w' ∧ X.a = rs2.length) ∧ rs2.length ≤ rs.length + 32 * (rs.length - X0.a) := by
  obtain ⟨i1, hi1, hz10, hz11, hz12⟩ := info_parts Tryz.infoRw
  obtain ⟨i2, hi2, hz20, hz21, hz22⟩ := info_parts Tryz.infoIn
  have HLs := hide hl
  have HFn := hide hF
  have q0 := bk_cell h.bk.blk 3 X0.r rfl
  have q2 := bk_cell h.bk.blk 5 (.int .i64 (X0.a : Int)) rfl
  have HG0 : Hid (∃ r o, Gz w X0 rs w N F b ⟨r, o, X0.a⟩ L M A turn done used ks rs) := ⟨X0.r, X0.o, h, fun _ _ => rfl, Nat.le_refl _, fun x hx g e => Or.inl ⟨x, hx, e⟩, Or.inl rfl, Or.inl rfl, Kept.refl _ _, fun g e => ⟨owns_lt h.bk.ls g e, fun k hk e' => h.lr k hk g e' e⟩, rfl⟩
  obtain ⟨lp, lc, hL0⟩ : ∃ p c, X0.r = .slice p rs.length c := Q.owns_form h.rz.ls
  rw [hL0] at q0
  obtain ⟨a3, ha3⟩ : ∃ a3, X0.a = a3 := ⟨_, rfl⟩
  rw [ha3] at HLs HG0 q2 hA ⊢
  clear h hl hL0 hF ha3
  go_enter Tryz.func72, Tryz.ntmps72
  go_wp2
  clear q0 q2
  go_loopw [3] (fun i wr => ∃ (k : Nat) (r o : Value) (rs2 : List Kl), a3 ≤ k ∧ k ≤ rs.length ∧ i = .int .i64 k ∧ Hid (Gz w X0 rs wr N F b ⟨r, o, a3⟩ L M A turn done used ks rs2) ∧ Hid (rs2.length ≤ rs.length + 32 * (k - a3))) (fun i _ => rs.length - (intOf i).toNat)
  case atStart =>
    obtain ⟨r, o, hg⟩ := HG0.out
    exact ⟨a3, r, o, rs, Nat.le_refl _, hA, rfl, hg, by show _ ≤ _; omega⟩
  case round =>
    clear HG0
    obtain ⟨k, r, o, rs2, hkA, hk, rfl, HG, HC⟩ := hrel
    by_cases hlt : k < rs.length
    · have hop : rs[k]? = some (rs[k]'hlt) := List.getElem?_eq_getElem _
      have hop2 : rs2[k]? = some (rs[k]'hlt) := (HG.out.pre k hlt).trans hop
      have hx9 := HLs.out k _ hkA hop
      have hmem := hide (List.mem_of_getElem? hop2)
      obtain ⟨gl, cl, hgl, cl0⟩ := row_cell HG.out.z.rz.ls (k := k) (a := (rs[k]'hlt).val) (by simp [hop2])
      obtain ⟨gm, cm, hgm, cm0⟩ := row_cell HG.out.z.rz.ms (k := k) (a := .int .i64 ((rs[k]'hlt).m : Int)) (by simp [hop2])
      have q0 := bk_cell HG.out.z.bk.blk 3 r rfl
      have q1 := bk_cell HG.out.z.bk.blk 4 o rfl
      have HCu : Hid (Cz w rs wr N F (rs[k]'hlt).m (rs[k]'hlt).val (rs[k]'hlt).l rs2) := ⟨HG.out.z.rz.rows _ hmem.out, fun x hx q e1 e2 => HG.out.z.rz.one x hx _ hmem.out q e1 e2, HG.out.own _ hmem.out⟩
      obtain ⟨hm9, _⟩ := HG.out.z.rz.num _ hmem.out
      generalize rs[k]'hlt = xk at *
      obtain ⟨p, l, c, m⟩ := xk
      simp only [Kl.val] at cl0 cm0 HCu hm9 hx9
      have hgl' : r = .slice (some ⟨gl, 0, none⟩) rs2.length cl := hgl
      have hgm' : o = .slice (some ⟨gm, 0, none⟩) rs2.length cm := hgm
      rw [hgl'] at q0
      rw [hgm'] at q1
      have HGL := hide hgl'
      have HGM := hide hgm'
      have hl2 := HG.out.len
      have hcnt := HC.out
      clear hop hop2 hmem hgl hgm hgl' hgm'
      have l1 : (k : Int) < (rs2.length : Int) := by omega
      have l2 : (0 : Int) ≤ (k : Int) := by omega
      have l3 : (k : Int) < (rs.length : Int) := by omega
      go_wp2
      clear q0 q1 cl0 cm0 l1
      go_loopw [4, 6] (fun gv i wr => ∃ (i' n : Nat) (v r o : Value) (rs3 : List Kl), 1 ≤ i' ∧ i' ≤ 33 ∧ i = .int .i64 i' ∧ gv = v ∧ Hid (Gz w X0 rs wr N F b ⟨r, o, a3⟩ L M A turn done used ks rs3) ∧ Hid (Cz w rs wr N F m v n rs3) ∧ n + 1 = l + i' ∧ rs3.length + 1 ≤ rs2.length + i') (fun _ i _ => 33 - (intOf i).toNat)
      case atStart => exact ⟨1, l, _, r, o, rs2, by omega, by omega, rfl, rfl, HG, HCu, rfl, Nat.le_refl _⟩
      case round =>
        clear HG HCu HGL HGM
        obtain ⟨i, n, v, r3, o3, rs3, hi1', hi33, rfl, rfl, HG, HCu, hnl, hcn⟩ := hrel
        have HNL := hide hnl
        have hn9 : n + 1 ≤ 1000000033 := by omega
        clear hnl
        by_cases hi32 : i < 33
        · obtain ⟨p3, c3, hv3⟩ := HCu.out.row.form
          subst hv3
          have HA0 := hide (fun w => at_mark w m 0 hm9 (by omega))
          have HA1 := hide (fun w => at_mark w m 1 hm9 (by omega))
          have HNr : Hid (N ≤ wr.heap.size) := Nat.le_trans hN HG.out.kept.size
          have HFr : Hid (F wr.heap.size) := HFn.out _ HG.out.kept.size
          have l4 : (i : Int) ≤ 32 := by omega
          go_wp2_with fail
          refine (HA0.out _).mono ?_
          rintro e wx ⟨rfl, rfl⟩
          go_wp2_with fail
          refine (HA1.out _).mono ?_
          rintro e wx ⟨rfl, rfl⟩
          obtain ⟨wm, hwm⟩ : ∃ wm, wx.alloc (.cells #[.int .u8 (mkB m 0 : Nat), .int .u8 (mkB m 1 : Nat)] 5) = wm := ⟨_, rfl⟩
          have hbm : Below wx.heap.size wx wm := by rw [← hwm]; exact (Below.refl _ _).alloc (Nat.le_refl _) _
          have hsm : wm.heap.size = wx.heap.size + 1 := by rw [← hwm]; simp
          have hMk : Mrk wm F m (.slice (some ⟨wx.heap.size, 0, none⟩) 2 2) := ⟨wx.heap.size, rfl, HFr.out, by rw [← hwm]; exact heap_alloc_new _ _⟩
          have HMk : Hid (Mrk (wm.alloc (.cells #[.slice (some ⟨wx.heap.size, 0, none⟩) 2 2] 31)) F m (.slice (some ⟨wx.heap.size, 0, none⟩) 2 2)) := hMk.keep (fun g cur _ hb => Below.heap_alloc _ _ _ (lt_of_block hb)) (fun _ e => e)
          have HB0 : Hid ((wm.alloc (.cells #[.slice (some ⟨wx.heap.size, 0, none⟩) 2 2] 31)).cell? ⟨wx.heap.size + 1, 0, none⟩ = some (.slice (some ⟨wx.heap.size, 0, none⟩) 2 2)) := by
            rw [← hsm]
            have := heap_alloc_new wm (.cells #[.slice (some ⟨wx.heap.size, 0, none⟩) 2 2] 31 (0, 0))
            show _ = _
            simp only [World.cell?, this]
            rfl
          have HBm : Hid (Below wx.heap.size wx (wm.alloc (.cells #[.slice (some ⟨wx.heap.size, 0, none⟩) 2 2] 31))) := hbm.trans (((Below.refl wm.heap.size wm).alloc (Nat.le_refl _) _).mono hbm.size)
          have HRo : Hid (Rwm (wm.alloc (.cells #[.slice (some ⟨wx.heap.size, 0, none⟩) 2 2] 31)) N F m (.slice p3 n c3) n) := HCu.out.row.keep (fun g e => HBm.out.block g (HCu.out.row.lt g e)) (fun g cur _ hb => HBm.out.block g (lt_of_block hb)) (fun _ e => e)
          have HWm := hide hwm
          have HSm := hide hsm
          clear hwm hbm hMk hsm
          go_upto_region 10 with (first | (at_builtin; rw [HWm.out]; refine wpList_append_row rfl (.tmp 39) (.tmp 45) rfl N m n F (.slice p3 n c3) rfl HRo.out (wx.heap.size + 1) (.slice (some ⟨wx.heap.size, 0, none⟩) 2 2) rfl HB0.out HMk.out (by omega) (by have := HNr.out; have := HSm.out; simp; omega) ?_; intro v4 w4 r1 r2 r3 r4; have hp4 := HG.out.mark HCu.out r1 (by rcases r2 with e | ⟨q, e, hq⟩; exact Or.inl e; exact Or.inr ⟨q, e, by have := HSm.out; simp at hq; omega⟩) ((kept_below (S := fun i => some i = (Value.slice p3 n c3).ownBlock) HBm.out).trans r3 (fun i e => Or.inl e)) (fun u k hu => r4 u k (hu.keep (fun g e => HBm.out.block g (hu.lt g e)) (fun g cur _ hb => HBm.out.block g (lt_of_block hb)) (fun _ e => e))); have HG4 := hide hp4.1; have HC4 := hide hp4.2; clear r1 r2 r3 r4 hp4))
          obtain ⟨p4, k4, hv4⟩ := HC4.out.row.form
          subst hv4
          clear HG HCu HA0 HA1 HB0 HNr HMk HBm HRo HFr
          by_cases hi4 : i < 4
          · have l5 : (i : Int) < 4 := by omega
            have c0 := bk_cell HG4.out.z.bk.blk 3 r3 rfl
            have cf := bk_thaw HG4.out.z.bk.blk
            have HN2 : Hid (N ≤ w4.heap.size) := Nat.le_trans hN HG4.out.kept.size
            go_upto_region 12 with (at_builtin; refine wpList_append_lies _ rfl (.tmp 58) (.tmp 60) 52 rfl N 44 i1 (.slice none 0 0) 1 24 Tryz.underlying52 hi1 hz10 hz11 hz12 rfl (by omega) r3 rs3.length _ rfl (HG4.out.z.rz.ls.row.alloc _) ⟨w4.heap.size, 0, none⟩ 1 1 [.slice p4 (n + 1) k4] rfl rfl (World.news_of_block (heap_alloc_new w4 (.cells #[.slice p4 (n + 1) k4] 44))) (by simp [Value.oneCell']) (by omega) (by unfold maxLen; omega) (by omega) (by have := HN2.out; simp; omega) _ rfl ?_; intro gl cl w5 hown5 hgrow5 hat5 hlt5; have kk5 : Kept (fun i => some i = Value.ownBlock r3) w4 w5 := (kept_below (S := fun i => some i = Value.ownBlock r3) ((Below.refl _ _).alloc (Nat.le_refl _) (.cells #[.slice p4 (n + 1) k4] 44))).trans (kept_grown hgrow5) (fun i e => Or.inl e); have HK5 := hide kk5; have HB5 := hide ((kk5.block b (lt_of_block HG4.out.z.bk.blk) (fun e => owns_ne HG4.out.z.rz.ls HG4.out.z.bk.blk (by decide) e.symm)).trans HG4.out.z.bk.blk); have c50 := bk_cell HB5.out 3 r3 rfl; have cf5 := bk_thaw HB5.out; have HL5 := hide (ownsQ_of (z := false) hown5); have HA5 := hide hat5; clear hown5 hgrow5 hat5 hlt5 kk5)
            have HB6 : Hid ((w5.setCell ⟨b, 3, none⟩ (.slice (some ⟨gl, 0, none⟩) (rs3.length + 1) cl)).heap[b]? = some (.cells (bkCells ⟨.slice (some ⟨gl, 0, none⟩) (rs3.length + 1) cl, o3, a3⟩ L M A turn done used) 70 (0, 0))) := by show _ = _; rw [block_set HB5.out]; rfl
            have HL6 : Hid (ownsQ false (w5.setCell ⟨b, 3, none⟩ (.slice (some ⟨gl, 0, none⟩) (rs3.length + 1) cl)) N 44 1 (.slice (some ⟨gl, 0, none⟩) (rs3.length + 1) cl) (rs3.length + 1) ((rs3.map fun k => k.val) ++ [.slice p4 (n + 1) k4])) := owns_kept' HL5.out (fun g e => Below.heap_setCell _ _ _ _ (fun e' => owns_ne HL5.out HB5.out (by decide) (by rw [e, e'])))
            have HK6 : Hid (Kept (PS b ⟨r3, o3, a3⟩) w4 (w5.setCell ⟨b, 3, none⟩ (.slice (some ⟨gl, 0, none⟩) (rs3.length + 1) cl))) := ((Kept.refl _ _).trans HK5.out (fun i e => Or.inl (Or.inr (Or.inl e)))).trans (kept_but ((But.refl b w5).setCell (p := ⟨b, 3, none⟩) (Or.inl rfl) _)) (fun i e => Or.inl (Or.inl e))
            have HM6 : Hid (ownsQ false (w5.setCell ⟨b, 3, none⟩ (.slice (some ⟨gl, 0, none⟩) (rs3.length + 1) cl)) N 3 1 o3 rs3.length (rs3.map fun k => .int .i64 (k.m : Int))) := owns_kept' HG4.out.z.rz.ms (fun g e => (Below.heap_setCell _ _ _ _ (fun e' => owns_ne HG4.out.z.rz.ms HG4.out.z.bk.blk (by decide) (by rw [e, e']))).trans (HK5.out.block g (owns_lt HG4.out.z.rz.ms g e) (fun e' => rows_far HG4.out.z.rz.ls HG4.out.z.rz.ms (by decide) g e'.symm e)))
            generalize w5.setCell ⟨b, 3, none⟩ (.slice (some ⟨gl, 0, none⟩) (rs3.length + 1) cl) = w6 at *
            clear HK5 HB5 HL5 c50 cf5 c0 cf
            have c1 := bk_cell HB6.out 4 o3 rfl
            have cf := bk_thaw HB6.out
            have HN6 : Hid (N ≤ w6.heap.size) := Nat.le_trans HN2.out HK6.out.size
            go_wp2_with (at_builtin; refine wpList_append_lies _ rfl (.tmp 68) (.tmp 70) 51 rfl N 3 i2 (.int .i64 0) 1 8 Tryz.underlying51 hi2 hz20 hz21 hz22 rfl (by omega) o3 rs3.length _ rfl (HM6.out.row.alloc _) ⟨w6.heap.size, 0, none⟩ 1 1 [.int .i64 (m : Int)] rfl rfl (World.news_of_block (heap_alloc_new w6 (.cells #[.int .i64 (m : Int)] 3))) (by simp [Value.oneCell']) (by omega) (by unfold maxLen; omega) (by omega) (by have := HN6.out; simp; omega) _ rfl ?_; intro gm cm w7 hown7 hgrow7 hat7 hlt7; have kk7 : Kept (fun i => some i = Value.ownBlock o3) w6 w7 := (kept_below (S := fun i => some i = Value.ownBlock o3) ((Below.refl _ _).alloc (Nat.le_refl _) (.cells #[.int .i64 (m : Int)] 3))).trans (kept_grown hgrow7) (fun i e => Or.inl e); have HK7 := hide kk7; have HB7 := hide ((kk7.block b (lt_of_block HB6.out) (fun e => owns_ne HM6.out HB6.out (by decide) e.symm)).trans HB6.out); have c71 := bk_cell HB7.out 4 o3 rfl; have cf7 := bk_thaw HB7.out; have HM7 := hide (ownsQ_of (z := false) hown7); have HA7 := hide hat7; clear hown7 hgrow7 hat7 hlt7 kk7)
            have HB8 : Hid ((w7.setCell ⟨b, 4, none⟩ (.slice (some ⟨gm, 0, none⟩) (rs3.length + 1) cm)).heap[b]? = some (.cells (bkCells ⟨.slice (some ⟨gl, 0, none⟩) (rs3.length + 1) cl, .slice (some ⟨gm, 0, none⟩) (rs3.length + 1) cm, a3⟩ L M A turn done used) 70 (0, 0))) := by show _ = _; rw [block_set HB7.out]; rfl
            have HM8 : Hid (ownsQ false (w7.setCell ⟨b, 4, none⟩ (.slice (some ⟨gm, 0, none⟩) (rs3.length + 1) cm)) N 3 1 (.slice (some ⟨gm, 0, none⟩) (rs3.length + 1) cm) (rs3.length + 1) ((rs3.map fun k => Value.int .i64 (k.m : Int)) ++ [.int .i64 (m : Int)])) := owns_kept' HM7.out (fun g e => Below.heap_setCell _ _ _ _ (fun e' => owns_ne HM7.out HB7.out (by decide) (by rw [e, e'])))
            have HL8 : Hid (ownsQ false (w7.setCell ⟨b, 4, none⟩ (.slice (some ⟨gm, 0, none⟩) (rs3.length + 1) cm)) N 44 1 (.slice (some ⟨gl, 0, none⟩) (rs3.length + 1) cl) (rs3.length + 1) ((rs3.map fun k => k.val) ++ [.slice p4 (n + 1) k4])) := owns_kept' HL6.out (fun g e => (Below.heap_setCell _ _ _ _ (fun e' => owns_ne HL6.out HB6.out (by decide) (by rw [e, e']))).trans (HK7.out.block g (owns_lt HL6.out g e) (fun e' => rows_far HM6.out HL6.out (by decide) g e'.symm e)))
            have HK8 : Hid (Kept (PS b ⟨r3, o3, a3⟩) w4 (w7.setCell ⟨b, 4, none⟩ (.slice (some ⟨gm, 0, none⟩) (rs3.length + 1) cm))) := (HK6.out.trans HK7.out (fun i e => Or.inl (Or.inr (Or.inr e)))).trans (kept_but ((But.refl b w7).setCell (p := ⟨b, 4, none⟩) (Or.inl rfl) _)) (fun i e => Or.inl (Or.inl e))
            have HA5' : Hid ((Value.slice (some ⟨gl, 0, none⟩) (rs3.length + 1) cl).ownBlock = Value.ownBlock r3 ∨ ∃ q, (Value.slice (some ⟨gl, 0, none⟩) (rs3.length + 1) cl).ownBlock = some q ∧ w4.heap.size ≤ q) := by
              rcases HA5.out with h | h
              · exact Or.inl h.symm
              · exact Or.inr ⟨gl, rfl, by simp at h; omega⟩
            have HA7' : Hid ((Value.slice (some ⟨gm, 0, none⟩) (rs3.length + 1) cm).ownBlock = Value.ownBlock o3 ∨ ∃ q, (Value.slice (some ⟨gm, 0, none⟩) (rs3.length + 1) cm).ownBlock = some q ∧ w4.heap.size ≤ q) := by
              rcases HA7.out with h | h
              · exact Or.inl h.symm
              · exact Or.inr ⟨gm, rfl, by have := HK6.out.size; simp at h; omega⟩
            have HP8 := hide (HG4.out.push HC4.out HK8.out HB8.out HL8.out HM8.out ⟨hm9, by omega⟩ (by omega) HA5'.out HA7'.out)
            go_wp2
            go_roundw
            case rel => exact ⟨i + 1, n + 1, _, _, _, _, by omega, by omega, by go_num, rfl, HP8.out.1, HP8.out.2, by have := HNL.out; omega, by simp; omega⟩
            case measure => simp [intOf]; omega
          · have l5 : ¬ (i : Int) < 4 := by omega
            by_cases hi16 : i % 16 = 0
            · have l6 : ((i : Int) % 16 == 0) = true := by simp; omega
              have l7 : (i : Int) % 16 = 0 := by omega
              have c0 := bk_cell HG4.out.z.bk.blk 3 r3 rfl
              have cf := bk_thaw HG4.out.z.bk.blk
              have HN2 : Hid (N ≤ w4.heap.size) := Nat.le_trans hN HG4.out.kept.size
              go_upto_region 12 with (at_builtin; refine wpList_append_lies _ rfl (.tmp 58) (.tmp 60) 52 rfl N 44 i1 (.slice none 0 0) 1 24 Tryz.underlying52 hi1 hz10 hz11 hz12 rfl (by omega) r3 rs3.length _ rfl (HG4.out.z.rz.ls.row.alloc _) ⟨w4.heap.size, 0, none⟩ 1 1 [.slice p4 (n + 1) k4] rfl rfl (World.news_of_block (heap_alloc_new w4 (.cells #[.slice p4 (n + 1) k4] 44))) (by simp [Value.oneCell']) (by omega) (by unfold maxLen; omega) (by omega) (by have := HN2.out; simp; omega) _ rfl ?_; intro gl cl w5 hown5 hgrow5 hat5 hlt5; have kk5 : Kept (fun i => some i = Value.ownBlock r3) w4 w5 := (kept_below (S := fun i => some i = Value.ownBlock r3) ((Below.refl _ _).alloc (Nat.le_refl _) (.cells #[.slice p4 (n + 1) k4] 44))).trans (kept_grown hgrow5) (fun i e => Or.inl e); have HK5 := hide kk5; have HB5 := hide ((kk5.block b (lt_of_block HG4.out.z.bk.blk) (fun e => owns_ne HG4.out.z.rz.ls HG4.out.z.bk.blk (by decide) e.symm)).trans HG4.out.z.bk.blk); have c50 := bk_cell HB5.out 3 r3 rfl; have cf5 := bk_thaw HB5.out; have HL5 := hide (ownsQ_of (z := false) hown5); have HA5 := hide hat5; clear hown5 hgrow5 hat5 hlt5 kk5)
              have HB6 : Hid ((w5.setCell ⟨b, 3, none⟩ (.slice (some ⟨gl, 0, none⟩) (rs3.length + 1) cl)).heap[b]? = some (.cells (bkCells ⟨.slice (some ⟨gl, 0, none⟩) (rs3.length + 1) cl, o3, a3⟩ L M A turn done used) 70 (0, 0))) := by show _ = _; rw [block_set HB5.out]; rfl
              have HL6 : Hid (ownsQ false (w5.setCell ⟨b, 3, none⟩ (.slice (some ⟨gl, 0, none⟩) (rs3.length + 1) cl)) N 44 1 (.slice (some ⟨gl, 0, none⟩) (rs3.length + 1) cl) (rs3.length + 1) ((rs3.map fun k => k.val) ++ [.slice p4 (n + 1) k4])) := owns_kept' HL5.out (fun g e => Below.heap_setCell _ _ _ _ (fun e' => owns_ne HL5.out HB5.out (by decide) (by rw [e, e'])))
              have HK6 : Hid (Kept (PS b ⟨r3, o3, a3⟩) w4 (w5.setCell ⟨b, 3, none⟩ (.slice (some ⟨gl, 0, none⟩) (rs3.length + 1) cl))) := ((Kept.refl _ _).trans HK5.out (fun i e => Or.inl (Or.inr (Or.inl e)))).trans (kept_but ((But.refl b w5).setCell (p := ⟨b, 3, none⟩) (Or.inl rfl) _)) (fun i e => Or.inl (Or.inl e))
              have HM6 : Hid (ownsQ false (w5.setCell ⟨b, 3, none⟩ (.slice (some ⟨gl, 0, none⟩) (rs3.length + 1) cl)) N 3 1 o3 rs3.length (rs3.map fun k => .int .i64 (k.m : Int))) := owns_kept' HG4.out.z.rz.ms (fun g e => (Below.heap_setCell _ _ _ _ (fun e' => owns_ne HG4.out.z.rz.ms HG4.out.z.bk.blk (by decide) (by rw [e, e']))).trans (HK5.out.block g (owns_lt HG4.out.z.rz.ms g e) (fun e' => rows_far HG4.out.z.rz.ls HG4.out.z.rz.ms (by decide) g e'.symm e)))
              generalize w5.setCell ⟨b, 3, none⟩ (.slice (some ⟨gl, 0, none⟩) (rs3.length + 1) cl) = w6 at *
              clear HK5 HB5 HL5 c50 cf5 c0 cf
              have c1 := bk_cell HB6.out 4 o3 rfl
              have cf := bk_thaw HB6.out
              have HN6 : Hid (N ≤ w6.heap.size) := Nat.le_trans HN2.out HK6.out.size
              go_wp2_with (at_builtin; refine wpList_append_lies _ rfl (.tmp 68) (.tmp 70) 51 rfl N 3 i2 (.int .i64 0) 1 8 Tryz.underlying51 hi2 hz20 hz21 hz22 rfl (by omega) o3 rs3.length _ rfl (HM6.out.row.alloc _) ⟨w6.heap.size, 0, none⟩ 1 1 [.int .i64 (m : Int)] rfl rfl (World.news_of_block (heap_alloc_new w6 (.cells #[.int .i64 (m : Int)] 3))) (by simp [Value.oneCell']) (by omega) (by unfold maxLen; omega) (by omega) (by have := HN6.out; simp; omega) _ rfl ?_; intro gm cm w7 hown7 hgrow7 hat7 hlt7; have kk7 : Kept (fun i => some i = Value.ownBlock o3) w6 w7 := (kept_below (S := fun i => some i = Value.ownBlock o3) ((Below.refl _ _).alloc (Nat.le_refl _) (.cells #[.int .i64 (m : Int)] 3))).trans (kept_grown hgrow7) (fun i e => Or.inl e); have HK7 := hide kk7; have HB7 := hide ((kk7.block b (lt_of_block HB6.out) (fun e => owns_ne HM6.out HB6.out (by decide) e.symm)).trans HB6.out); have c71 := bk_cell HB7.out 4 o3 rfl; have cf7 := bk_thaw HB7.out; have HM7 := hide (ownsQ_of (z := false) hown7); have HA7 := hide hat7; clear hown7 hgrow7 hat7 hlt7 kk7)
              have HB8 : Hid ((w7.setCell ⟨b, 4, none⟩ (.slice (some ⟨gm, 0, none⟩) (rs3.length + 1) cm)).heap[b]? = some (.cells (bkCells ⟨.slice (some ⟨gl, 0, none⟩) (rs3.length + 1) cl, .slice (some ⟨gm, 0, none⟩) (rs3.length + 1) cm, a3⟩ L M A turn done used) 70 (0, 0))) := by show _ = _; rw [block_set HB7.out]; rfl
              have HM8 : Hid (ownsQ false (w7.setCell ⟨b, 4, none⟩ (.slice (some ⟨gm, 0, none⟩) (rs3.length + 1) cm)) N 3 1 (.slice (some ⟨gm, 0, none⟩) (rs3.length + 1) cm) (rs3.length + 1) ((rs3.map fun k => Value.int .i64 (k.m : Int)) ++ [.int .i64 (m : Int)])) := owns_kept' HM7.out (fun g e => Below.heap_setCell _ _ _ _ (fun e' => owns_ne HM7.out HB7.out (by decide) (by rw [e, e'])))
              have HL8 : Hid (ownsQ false (w7.setCell ⟨b, 4, none⟩ (.slice (some ⟨gm, 0, none⟩) (rs3.length + 1) cm)) N 44 1 (.slice (some ⟨gl, 0, none⟩) (rs3.length + 1) cl) (rs3.length + 1) ((rs3.map fun k => k.val) ++ [.slice p4 (n + 1) k4])) := owns_kept' HL6.out (fun g e => (Below.heap_setCell _ _ _ _ (fun e' => owns_ne HL6.out HB6.out (by decide) (by rw [e, e']))).trans (HK7.out.block g (owns_lt HL6.out g e) (fun e' => rows_far HM6.out HL6.out (by decide) g e'.symm e)))
              have HK8 : Hid (Kept (PS b ⟨r3, o3, a3⟩) w4 (w7.setCell ⟨b, 4, none⟩ (.slice (some ⟨gm, 0, none⟩) (rs3.length + 1) cm))) := (HK6.out.trans HK7.out (fun i e => Or.inl (Or.inr (Or.inr e)))).trans (kept_but ((But.refl b w7).setCell (p := ⟨b, 4, none⟩) (Or.inl rfl) _)) (fun i e => Or.inl (Or.inl e))
              have HA5' : Hid ((Value.slice (some ⟨gl, 0, none⟩) (rs3.length + 1) cl).ownBlock = Value.ownBlock r3 ∨ ∃ q, (Value.slice (some ⟨gl, 0, none⟩) (rs3.length + 1) cl).ownBlock = some q ∧ w4.heap.size ≤ q) := by
                rcases HA5.out with h | h
                · exact Or.inl h.symm
                · exact Or.inr ⟨gl, rfl, by simp at h; omega⟩
              have HA7' : Hid ((Value.slice (some ⟨gm, 0, none⟩) (rs3.length + 1) cm).ownBlock = Value.ownBlock o3 ∨ ∃ q, (Value.slice (some ⟨gm, 0, none⟩) (rs3.length + 1) cm).ownBlock = some q ∧ w4.heap.size ≤ q) := by
                rcases HA7.out with h | h
                · exact Or.inl h.symm
                · exact Or.inr ⟨gm, rfl, by have := HK6.out.size; simp at h; omega⟩
              have HP8 := hide (HG4.out.push HC4.out HK8.out HB8.out HL8.out HM8.out ⟨hm9, by omega⟩ (by omega) HA5'.out HA7'.out)
              go_wp2
              go_roundw
              case rel => exact ⟨i + 1, n + 1, _, _, _, _, by omega, by omega, by go_num, rfl, HP8.out.1, HP8.out.2, by have := HNL.out; omega, by simp; omega⟩
              case measure => simp [intOf]; omega
            · have l6 : ((i : Int) % 16 == 0) = false := by simp; omega
              have l7 : ¬ (i : Int) % 16 = 0 := by omega
              go_wp2
              go_roundw
              case rel => exact ⟨i + 1, n + 1, _, _, _, _, by omega, by omega, by go_num, rfl, HG4, HC4, by have := HNL.out; omega, by omega⟩
              case measure => simp [intOf]; omega
        · have l4 : ¬ (i : Int) ≤ 32 := by omega
          go_wp2
          go_roundw
          case rel => exact ⟨k + 1, r3, o3, rs3, by omega, by omega, by go_num, HG, by show _ ≤ _; omega⟩
          case measure => simp [intOf]; omega
    · have q0 := bk_cell HG.out.z.bk.blk 3 r rfl
      have cf := bk_thaw HG.out.z.bk.blk
      have q2 := bk_cell HG.out.z.bk.blk 5 (.int .i64 (a3 : Int)) rfl
      obtain ⟨lp2, lc2, hL2⟩ : ∃ p c, r = .slice p rs2.length c := Q.owns_form HG.out.z.rz.ls
      have HZ2 := hide (HG.out.z.grownTo rs2.length)
      have HK2 : Hid (Kept (GZ b X0 rs) w (wr.setCell ⟨b, 5, none⟩ (.int .i64 (rs2.length : Int)))) := HG.out.kept.trans (kept_but ((But.refl b wr).setCell (p := ⟨b, 5, none⟩) (Or.inl rfl) _)) (fun i e => Or.inl (Or.inl e))
      have HCf : Hid (rs2.length ≤ rs.length + 32 * (rs.length - a3)) := by show _ ≤ _; have := HC.out; omega
      rw [hL2] at q0
      have l1 : ¬ (k : Int) < (rs.length : Int) := by omega
      go_wp2
      go_end0
      exact ⟨rfl, _, rs2, ⟨HZ2.out, HK2.out, rfl⟩, HCf.out⟩
end Go.Proofs.YtjcdnclfakmbpaaGreatDoor.V
namespace Go.Proofs.YtjcdnclfakmbpaaGreatDoor.V
open Go.RowKit Go.Proofs.YtjcdnclfakmbpaaGreatDoor.U Go.Proofs.YtjcdnclfakmbpaaGreatDoor.Q
set_option maxRecDepth 100000 in
set_option maxHeartbeats 1000000 in
theorem two_mrk (w : World) (g m : Nat) (hm : m ≤ 1000000000) (hb : w.heap[g]? = some (.cells #[.int .u8 (mkB m 0 : Nat), .int .u8 (mkB m 1 : Nat)] 5 (0, 0))) :
    Calls Tryz.prog 107 #[.slice (some ⟨g, 0, none⟩) 2 2, .int .i64 (m : Int)] w fun e w' => e = .returned (.bool true) ∧ ∃ q, w' = w.drewN q := by
  have c0 : w.cell? ⟨g, 0, none⟩ = some (.int .u8 (mkB m 0 : Nat)) := by simp [World.cell?, hb]
  have c1 : w.cell? ⟨g, 1, none⟩ = some (.int .u8 (mkB m 1 : Nat)) := by simp [World.cell?, hb]
  have HA0 := hide (fun w => at_mark w m 0 hm (by omega))
  have HA1 := hide (fun w => at_mark w m 1 hm (by omega))
  generalize mkB m 0 = x0 at *
  generalize mkB m 1 = x1 at *
  clear hb
  have hz : ∀ (z : Int), (z == z) = true := fun z => by simp
  have e0 : ((x0 : Int) == (x0 : Int)) = true := hz _
  have e1 : ((x1 : Int) == (x1 : Int)) = true := hz _
  have HA0' : Hid (∀ w, Calls Tryz.prog 64 #[.int .i64 (m : Int), .int .i64 0] w fun e w' => e = .returned (.int .u8 (x0 : Int)) ∧ w' = w) := HA0
  have HA1' : Hid (∀ w, Calls Tryz.prog 64 #[.int .i64 (m : Int), .int .i64 1] w fun e w' => e = .returned (.int .u8 (x1 : Int)) ∧ w' = w) := HA1
  clear HA0 HA1
  go_enter Tryz.func107, Tryz.ntmps107
  go_upto_region 1 with (fail)
  go_big_quiet (first | (go_at_call 64; with_reducible exact Calls.quiet_of_same (HA0'.out _)) | (go_at_call 64; with_reducible exact Calls.quiet_of_same (HA1'.out _)))
  go_wp2
  go_ret
  exact ⟨rfl, nq, rfl⟩
end Go.Proofs.YtjcdnclfakmbpaaGreatDoor.V
namespace Go.Proofs.YtjcdnclfakmbpaaGreatDoor.V
open Go.RowKit Go.Proofs.YtjcdnclfakmbpaaGreatDoor.U Go.Proofs.YtjcdnclfakmbpaaGreatDoor.Q
set_option maxRecDepth 100000 in
set_option maxHeartbeats 2000000 in
theorem bk_plain (w : World) (N b : Nat) (F : Nat → Prop) (X : Rv) (L M : Value) (A turn done used : Nat) (ks rs : List Kl) (hz : Z w N F b X L M A turn done used ks rs) :
    Calls Tryz.prog 66 #[.pointer (some ⟨b, 0, none⟩)] w fun e w' => e = .returned (.bool true) ∧ ∃ q, w' = w.drewN q := by
  have h := hz.bk
  have HK := hide h
  have HR0 := hide hz.rz
  have hrmost := hz.rz.most
  obtain ⟨rp, rc, hXr⟩ : ∃ p c, X.r = .slice p rs.length c := Q.owns_form hz.rz.ls
  obtain ⟨op, oc, hXo⟩ : ∃ p c, X.o = .slice p rs.length c := Q.owns_form hz.rz.ms
  have q4 := bk_cell h.blk 4 X.o rfl
  have q0 := bk_cell h.blk 0 L rfl
  have q1 := bk_cell h.blk 1 M rfl
  have q3 := bk_cell h.blk 3 X.r rfl
  rw [hXr] at q3
  rw [hXo] at q4
  obtain ⟨lp, lc, hL⟩ : ∃ p c, L = .slice p ks.length c := by
    rcases h.ls.2 with ⟨h1, h2⟩ | ⟨g, cap, cur, h1, _⟩
    · exact ⟨none, 0, by rw [h1, h2]⟩
    · exact ⟨_, cap, h1⟩
  obtain ⟨mp, mc, hM⟩ : ∃ p c, M = .slice p ks.length c := by
    rcases h.ms.2 with ⟨h1, h2⟩ | ⟨g, cap, cur, h1, _⟩
    · exact ⟨none, 0, by rw [h1, h2]⟩
    · exact ⟨_, cap, h1⟩
  have hmost := h.most
  subst hL
  subst hM
  have HXr := hide hXr
  have HXo := hide hXo
  clear h hz hXr hXo
  go_enter Tryz.func66, Tryz.ntmps66
  go_wp2
  go_loopw [3] (fun i wr => ∃ (j q : Nat), j ≤ ks.length ∧ i = .int .i64 j ∧ Hid (wr = w.drewN q)) (fun i _ => ks.length - (intOf i).toNat)
  case atStart => exact ⟨0, 0, Nat.zero_le _, rfl, rfl⟩
  case round =>
    obtain ⟨j, q, hj, rfl, HW⟩ := hrel
    have e0 : wr.cell? ⟨b, 0, none⟩ = some (.slice lp ks.length lc) := by rw [HW.out]; exact q0
    have e1 : wr.cell? ⟨b, 1, none⟩ = some (.slice mp ks.length mc) := by rw [HW.out]; exact q1
    have e3 : wr.cell? ⟨b, 3, none⟩ = some (.slice rp rs.length rc) := by rw [HW.out]; exact q3
    by_cases hlt : j < ks.length
    · have hop : ks[j]? = some (ks[j]'hlt) := List.getElem?_eq_getElem _
      obtain ⟨gl, _, hgl, cl0⟩ := row_cell HK.out.ls (k := j) (a := (ks[j]'hlt).val) (by simp [hop])
      obtain ⟨gm, _, hgm, cm0⟩ := row_cell HK.out.ms (k := j) (a := .int .i64 ((ks[j]'hlt).m : Int)) (by simp [hop])
      cases hgl
      cases hgm
      have HR := hide (HK.out.rows _ (List.mem_of_getElem? hop))
      obtain ⟨n1, n2⟩ := HK.out.num _ (List.mem_of_getElem? hop)
      generalize ks[j]'hlt = kl at *
      obtain ⟨p, l, c, m⟩ := kl
      simp only [Kl.val] at cl0 cm0 HR n1 n2
      clear hop
      have l1 : (j : Int) < (ks.length : Int) := by omega
      have l2 : (0 : Int) ≤ (j : Int) := by omega
      go_wp2
      go_loopw [4] (fun i wr => ∃ (i' q : Nat), i' ≤ l ∧ i = .int .i64 i' ∧ Hid (wr = w.drewN q)) (fun i _ => l - (intOf i).toNat)
      case atStart => exact ⟨0, q, Nat.zero_le _, rfl, HW⟩
      case round =>
        clear e0 e1 e3 HW
        obtain ⟨i, q2, hi, rfl, HW⟩ := hrel
        have e0 : wr.cell? ⟨b, 0, none⟩ = some (.slice (some ⟨gl, 0, none⟩) ks.length lc) := by rw [HW.out]; exact q0
        have e1 : wr.cell? ⟨b, 1, none⟩ = some (.slice (some ⟨gm, 0, none⟩) ks.length mc) := by rw [HW.out]; exact q1
        have cl : wr.cell? ⟨gl, j, none⟩ = some (.slice p l c) := by rw [HW.out]; exact cl0
        have cm : wr.cell? ⟨gm, j, none⟩ = some (.int .i64 (m : Int)) := by rw [HW.out]; exact cm0
        by_cases hil : i < l
        · obtain ⟨gx, _, hgx, cx0⟩ := row_cell HR.out (k := i) (a := .int .u8 (mkB m i : Nat)) (by simp [vals, mks, hil])
          cases hgx
          have cx : wr.cell? ⟨gx, i, none⟩ = some (.int .u8 (mkB m i : Nat)) := by rw [HW.out]; exact cx0
          have HA := hide (fun w => at_mark w m i n1 (by omega))
          have hx := mkB_lt m i
          generalize mkB m i = x at *
          have l3 : (i : Int) < (l : Int) := by omega
          have l4 : (0 : Int) ≤ (i : Int) := by omega
          go_wp2
          go_quiet (first | (go_at_call 64; exact Calls.quiet_of_same (HA.out _)))
          go_wp2
          go_roundw
          case rel => exact ⟨i + 1, q2 + nq, by omega, by go_num, by show _ = _; rw [HW.out, World.drewN_drewN]⟩
          case measure => simp [intOf]; omega
        · have l3 : ¬ (i : Int) < (l : Int) := by omega
          go_wp2
          go_roundw
          case rel => exact ⟨j + 1, q2, by omega, by go_num, HW⟩
          case measure => simp [intOf]; omega
    · have l1 : ¬ (j : Int) < (ks.length : Int) := by omega
      go_wp2
      clear e0 e1 e3
      go_loopw [5] (fun i wr => ∃ (j q : Nat), j ≤ rs.length ∧ i = .int .i64 j ∧ Hid (wr = w.drewN q)) (fun i _ => rs.length - (intOf i).toNat)
      case atStart => exact ⟨0, q, Nat.zero_le _, rfl, HW⟩
      case round =>
        clear HW
        obtain ⟨j, q, hj, rfl, HW⟩ := hrel
        have e3 : wr.cell? ⟨b, 3, none⟩ = some (.slice rp rs.length rc) := by rw [HW.out]; exact q3
        have e4 : wr.cell? ⟨b, 4, none⟩ = some (.slice op rs.length oc) := by rw [HW.out]; exact q4
        by_cases hlt : j < rs.length
        · have hop : rs[j]? = some (rs[j]'hlt) := List.getElem?_eq_getElem _
          obtain ⟨gl, _, hgl, cl0⟩ := row_cell HR0.out.ls (k := j) (a := (rs[j]'hlt).val) (by simp [hop])
          obtain ⟨gm, _, hgm, cm0⟩ := row_cell HR0.out.ms (k := j) (a := .int .i64 ((rs[j]'hlt).m : Int)) (by simp [hop])
          rw [HXr.out] at hgl
          rw [HXo.out] at hgm
          cases hgl
          cases hgm
          obtain ⟨vs, hvs1, hvs2⟩ := HR0.out.rows _ (List.mem_of_getElem? hop)
          obtain ⟨n1, n2⟩ := HR0.out.num _ (List.mem_of_getElem? hop)
          have HV1 := hide hvs1
          have HV2 := hide hvs2
          clear hvs1 hvs2
          generalize rs[j]'hlt = kl at *
          obtain ⟨p, l, c, m⟩ := kl
          simp only [Kl.val] at cl0 cm0 HV1 HV2 n1 n2
          clear hop
          have l1 : (j : Int) < (rs.length : Int) := by omega
          have l2 : (0 : Int) ≤ (j : Int) := by omega
          go_wp2
          go_loopw [6] (fun i wr => ∃ (i' q : Nat), i' ≤ l ∧ i = .int .i64 i' ∧ Hid (wr = w.drewN q)) (fun i _ => l - (intOf i).toNat)
          case atStart => exact ⟨0, q, Nat.zero_le _, rfl, HW⟩
          case round =>
            clear e3 e4 HW
            obtain ⟨i, q2, hi, rfl, HW⟩ := hrel
            have e3 : wr.cell? ⟨b, 3, none⟩ = some (.slice (some ⟨gl, 0, none⟩) rs.length rc) := by rw [HW.out]; exact q3
            have e4 : wr.cell? ⟨b, 4, none⟩ = some (.slice (some ⟨gm, 0, none⟩) rs.length oc) := by rw [HW.out]; exact q4
            have cl : wr.cell? ⟨gl, j, none⟩ = some (.slice p l c) := by rw [HW.out]; exact cl0
            have cm : wr.cell? ⟨gm, j, none⟩ = some (.int .i64 (m : Int)) := by rw [HW.out]; exact cm0
            by_cases hil : i < l
            · have hvl : vs.length = l := by have := HV1.out.1; omega
              have hvi : vs[i]? = some (vs[i]'(by omega)) := List.getElem?_eq_getElem _
              obtain ⟨gx, _, hgx, cx0⟩ := row_cell HV1.out (k := i) hvi
              obtain ⟨g2, hg2, _, hm2⟩ := HV2.out _ (List.mem_of_getElem? hvi)
              cases hgx
              rw [hg2] at cx0
              have cx : wr.cell? ⟨gx, i, none⟩ = some (.slice (some ⟨g2, 0, none⟩) 2 2) := by rw [HW.out]; exact cx0
              have HTw : Hid (∀ n, Calls Tryz.prog 107 #[.slice (some ⟨g2, 0, none⟩) 2 2, .int .i64 (m : Int)] (wr.drewN n) fun e w' => e = .returned (.bool true) ∧ ∃ k, w' = (wr.drewN n).drewN k) := fun n => two_mrk _ g2 m n1 (by rw [HW.out]; exact hm2)
              clear hvi hvl hm2 hg2
              have l3 : (i : Int) < (l : Int) := by omega
              have l4 : (0 : Int) ≤ (i : Int) := by omega
              go_wp2
              go_quiet (first | (go_at_call 107; exact Calls.quiet_of (HTw.out _)))
              go_wp2
              go_roundw
              case rel => exact ⟨i + 1, q2 + nq, by omega, by go_num, by show _ = _; rw [HW.out, World.drewN_drewN]⟩
              case measure => simp [intOf]; omega
            · have l3 : ¬ (i : Int) < (l : Int) := by omega
              go_wp2
              go_roundw
              case rel => exact ⟨j + 1, q2, by omega, by go_num, HW⟩
              case measure => simp [intOf]; omega
        · have l1 : ¬ (j : Int) < (rs.length : Int) := by omega
          go_wp2
          go_ret
          exact ⟨rfl, q, HW.out⟩
end Go.Proofs.YtjcdnclfakmbpaaGreatDoor.V
namespace Go.Proofs.YtjcdnclfakmbpaaGreatDoor.V
open Go.RowKit Go.Proofs.YtjcdnclfakmbpaaGreatDoor.U Go.Proofs.YtjcdnclfakmbpaaGreatDoor.Q
theorem Z.draws {w : World} {N b : Nat} {F : Nat → Prop} {X : Rv} {L M : Value} {A turn done used : Nat} {ks rs : List Kl} (h : Z w N F b X L M A turn done used ks rs) (q : Nat) : Z (w.drewN q) N F b X L M A turn done used ks rs := ⟨h.bk.draws q, h.rz.draws q, h.lr, h.mo, h.km⟩
theorem lies_lt {w : World} {L L' : Value} (h : L'.ownBlock = L.ownBlock ∨ ∃ g, L'.ownBlock = some g ∧ w.heap.size ≤ g) (g : Nat) (e : L'.ownBlock = some g) : L.ownBlock = some g ∨ w.heap.size ≤ g := by
  rcases h with e' | ⟨g', e', hg⟩
  · exact Or.inl (by rw [← e', e])
  · rw [e'] at e; cases e; exact Or.inr hg
theorem Z.turn {w w' : World} {N b : Nat} {F : Nat → Prop} {X : Rv} {L M L' M' : Value} {A turn done used A' turn' done' used' : Nat} {ks ks' rs : List Kl} {S : Nat → Prop} (h : Z w N F b X L M A turn done used ks rs) (hb : Bk X w' N b L' M' A' turn' done' used' ks') (k : Kept S w w') (hS : ∀ i, i < w.heap.size → S i → i = b ∨ some i = L.ownBlock ∨ some i = M.ownBlock ∨ (∃ cur fz, w.heap[i]? = some (.cells cur 5 fz)) ∧ ¬ F i)
    (hL : L'.ownBlock = L.ownBlock ∨ ∃ g, L'.ownBlock = some g ∧ w.heap.size ≤ g) (hM : M'.ownBlock = M.ownBlock ∨ ∃ g, M'.ownBlock = some g ∧ w.heap.size ≤ g) (hk : ∀ x ∈ ks', ∀ g, x.val.ownBlock = some g → ¬ F g) : Z w' N F b X L' M' A' turn' done' used' ks' rs := by
  have hn : ∀ {z : Bool} {B n : Nat} {ty : TypeId} {v : Value} {xs : List Value}, ownsQ z w B ty 1 v n xs → ty ≠ 70 → ty ≠ 5 → (∀ g, v.ownBlock = some g → L.ownBlock ≠ some g) → (∀ g, v.ownBlock = some g → M.ownBlock ≠ some g) → ∀ g, v.ownBlock = some g → ¬ S g := fun hv h1 h2 h3 h4 g e hs => by
    rcases hS g (owns_lt hv g e) hs with e' | e' | e' | ⟨⟨cur, fz, e'⟩, _⟩
    · subst e'; exact owns_ne hv h.bk.blk (fun e => h1 e.symm) e
    · exact h3 g e e'.symm
    · exact h4 g e e'.symm
    · exact owns_ne hv e' (fun e => h2 e.symm) e
  refine ⟨hb, h.rz.keep k (hn h.rz.ls (by decide) (by decide) (fun g e => rows_far0 h.rz.ls h.bk.ls (by decide) g e) (fun g e => rows_far0 h.rz.ls h.bk.ms (by decide) g e)) (hn h.rz.ms (by decide) (by decide) (fun g e => rows_far0 h.rz.ms h.bk.ls (by decide) g e) h.mo) (fun x hx g e => ?_) (fun g cur hf hc hs => ?_), fun x hx g e e' => ?_, fun g e e' => ?_, hk⟩
  · obtain ⟨vs, h1, _⟩ := h.rz.rows x hx
    exact hn h1 (by decide) (by decide) (h.lr x hx) (fun g e => rows_far0 h1 h.bk.ms (by decide) g e) g e
  · rcases hS g (lt_of_block hc) hs with e' | e' | e' | ⟨_, e'⟩
    · subst e'; rw [h.bk.blk] at hc; simp at hc
    · exact owns_ne h.bk.ls hc (by decide) e'.symm
    · exact owns_ne h.bk.ms hc (by decide) e'.symm
    · exact e' hf
  · rcases lies_lt hL g e' with q | q
    · exact h.lr x hx g e q
    · have := (h.rz.rows x hx).lt g e; omega
  · rcases lies_lt hM g e' with q | q
    · exact h.mo g e q
    · have := owns_lt h.rz.ms g e; omega
theorem bz_bytes (w : World) (N b : Nat) (F : Nat → Prop) (X : Rv) (L M : Value) (A turn done used : Nat) (ks rs : List Kl) (p : Option Addr) (len c : Nat) (ys : List Nat) (h : Z w N F b X L M A turn done used ks rs) (hrow : ownsQ true w N 5 1 (.slice p len c) len (vals ys)) (hfar : ∀ k ∈ ks, Far (.slice p len c) k.val) (hpF : ∀ g, (Value.slice p len c).ownBlock = some g → ¬ F g) (hN : N ≤ w.heap.size) (ht : turn + 1 ≤ 1000000000) (hlen : len ≤ 140737488355328) (hu : used ≤ 16777216) (hks : ks.length + 1 ≤ 1000000000) :
    Calls Tryz.prog 30 #[.pointer (some ⟨b, 0, none⟩), .slice p len c] w fun e w' => e = .returned (.tuple #[]) ∧ ∃ L' M' used' ks', Z w' N F b X L' M' A (turn + 1) done used' ks' rs ∧ used' ≤ 16777216 ∧ (ks' = ks ∨ (ks' = ks ++ [⟨p, len, c, turn + 1⟩] ∧ len ≤ 16777216)) ∧ Kept (BkS b L M (.slice p len c)) w w' ∧ (L'.ownBlock = L.ownBlock ∨ ∃ g, L'.ownBlock = some g ∧ w.heap.size ≤ g) ∧ (M'.ownBlock = M.ownBlock ∨ ∃ g, M'.ownBlock = some g ∧ w.heap.size ≤ g) := by
  refine (bk_bytes w N b L M A turn done used ks p len c ys h.bk hrow hfar hN ht hlen hu hks).mono ?_
  rintro e w' ⟨rfl, L', M', used', ks', hb, hu', hks', hk, hL, hM⟩
  refine ⟨rfl, L', M', used', ks', h.turn hb hk (fun i hi e => ?_) hL hM (fun x hx g e => ?_), hu', hks', hk, hL, hM⟩
  · rcases e with e | e | e | e
    · exact Or.inl e
    · exact Or.inr (Or.inl e)
    · exact Or.inr (Or.inr (Or.inl e))
    · exact Or.inr (Or.inr (Or.inr ⟨owns_block hrow i e.symm, hpF i e.symm⟩))
  · rcases hks' with rfl | ⟨rfl, _⟩
    · exact h.km x hx g e
    · rcases List.mem_append.1 hx with h' | h'
      · exact h.km x h' g e
      · simp at h'; subst h'; exact hpF g e
set_option maxRecDepth 100000 in
set_option maxHeartbeats 400000 in
theorem bz_holds (w : World) (N b : Nat) (F : Nat → Prop) (X : Rv) (L M : Value) (A turn done used : Nat) (ks rs : List Kl) (h : Z w N F b X L M A turn done used ks rs) :
    Calls Tryz.prog 31 #[.pointer (some ⟨b, 0, none⟩)] w fun e w' => e = .returned (.bool true) ∧ ∃ q, w' = w.drewN q := by
  have HK := hide h
  clear h
  go_enter Tryz.func31, Tryz.ntmps31
  go_wp2_with fail
  refine (bk_plain w N b F X L M A turn done used ks rs HK.out).mono ?_
  rintro e w1 ⟨rfl, q, rfl⟩
  have HB : Hid ((w.drewN q).heap[b]? = some (.cells (bkCells X L M A turn done used) 70 (0, 0))) := HK.out.bk.blk
  generalize hw : w.drewN q = w1 at *
  have HW := hide hw
  clear hw
  go_wp2_with fail
  refine (bk_kept w1 b L M A turn done used HB.out).mono ?_
  rintro e w2 ⟨rfl, rfl⟩
  go_wp2_with fail
  refine (bk_told _ b L M A turn done used HB.out).mono ?_
  rintro e w2 ⟨rfl, rfl⟩
  go_wp2_with fail
  refine (bk_held _ b L M A turn done used HB.out).mono ?_
  rintro e w2 ⟨rfl, rfl⟩
  go_wp2_with fail
  refine (bk_sent _ b L M A turn done used HB.out).mono ?_
  rintro e w2 ⟨rfl, rfl⟩
  go_wp2
  go_ret
  exact ⟨rfl, q, HW.out.symm⟩
def SZ (b : Nat) (X : Rv) (L M : Value) (ks rs : List Kl) (i : Nat) : Prop := GS b L M ks i ∨ GZ b X rs i
theorem Z.doneTo {w : World} {N b : Nat} {F : Nat → Prop} {X : Rv} {L M : Value} {A turn done used : Nat} {ks rs : List Kl} (h : Z w N F b X L M A turn done used ks rs) (t : Nat) : Z (w.setCell ⟨b, 55, none⟩ (.int .i64 (t : Int))) N F b X L M A turn t used ks rs := by
  have hs : ∀ j, j ≠ b → (w.setCell ⟨b, 55, none⟩ (.int .i64 (t : Int))).heap[j]? = w.heap[j]? := fun j hj => Below.heap_setCell _ _ _ _ hj
  have hr : ∀ {z0 : Bool} {B0 n : Nat} {ty : TypeId} {v : Value} {xs : List Value}, ownsQ z0 w B0 ty 1 v n xs → 70 ≠ ty → ∀ g, v.ownBlock = some g → (w.setCell ⟨b, 55, none⟩ (.int .i64 (t : Int))).heap[g]? = w.heap[g]? := fun hv ht g e => hs g (fun e' => owns_ne hv h.bk.blk ht (by rw [e, e']))
  refine ⟨⟨by rw [block_set h.bk.blk]; rfl, owns_kept' h.bk.ls (hr h.bk.ls (by decide)), owns_kept' h.bk.ms (hr h.bk.ms (by decide)), fun x hx => owns_kept' (h.bk.rows x hx) (hr (h.bk.rows x hx) (by decide)), h.bk.num, h.bk.most, h.bk.one⟩, ⟨owns_kept' h.rz.ls (hr h.rz.ls (by decide)), owns_kept' h.rz.ms (hr h.rz.ms (by decide)), fun x hx => ?_, h.rz.num, h.rz.most, h.rz.one⟩, h.lr, h.mo, h.km⟩
  exact (h.rz.rows x hx).keep (fun g e => hs g (fun e' => rwm_ne (h.rz.rows x hx) h.bk.blk (by decide) (by rw [e, e']))) (fun g cur _ hb => hs g (fun e => by subst e; rw [h.bk.blk] at hb; simp at hb)) (fun _ e => e)
set_option maxRecDepth 100000 in
set_option maxHeartbeats 2000000 in
theorem bz_grow (w : World) (N b : Nat) (F : Nat → Prop) (X : Rv) (L M : Value) (A turn done used : Nat) (ks rs : List Kl) (h : Z w N F b X L M A turn done used ks rs) (hF : ∀ g, F g → g < w.heap.size) (hN : N ≤ w.heap.size) (hA : A ≤ ks.length) (hks : ks.length ≤ 4000000) (hl : ∀ j x, A ≤ j → ks[j]? = some x → x.l ≤ 99999999000) (hA2 : X.a ≤ rs.length) (hrs : rs.length ≤ 4000000) (hl2 : ∀ j x, X.a ≤ j → rs[j]? = some x → x.l ≤ 1000000000) :
    Calls Tryz.prog 32 #[.pointer (some ⟨b, 0, none⟩)] w fun e w' => e = .returned (.tuple #[]) ∧ ∃ X' L' M' A' ks' rs' F', Z w' N F' b X' L' M' A' turn turn used ks' rs' ∧ Kept (SZ b X L M ks rs) w w' := by
  have HC := hide (bk_growBytes w N b L M A turn done used ks h.bk hN hA hks hl)
  have HZ := hide h
  have HFl := hide hF
  have HL2 := hide hl2
  clear h hl hl2 hF
  go_enter Tryz.func32, Tryz.ntmps32
  go_wp2_with fail
  refine HC.out.mono ?_
  rintro e w1 ⟨rfl, L1, M1, ks2, hg, hc⟩
  have hz1 : Z w1 N F b X L1 M1 ks2.length turn done used ks2 rs := HZ.out.turn hg.bk hg.kept (fun i hi e => by
    rcases e with e | e | e | ⟨k, hk, e⟩
    · exact Or.inl e
    · exact Or.inr (Or.inl e)
    · exact Or.inr (Or.inr (Or.inl e))
    · exact Or.inr (Or.inr (Or.inr ⟨owns_block (HZ.out.bk.rows k hk) i e.symm, HZ.out.km k hk i e.symm⟩))) hg.lo hg.mo (fun x hx g e hf => by
    rcases hg.own x hx g e with ⟨k, hk, e'⟩ | e'
    · exact HZ.out.km k hk g e' hf
    · have := HFl.out g hf; omega)
  have hz2 : Z w1 N (fun g => F g ∨ w1.heap.size ≤ g) b X L1 M1 ks2.length turn done used ks2 rs := ⟨hz1.bk, hz1.rz.wide (fun g e => Or.inl e), hz1.lr, hz1.mo, fun x hx g e hf => by
    rcases hf with hf | hf
    · exact hz1.km x hx g e hf
    · have := owns_lt (hz1.bk.rows x hx) g e; omega⟩
  have HG := hide (bk_growRows w1 N b (fun g => F g ∨ w1.heap.size ≤ g) X L1 M1 ks2.length turn done used ks2 rs hz2 (fun g e => Or.inr e) (Nat.le_trans hN hg.kept.size) hA2 hrs HL2.out)
  have HK1 := hide hg.kept
  clear hg hc HC hz1 hz2
  go_wp2_with fail
  refine HG.out.mono ?_
  rintro e w2 ⟨rfl, X2, rs2, ⟨hz, hk, -⟩, -⟩
  have HZ2 := hide hz
  have HK2 : Hid (Kept (SZ b X L M ks rs) w w2) := ((Kept.refl (SZ b X L M ks rs) w).trans HK1.out (fun i e => Or.inl (Or.inl e))).trans hk (fun i e => Or.inl (Or.inr e))
  have HB : Hid (w2.heap[b]? = some (.cells (bkCells X2 L1 M1 ks2.length turn done used) 70 (0, 0))) := hz.bk.blk
  clear hz hk HG
  go_wp2_with fail
  refine (bk_growTexts _ b L1 M1 ks2.length turn done used HB.out).mono ?_
  rintro e w3 ⟨rfl, rfl⟩
  go_wp2_with fail
  refine (bk_growInts _ b L1 M1 ks2.length turn done used HB.out).mono ?_
  rintro e w3 ⟨rfl, rfl⟩
  go_wp2_with fail
  refine (bk_growWords _ b L1 M1 ks2.length turn done used HB.out).mono ?_
  rintro e w3 ⟨rfl, rfl⟩
  go_wp2_with fail
  refine (bk_growBools _ b L1 M1 ks2.length turn done used HB.out).mono ?_
  rintro e w3 ⟨rfl, rfl⟩
  go_wp2_with fail
  refine (bk_growLines _ b L1 M1 ks2.length turn done used HB.out).mono ?_
  rintro e w3 ⟨rfl, rfl⟩
  go_wp2_with fail
  refine (bk_growGuards _ b L1 M1 ks2.length turn done used HB.out).mono ?_
  rintro e w3 ⟨rfl, rfl⟩
  go_wp2_with fail
  refine (bk_growSets _ b L1 M1 ks2.length turn done used HB.out).mono ?_
  rintro e w3 ⟨rfl, rfl⟩
  go_wp2_with fail
  refine (bk_growRights _ b L1 M1 ks2.length turn done used HB.out).mono ?_
  rintro e w3 ⟨rfl, rfl⟩
  go_wp2_with fail
  refine (bk_growPrices _ b L1 M1 ks2.length turn done used HB.out).mono ?_
  rintro e w3 ⟨rfl, rfl⟩
  go_wp2_with fail
  refine (bk_growHelds _ b L1 M1 ks2.length turn done used HB.out).mono ?_
  rintro e w3 ⟨rfl, rfl⟩
  go_wp2_with fail
  refine (bk_growPools _ b L1 M1 ks2.length turn done used HB.out).mono ?_
  rintro e w3 ⟨rfl, rfl⟩
  go_wp2_with fail
  refine (bk_growActs _ b L1 M1 ks2.length turn done used HB.out).mono ?_
  rintro e w3 ⟨rfl, rfl⟩
  go_wp2_with fail
  refine (bk_growEntries _ b L1 M1 ks2.length turn done used HB.out).mono ?_
  rintro e w3 ⟨rfl, rfl⟩
  go_wp2_with fail
  refine (bk_growFlights _ b L1 M1 ks2.length turn done used HB.out).mono ?_
  rintro e w3 ⟨rfl, rfl⟩
  go_wp2_with fail
  refine (bk_growFiles _ b L1 M1 ks2.length turn done used HB.out).mono ?_
  rintro e w3 ⟨rfl, rfl⟩
  go_wp2_with fail
  refine (bk_growItems _ b L1 M1 ks2.length turn done used HB.out).mono ?_
  rintro e w3 ⟨rfl, rfl⟩
  have c54 := bk_cell HB.out 54 (.int .i64 (turn : Int)) rfl
  have c55 := bk_cell HB.out 55 (.int .i64 (done : Int)) rfl
  have cf := bk_thaw HB.out
  have HZ3 := hide (HZ2.out.doneTo turn)
  have HK3 : Hid (Kept (SZ b X L M ks rs) w (w3.setCell ⟨b, 55, none⟩ (.int .i64 (turn : Int)))) := HK2.out.trans (kept_but ((But.refl b w3).setCell (p := ⟨b, 55, none⟩) (Or.inl rfl) _)) (fun i e => Or.inl (Or.inl (Or.inl e)))
  go_wp2
  go_end0
  exact ⟨rfl, X2, L1, M1, _, ks2, rs2, _, HZ3.out, HK3.out⟩
set_option maxRecDepth 100000 in
set_option maxHeartbeats 1000000 in
theorem bz_look (w : World) (N b : Nat) (F : Nat → Prop) (X : Rv) (L M : Value) (A turn done used : Nat) (ks rs : List Kl) (h : Z w N F b X L M A turn done used ks rs) (hF : ∀ g, F g → g < w.heap.size) (hN : N ≤ w.heap.size) (hA : A ≤ ks.length) (hks : ks.length ≤ 4000000) (hl : ∀ j x, A ≤ j → ks[j]? = some x → x.l ≤ 99999999000) (hA2 : X.a ≤ rs.length) (hrs : rs.length ≤ 4000000) (hl2 : ∀ j x, X.a ≤ j → rs[j]? = some x → x.l ≤ 1000000000) :
    Calls Tryz.prog 9 #[.pointer (some ⟨b, 0, none⟩)] w fun e w' => e = .returned (.bool true) ∧ ∃ X' L' M' A' ks' rs' F', Z w' N F' b X' L' M' A' turn turn used ks' rs' ∧ Kept (SZ b X L M ks rs) w w' := by
  have HK := hide h
  have HFl := hide hF
  have HLs := hide hl
  have HL2 := hide hl2
  clear h hl hF hl2
  go_enter Tryz.func9, Tryz.ntmps9
  go_wp2_with fail
  refine (bz_holds w N b F X L M A turn done used ks rs HK.out).mono ?_
  rintro e w1 ⟨rfl, q, rfl⟩
  have HK1 := hide (HK.out.draws q)
  have HKe : Hid (Kept (SZ b X L M ks rs) w (w.drewN q)) := kept_below (bad_drews w q)
  have HN1 : Hid (N ≤ (w.drewN q).heap.size) := hN
  have HF1 : Hid (∀ g, F g → g < (w.drewN q).heap.size) := HFl.out
  have HSz : Hid ((w.drewN q).heap.size = w.heap.size) := rfl
  generalize w.drewN q = w1 at *
  clear HK HFl
  have c54 := bk_cell HK1.out.bk.blk 54 (.int .i64 (turn : Int)) rfl
  have c55 := bk_cell HK1.out.bk.blk 55 (.int .i64 (done : Int)) rfl
  by_cases hd : done = turn
  · have hb : ((done : Int) == (turn : Int)) = true := by simp; omega
    have HZ1 := HK1
    rw [hd] at HZ1
    clear hd
    go_wp2
    go_quiet (fail)
    go_wp2
    go_ret
    exact ⟨rfl, X, L, M, A, ks, rs, F, HZ1.out.draws nq, HKe.out.trans (kept_below (S := fun _ => False) (bad_drews w1 nq)) (fun _ e => e.elim)⟩
  · have hb : ((done : Int) == (turn : Int)) = false := by simp; omega
    clear hd
    go_wp2
    go_quiet (fail)
    have HK2 := hide (HK1.out.draws nq)
    have HKe2 : Hid (Kept (SZ b X L M ks rs) w (w1.drewN nq)) := HKe.out.trans (kept_below (S := fun _ => False) (bad_drews w1 nq)) (fun _ e => e.elim)
    have HN2 : Hid (N ≤ (w1.drewN nq).heap.size) := HN1.out
    have HF2 : Hid (∀ g, F g → g < (w1.drewN nq).heap.size) := HF1.out
    generalize w1.drewN nq = w2 at *
    clear c54 c55 HK1
    go_wp2_with fail
    refine (bz_grow w2 N b F X L M A turn done used ks rs HK2.out HF2.out HN2.out hA hks HLs.out hA2 hrs HL2.out).mono ?_
    rintro e w3 ⟨rfl, X3, L3, M3, A3, ks3, rs3, F3, hz, hk⟩
    have HZ3 := hide hz
    have HK3 : Hid (Kept (SZ b X L M ks rs) w w3) := HKe2.out.trans hk (fun i e => Or.inl e)
    clear hz hk
    go_wp2_with fail
    refine (bz_holds w3 N b F3 X3 L3 M3 A3 turn turn used ks3 rs3 HZ3.out).mono ?_
    rintro e w4 ⟨rfl, q4, rfl⟩
    go_wp2
    go_ret
    exact ⟨rfl, X3, L3, M3, A3, ks3, rs3, F3, HZ3.out.draws q4, HK3.out.trans (kept_below (S := fun _ => False) (bad_drews w3 q4)) (fun _ e => e.elim)⟩
end Go.Proofs.YtjcdnclfakmbpaaGreatDoor.V
namespace Go.Proofs.YtjcdnclfakmbpaaGreatDoor.V
open Go.RowKit Go.Proofs.YtjcdnclfakmbpaaGreatDoor.U Go.Proofs.YtjcdnclfakmbpaaGreatDoor.Q
theorem Z.cell {w : World} {N b : Nat} {F : Nat → Prop} {X : Rv} {L M : Value} {A turn done used turn' done' used' : Nat} {ks rs : List Kl} (h : Z w N F b X L M A turn done used ks rs) (i : Nat) (v : Value) (he : (bkCells X L M A turn done used).setIfInBounds i v = bkCells X L M A turn' done' used') : Z (w.setCell ⟨b, i, none⟩ v) N F b X L M A turn' done' used' ks rs := by
  have hs : ∀ j, j ≠ b → (w.setCell ⟨b, i, none⟩ v).heap[j]? = w.heap[j]? := fun j hj => Below.heap_setCell _ _ _ _ hj
  have hr : ∀ {z0 : Bool} {B0 n : Nat} {ty : TypeId} {u : Value} {xs : List Value}, ownsQ z0 w B0 ty 1 u n xs → 70 ≠ ty → ∀ g, u.ownBlock = some g → (w.setCell ⟨b, i, none⟩ v).heap[g]? = w.heap[g]? := fun hv ht g e => hs g (fun e' => owns_ne hv h.bk.blk ht (by rw [e, e']))
  refine ⟨⟨by rw [block_set h.bk.blk, he], owns_kept' h.bk.ls (hr h.bk.ls (by decide)), owns_kept' h.bk.ms (hr h.bk.ms (by decide)), fun x hx => owns_kept' (h.bk.rows x hx) (hr (h.bk.rows x hx) (by decide)), h.bk.num, h.bk.most, h.bk.one⟩, ⟨owns_kept' h.rz.ls (hr h.rz.ls (by decide)), owns_kept' h.rz.ms (hr h.rz.ms (by decide)), fun x hx => ?_, h.rz.num, h.rz.most, h.rz.one⟩, h.lr, h.mo, h.km⟩
  exact (h.rz.rows x hx).keep (fun g e => hs g (fun e' => rwm_ne (h.rz.rows x hx) h.bk.blk (by decide) (by rw [e, e']))) (fun g cur _ hb => hs g (fun e => by subst e; rw [h.bk.blk] at hb; simp at hb)) (fun _ e => e)
theorem Z.other {w w' : World} {N b n : Nat} {F : Nat → Prop} {X : Rv} {L M v : Value} {A turn done used : Nat} {ks rs : List Kl} {xs : List Value} (h : Z w N F b X L M A turn done used ks rs) (hv : ownsQ false w N 31 1 v n xs) (k : Kept (fun i => some i = v.ownBlock) w w') (hL : ∀ g, v.ownBlock = some g → L.ownBlock ≠ some g) (hr : ∀ x ∈ rs, ∀ g, x.val.ownBlock = some g → v.ownBlock ≠ some g) : Z w' N F b X L M A turn done used ks rs :=
  ⟨h.bk.keep k (fun e => owns_ne hv h.bk.blk (by decide) e.symm) (fun g e e' => hL g e'.symm e) (fun g e e' => rows_far0 hv h.bk.ms (by decide) g e'.symm e) (fun x hx g e e' => rows_far0 hv (h.bk.rows x hx) (by decide) g e'.symm e), h.rz.keep k (fun g e e' => rows_far0 hv h.rz.ls (by decide) g e'.symm e) (fun g e e' => rows_far0 hv h.rz.ms (by decide) g e'.symm e) (fun x hx g e e' => hr x hx g e e'.symm) (fun g cur _ hb e => owns_ne hv hb (by decide) e.symm), h.lr, h.mo, h.km⟩
theorem Z.below {w w' : World} {N b : Nat} {F : Nat → Prop} {X : Rv} {L M : Value} {A turn done used : Nat} {ks rs : List Kl} (h : Z w N F b X L M A turn done used ks rs) (hb : Below w.heap.size w w') : Z w' N F b X L M A turn done used ks rs :=
  ⟨h.bk.keep (S := fun _ => False) (kept_below hb) (fun e => e) (fun _ _ e => e) (fun _ _ e => e) (fun _ _ _ _ e => e), h.rz.keep (S := fun _ => False) (kept_below hb) (fun _ _ e => e) (fun _ _ e => e) (fun _ _ _ _ e => e) (fun _ _ _ _ e => e), h.lr, h.mo, h.km⟩
theorem Z.wide {w : World} {N b : Nat} {F F' : Nat → Prop} {X : Rv} {L M : Value} {A turn done used : Nat} {ks rs : List Kl} (h : Z w N F b X L M A turn done used ks rs) (hF : ∀ g, F g → F' g) (hk : ∀ k ∈ ks, ∀ g, k.val.ownBlock = some g → ¬ F' g) : Z w N F' b X L M A turn done used ks rs := ⟨h.bk, h.rz.wide hF, h.lr, h.mo, hk⟩
theorem rep_mid {x : Value} {i : Nat} {vs : List Value} (h : i < vs.length) : (List.replicate i x ++ vs.drop i).set i x = List.replicate (i + 1) x ++ vs.drop (i + 1) := by
  apply List.ext_getElem?
  intro j
  rw [List.getElem?_set]
  by_cases e : i = j
  · subst e
    rw [if_pos rfl, if_pos (by simp; omega), List.getElem?_append_left (by simp)]
    simp
  · rw [if_neg e]
    by_cases hj : j < i
    · rw [List.getElem?_append_left (by simpa using hj), List.getElem?_append_left (by simp; omega)]
      simp [hj, show j < i + 1 by omega]
    · rw [List.getElem?_append_right (by simp; omega), List.getElem?_append_right (by simp; omega), List.getElem?_drop, List.getElem?_drop]
      congr 1
      simp; omega
def RS (b : Nat) (X : Rv) (L M v : Value) (vs : List Value) (i : Nat) : Prop := i = b ∨ some i = L.ownBlock ∨ some i = M.ownBlock ∨ some i = X.r.ownBlock ∨ some i = X.o.ownBlock ∨ some i = v.ownBlock ∨ ∃ u ∈ vs, some i = u.ownBlock
def RS1 (b : Nat) (L M : Value) (vs : List Value) (n : Nat) (i : Nat) : Prop := i = b ∨ some i = L.ownBlock ∨ some i = M.ownBlock ∨ ∃ j u, j < n ∧ vs[j]? = some u ∧ some i = u.ownBlock
structure Rl (w : World) (L M : Value) (ks : List Kl) (vs : List Value) (wr : World) (N b : Nat) (F : Nat → Prop) (X : Rv) (L1 M1 : Value) (A turn done used1 : Nat) (ks1 rs : List Kl) (i : Nat) : Prop where
  z : Z wr N F b X L1 M1 A turn done used1 ks1 rs
  us : used1 ≤ 16777216
  len : ks1.length ≤ ks.length + i
  mem : ∀ x ∈ ks1, x ∈ ks ∨ ∃ j u, j < i ∧ vs[j]? = some u ∧ x.val = u ∧ x.l ≤ 16777216
  lo : L1.ownBlock = L.ownBlock ∨ ∃ g, L1.ownBlock = some g ∧ w.heap.size ≤ g
  mo : M1.ownBlock = M.ownBlock ∨ ∃ g, M1.ownBlock = some g ∧ w.heap.size ≤ g
  kept : Kept (RS1 b L M vs i) w wr
theorem lies_more {w wr : World} {L L1 L2 : Value} (hs : w.heap.size ≤ wr.heap.size) (h1 : L1.ownBlock = L.ownBlock ∨ ∃ g, L1.ownBlock = some g ∧ w.heap.size ≤ g) (h2 : L2.ownBlock = L1.ownBlock ∨ ∃ g, L2.ownBlock = some g ∧ wr.heap.size ≤ g) : L2.ownBlock = L.ownBlock ∨ ∃ g, L2.ownBlock = some g ∧ w.heap.size ≤ g := by
  rcases h2 with e | ⟨g, e, hg⟩
  · rw [e]; exact h1
  · exact Or.inr ⟨g, e, by omega⟩
structure RwPost (w : World) (L M : Value) (ks rs : List Kl) (vs : List Value) (X : Rv) (v : Value) (q : Nat) (w' : World) (N b : Nat) (F : Nat → Prop) (gx : Nat) (X' : Rv) (L' M' : Value) (A turn done used' : Nat) (ks' rs' : List Kl) : Prop where
  z : Z w' N (fun g => F g ∨ g = gx) b X' L' M' A turn done used' ks' rs'
  gw : w.heap.size ≤ gx
  gb : ∃ cur, w'.heap[gx]? = some (.cells cur 5 (0, 0))
  us : used' ≤ 16777216
  ax : X'.a = X.a
  len : ks'.length ≤ ks.length + q
  mem : ∀ x ∈ ks', x ∈ ks ∨ (x.val ∈ vs ∧ x.l ≤ 16777216)
  rl : rs'.length ≤ rs.length + 1
  rm : ∀ x ∈ rs', x ∈ rs ∨ (x.val = v ∧ x.l = q)
  lo : L'.ownBlock = L.ownBlock ∨ ∃ g, L'.ownBlock = some g ∧ w.heap.size ≤ g
  mo : M'.ownBlock = M.ownBlock ∨ ∃ g, M'.ownBlock = some g ∧ w.heap.size ≤ g
  ro : X'.r.ownBlock = X.r.ownBlock ∨ ∃ g, X'.r.ownBlock = some g ∧ w.heap.size ≤ g
  oo : X'.o.ownBlock = X.o.ownBlock ∨ ∃ g, X'.o.ownBlock = some g ∧ w.heap.size ≤ g
  kept : Kept (RS b X L M v vs) w w'
set_option maxRecDepth 100000 in
set_option maxHeartbeats 4000000 in
theorem bz_rows (w : World) (N b : Nat) (F : Nat → Prop) (X : Rv) (L M : Value) (A turn done used : Nat) (ks rs : List Kl) (a : Option Addr) (q c : Nat) (vs : List Value) (h : Z w N F b X L M A turn done used ks rs)
    (hrow : ownsQ false w N 31 1 (.slice a q c) q vs)
    (hel : ∀ (i : Nat) (u : Value), vs[i]? = some u → ∃ sp l cc ys, u = .slice sp l cc ∧ ownsQ true w N 5 1 (.slice sp l cc) l (vals ys) ∧ l ≤ 140737488355328)
    (hdis : ∀ (i j : Nat) (u v : Value), i < j → vs[i]? = some u → vs[j]? = some v → Far v u) (hfk : ∀ k ∈ ks, ∀ v ∈ vs, Far v k.val) (hvF : ∀ v ∈ vs, ∀ g, v.ownBlock = some g → ¬ F g)
    (hrL : ∀ g, (Value.slice a q c).ownBlock = some g → L.ownBlock ≠ some g) (hrr : ∀ k ∈ rs, ∀ g, k.val.ownBlock = some g → (Value.slice a q c).ownBlock ≠ some g)
    (hN : N ≤ w.heap.size) (ht : turn + q + 1 ≤ 100000000) (hq : q ≤ 1000) (hu : used ≤ 16777216) (hks : ks.length + q + 1 ≤ 100000000) (hrs : rs.length + 1 ≤ 100000000) (hFl : ∀ g, F g → g < w.heap.size) :
    Calls Tryz.prog 63 #[.pointer (some ⟨b, 0, none⟩), .slice a q c] w fun e w' => e = .returned (.tuple #[]) ∧ ∃ gx X' L' M' used' ks' rs', RwPost w L M ks rs vs X (.slice a q c) q w' N b F gx X' L' M' A (turn + q + 1) done used' ks' rs' := by
  obtain ⟨i1, hi1, hz10, hz11, hz12⟩ := info_parts Tryz.infoRw
  obtain ⟨i2, hi2, hz20, hz21, hz22⟩ := info_parts Tryz.infoIn
  have HRow := hide hrow
  have HEl := hide hel
  have HDis := hide hdis
  have HFk := hide hfk
  have HVF := hide hvF
  have HRL := hide hrL
  have HRR := hide hrr
  have HFl := hide hFl
  have hvl : vs.length = q := by have := hrow.1; omega
  have HVl := hide hvl
  have HR0 : Hid (Rl w L M ks vs w N b F X L M A turn done used ks rs 0) := ⟨h, hu, by omega, fun x hx => Or.inl hx, Or.inl rfl, Or.inl rfl, Kept.refl _ _⟩
  have HLt := hide (owns_lt h.bk.ls)
  have HBb := hide h.bk.blk
  have HMs := hide h.bk.ms
  have HXl := hide h.rz.ls
  have HXm := hide h.rz.ms
  -- the row, as long as the lists alone turn
  have HRk : Hid (∀ n wr, Kept (RS1 b L M vs n) w wr → ownsQ false wr N 31 1 (.slice a q c) q vs) := fun n wr k => owns_kept' hrow (fun g e => k.block g (owns_lt hrow g e) (by
    rintro (e' | e' | e' | ⟨j, u, _, hj, e'⟩)
    · subst e'; exact owns_ne hrow h.bk.blk (by decide) e
    · exact hrL g e e'.symm
    · exact rows_far0 hrow h.bk.ms (by decide) g e e'.symm
    · obtain ⟨sp, l, cc, ys, rfl, ho, _⟩ := hel j u hj
      exact rows_far0 hrow ho (by decide) g e e'.symm))
  have HLk : Hid (∀ n wr, Kept (RS1 b L M vs n) w wr → ∀ sp l cc ys, n ≤ q → vs[n]? = some (.slice sp l cc) → ownsQ true w N 5 1 (.slice sp l cc) l (vals ys) → ownsQ true wr N 5 1 (.slice sp l cc) l (vals ys)) := fun n wr k sp l cc ys _ hv ho => owns_kept' ho (fun g e => k.block g (owns_lt ho g e) (by
    rintro (e' | e' | e' | ⟨j, u, hj, hju, e'⟩)
    · subst e'; exact owns_ne ho h.bk.blk (by decide) e
    · exact rows_far0 ho h.bk.ls (by decide) g e e'.symm
    · exact rows_far0 ho h.bk.ms (by decide) g e e'.symm
    · exact hdis j n u _ hj hju hv g e e'.symm))
  clear h hrow hel hdis hfk hvF hrL hrr hFl hvl hu
  go_enter Tryz.func63, Tryz.ntmps63
  go_wp2_with fail
  go_loopw [4] (fun s4 wr => ∃ (i : Nat) (L1 M1 : Value) (used1 : Nat) (ks1 : List Kl), i ≤ q ∧ s4 = .int .i64 i ∧ Hid (Rl w L M ks vs wr N b F X L1 M1 A (turn + i) done used1 ks1 rs i)) (fun s4 _ => q - (intOf s4).toNat)
  case atStart => exact ⟨0, L, M, used, ks, Nat.zero_le _, rfl, HR0⟩
  case round =>
    clear HR0
    obtain ⟨i, L1, M1, used1, ks1, hi, rfl, HR⟩ := hrel
    have i0 : (0 : Int) ≤ (i : Int) := by omega
    by_cases hlt : i < q
    · have i1' : (i : Int) < (q : Int) := by omega
      obtain ⟨u, hu⟩ : ∃ u, vs[i]? = some u := ⟨_, List.getElem?_eq_getElem (by rw [HVl.out]; exact hlt)⟩
      obtain ⟨sp, l, cc, ys, rfl, ho, hl9⟩ := HEl.out i u hu
      obtain ⟨g, c9, hg, hcell⟩ := row_cell (HRk.out i wr HR.out.kept) (k := i) hu
      cases hg
      have ho1 := HLk.out i wr HR.out.kept sp l cc ys hi hu ho
      have HB := hide (bz_bytes wr N b F X L1 M1 A (turn + i) done used1 ks1 rs sp l cc ys HR.out.z ho1 (fun x hx => by
        rcases HR.out.mem x hx with e | ⟨j, u', hj, hju, e, _⟩
        · exact HFk.out x e _ (List.mem_of_getElem? hu)
        · rw [e]; exact HDis.out j i u' _ hj hju hu) (HVF.out _ (List.mem_of_getElem? hu)) (Nat.le_trans hN HR.out.kept.size) (by omega) hl9 HR.out.us (by have := HR.out.len; omega))
      have HU := hide hu
      clear ho ho1 hu
      go_wp2_with fail
      refine HB.out.mono ?_
      rintro e w2 ⟨rfl, L2, M2, used2, ks2, hz, hu2, hk2, hkp, hL2, hM2⟩
      have HR2 : Hid (Rl w L M ks vs w2 N b F X L2 M2 A (turn + (i + 1)) done used2 ks2 rs (i + 1)) := by
        refine ⟨hz, hu2, ?_, fun x hx => ?_, lies_more HR.out.kept.size HR.out.lo hL2, lies_more HR.out.kept.size HR.out.mo hM2, ?_⟩
        · have := HR.out.len
          rcases hk2 with rfl | ⟨rfl, _⟩
          · omega
          · simp; omega
        · have hold : ∀ x ∈ ks1, x ∈ ks ∨ ∃ j u, j < i + 1 ∧ vs[j]? = some u ∧ x.val = u ∧ x.l ≤ 16777216 := fun x hx => (HR.out.mem x hx).imp id (fun ⟨j, u, hj, r⟩ => ⟨j, u, by omega, r⟩)
          rcases hk2 with rfl | ⟨rfl, hsm⟩
          · exact hold x hx
          · rcases List.mem_append.1 hx with h' | h'
            · exact hold x h'
            · simp at h'; subst h'
              exact Or.inr ⟨i, _, by omega, HU.out, rfl, hsm⟩
        · have hk1 : Kept (RS1 b L M vs (i + 1)) w wr := (Kept.refl _ _).trans HR.out.kept (fun j e => Or.inl (e.imp id (fun e => e.imp id (fun e => e.imp id (fun ⟨j', u', hj, r⟩ => ⟨j', u', by omega, r⟩)))))
          refine hk1.trans hkp (fun j e => ?_)
          rcases e with e | e | e | e
          · exact Or.inl (Or.inl e)
          · rcases lies_lt HR.out.lo j e.symm with q' | q'
            · exact Or.inl (Or.inr (Or.inl q'.symm))
            · exact Or.inr q'
          · rcases lies_lt HR.out.mo j e.symm with q' | q'
            · exact Or.inl (Or.inr (Or.inr (Or.inl q'.symm)))
            · exact Or.inr q'
          · exact Or.inl (Or.inr (Or.inr (Or.inr ⟨i, _, by omega, HU.out, e⟩)))
      clear hz hu2 hk2 hkp hL2 hM2 HB HR
      go_wp2
      go_roundw
      case rel => exact ⟨i + 1, L2, M2, used2, ks2, by omega, by go_num, HR2⟩
      case measure => simp [intOf]; omega
    · have hiq : i = q := by omega
      have i1' : ¬ (i : Int) < (q : Int) := by omega
      have HRq := HR
      rw [hiq] at HRq
      clear HR
      have c54 := bk_cell HRq.out.z.bk.blk 54 (.int .i64 ((turn + q : Nat) : Int)) rfl
      have cf := bk_thaw HRq.out.z.bk.blk
      have htn : ((turn + q : Nat) : Int) + 1 = ((turn + q + 1 : Nat) : Int) := by omega
      have HZ1 := hide (HRq.out.z.cell (turn' := turn + q + 1) (done' := done) (used' := used1) 54 (.int .i64 ((turn + q + 1 : Nat) : Int)) rfl)
      obtain ⟨m, hm⟩ : ∃ m, turn + q + 1 = m := ⟨_, rfl⟩
      obtain ⟨m0, hm0⟩ : ∃ m0, turn + q = m0 := ⟨_, rfl⟩
      rw [hm] at HZ1 htn ht
      have HM := hide hm
      rw [hm0] at c54 htn
      have hm1 : m0 ≤ 100000000 := by omega
      have HA0 := hide (fun w => at_mark w m 0 (by omega) (by omega))
      have HA1 := hide (fun w => at_mark w m 1 (by omega) (by omega))
      have HRow1 : Hid (ownsQ false (wr.setCell ⟨b, 54, none⟩ (.int .i64 (m : Int))) N 31 1 (.slice a q c) q vs) := owns_kept' (HRk.out q wr HRq.out.kept) (fun g e => Below.heap_setCell _ _ _ _ (fun e' => owns_ne (HRk.out q wr HRq.out.kept) HRq.out.z.bk.blk (by decide) (by rw [e, e'])))
      have HK1 : Hid (Kept (RS1 b L M vs q) w (wr.setCell ⟨b, 54, none⟩ (.int .i64 (m : Int)))) := HRq.out.kept.trans (kept_but ((But.refl b wr).setCell (p := ⟨b, 54, none⟩) (Or.inl rfl) _)) (fun i e => Or.inl (Or.inl e))
      clear hm hm0 hiq
      go_wp2_with fail
      generalize wr.setCell ⟨b, 54, none⟩ (.int .i64 (m : Int)) = w1 at *
      clear c54 cf
      refine (HA0.out _).mono ?_
      rintro e wx ⟨rfl, rfl⟩
      go_wp2_with fail
      refine (HA1.out _).mono ?_
      rintro e wx ⟨rfl, rfl⟩
      obtain ⟨gx, hgx⟩ : ∃ gx, wx.heap.size = gx := ⟨_, rfl⟩
      obtain ⟨wm, hwm⟩ : ∃ wm, wx.alloc (.cells #[.int .u8 (mkB m 0 : Nat), .int .u8 (mkB m 1 : Nat)] 5) = wm := ⟨_, rfl⟩
      have hbm : Below wx.heap.size wx wm := by rw [← hwm]; exact (Below.refl _ _).alloc (Nat.le_refl _) _
      have HMk : Hid (Mrk wm (fun g => F g ∨ g = gx) m (.slice (some ⟨gx, 0, none⟩) 2 2)) := ⟨gx, rfl, Or.inr rfl, by rw [← hwm, ← hgx]; exact heap_alloc_new _ _⟩
      have HZ2 : Hid (Z wm N (fun g => F g ∨ g = gx) b X L1 M1 A m done used1 ks1 rs) := (HZ1.out.below hbm).wide (fun g e => Or.inl e) (fun k hk g e hf => by
        rcases hf with hf | hf
        · exact HZ1.out.km k hk g e hf
        · have := owns_lt (HZ1.out.bk.rows k hk) g e; omega)
      have HRow2 : Hid (ownsQ false wm N 31 1 (.slice a q c) q vs) := owns_kept' HRow1.out (fun g e => hbm.block g (owns_lt HRow1.out g e))
      have HK2 : Hid (Kept (fun i => RS1 b L M vs q i ∨ some i = (Value.slice a q c).ownBlock) w wm) := ((Kept.refl _ _).trans HK1.out (fun i e => Or.inl (Or.inl e))).trans (kept_below (S := fun _ => False) hbm) (fun _ e => e.elim)
      have HGx : Hid (w.heap.size ≤ gx) := by have := HK1.out.size; show _ ≤ _; omega
      have HWm := hide hwm
      have HSd : Hid ((Rl w L M ks vs wr N b F X L1 M1 A (turn + q) done used1 ks1 rs q)) := HRq
      clear hwm hbm HZ1 HRow1 HK1 HA0 HA1 HRq
      have HL1 : Hid (∀ g, (Value.slice a q c).ownBlock = some g → L1.ownBlock ≠ some g) := fun g e e' => by
        rcases lies_lt HSd.out.lo g e' with q' | q'
        · exact HRL.out g e q'
        · have := owns_lt HRow.out g e; omega
      go_wp2_with fail
      have hgx2 : wx.alloc (.cells #[.int .u8 (mkB m 0 : Nat), .int .u8 (mkB m 1 : Nat)] 5) = wm := HWm.out
      rw [hgx2]
      clear hgx hgx2 HWm
      go_loopw [7] (fun s7 wr => ∃ i : Nat, i ≤ q ∧ s7 = .int .i64 i ∧ Hid (Z wr N (fun g => F g ∨ g = gx) b X L1 M1 A m done used1 ks1 rs) ∧ Hid (ownsQ false wr N 31 1 (.slice a q c) q (List.replicate i (.slice (some ⟨gx, 0, none⟩) 2 2) ++ vs.drop i)) ∧ Hid (Kept (fun i => RS1 b L M vs q i ∨ some i = (Value.slice a q c).ownBlock) w wr) ∧ Hid (Mrk wr (fun g => F g ∨ g = gx) m (.slice (some ⟨gx, 0, none⟩) 2 2))) (fun s7 _ => q - (intOf s7).toNat)
      case atStart => exact ⟨0, Nat.zero_le _, rfl, HZ2, by simpa using HRow2, HK2, HMk⟩
      case round =>
        clear HZ2 HRow2 HK2 HMk
        obtain ⟨i, hi, rfl, HZ, HRo, HK, HMk⟩ := hrel
        have i0 : (0 : Int) ≤ (i : Int) := by omega
        by_cases hlt : i < q
        · have i1' : (i : Int) < (q : Int) := by omega
          have hvi : (List.replicate i (Value.slice (some ⟨gx, 0, none⟩) 2 2) ++ vs.drop i)[i]? = some (vs[i]'(by rw [HVl.out]; exact hlt)) := by
            rw [List.getElem?_append_right (by simp), List.getElem?_drop]
            simp
          obtain ⟨g, c9, hg, _⟩ := row_cell HRo.out (k := i) hvi
          cases hg
          obtain ⟨q0, qf⟩ := owns_cell HRo.out (k := i) _ hvi
          have hrb : g < wr.heap.size := owns_lt HRo.out g rfl
          have HB : Hid (But g wr (wr.setCell ⟨g, i, none⟩ (.slice (some ⟨gx, 0, none⟩) 2 2))) := (But.refl g wr).setCell (p := ⟨g, i, none⟩) (Or.inl rfl) _
          have HKg : Hid (Kept (fun i => some i = (Value.slice (some ⟨g, 0, none⟩) q c).ownBlock) wr (wr.setCell ⟨g, i, none⟩ (.slice (some ⟨gx, 0, none⟩) 2 2))) := (Kept.refl _ _).trans (kept_but HB.out) (fun j e => Or.inl (by rw [e]; rfl))
          have HZ3 := hide (HZ.out.other HRo.out HKg.out HL1.out (fun x hx g e => HRR.out x hx g e))
          have HRo3 : Hid (ownsQ false (wr.setCell ⟨g, i, none⟩ (.slice (some ⟨gx, 0, none⟩) 2 2)) N 31 1 (.slice (some ⟨g, 0, none⟩) q c) q (List.replicate (i + 1) (.slice (some ⟨gx, 0, none⟩) 2 2) ++ vs.drop (i + 1))) := by
            have := owns_set HRo.out hlt (.slice (some ⟨gx, 0, none⟩) 2 2)
            rw [rep_mid (by rw [HVl.out]; exact hlt)] at this
            exact this
          have HK3 : Hid (Kept (fun i => RS1 b L M vs q i ∨ some i = (Value.slice (some ⟨g, 0, none⟩) q c).ownBlock) w (wr.setCell ⟨g, i, none⟩ (.slice (some ⟨gx, 0, none⟩) 2 2))) := HK.out.trans HKg.out (fun j e => Or.inl (Or.inr e))
          have HMk3 : Hid (Mrk (wr.setCell ⟨g, i, none⟩ (.slice (some ⟨gx, 0, none⟩) 2 2)) (fun g => F g ∨ g = gx) m (.slice (some ⟨gx, 0, none⟩) 2 2)) := HMk.out.keep (fun g' cur _ hb => Below.heap_setCell _ _ _ _ (fun e => by subst e; exact owns_ne HRo.out hb (by decide) rfl)) (fun _ e => e)
          generalize vs[i]'(by rw [HVl.out]; exact hlt) = x9 at *
          clear hvi
          go_wp2
          go_roundw
          case rel => exact ⟨i + 1, by omega, by go_num, HZ3, HRo3, HK3, HMk3⟩
          case measure => simp [intOf]; omega
        · have hiq : i = q := by omega
          have i1' : ¬ (i : Int) < (q : Int) := by omega
          have HRm : Hid (Rwm wr N (fun g => F g ∨ g = gx) m (.slice a q c) q) := by
            have h1 := HRo.out
            rw [hiq, List.drop_of_length_le (by rw [HVl.out]; exact Nat.le_refl _), List.append_nil] at h1
            exact ⟨_, h1, fun u hu => by rw [List.eq_of_mem_replicate hu]; exact HMk.out⟩
          have HGl : Hid (∃ cur, wr.heap[gx]? = some (.cells cur 5 (0, 0))) := by
            obtain ⟨g, e, _, hb⟩ := HMk.out
            cases e
            exact ⟨_, hb⟩
          clear HRo HMk hiq
          have hmul : (72 : Int) * (q : Int) = ((72 * q : Nat) : Int) := by omega
          have hadd : (2400 : Int) + ((72 * q : Nat) : Int) = ((2400 + 72 * q : Nat) : Int) := by omega
          have hsz : 2400 + 72 * q ≤ 1000000000000000 := by omega
          have hsz2 : 72 * q ≤ 1000000000000000 := by omega
          have HC0 := hide (bk_tight wr b L1 M1 A m done used1 (2400 + 72 * q) HSd.out.us hsz HZ.out.bk.blk)
          have hus := HSd.out.us
          generalize 2400 + 72 * q = sz at *
          generalize 72 * q = s3 at *
          have HMem : Hid (∀ x ∈ ks1, x ∈ ks ∨ (x.val ∈ vs ∧ x.l ≤ 16777216)) := fun x hx => (HSd.out.mem x hx).imp id (fun ⟨j, u, _, hj, e, hl⟩ => ⟨by rw [e]; exact List.mem_of_getElem? hj, hl⟩)
          have HKf : Hid (Kept (RS b X L M (.slice a q c) vs) w wr) := (Kept.refl _ _).trans HK.out (fun i e => Or.inl (by
            rcases e with (e | e | e | ⟨j, u, _, hj, e⟩) | e
            · exact Or.inl e
            · exact Or.inr (Or.inl e)
            · exact Or.inr (Or.inr (Or.inl e))
            · exact Or.inr (Or.inr (Or.inr (Or.inr (Or.inr (Or.inr ⟨u, List.mem_of_getElem? hj, e⟩)))))
            · exact Or.inr (Or.inr (Or.inr (Or.inr (Or.inr (Or.inl e)))))))
          go_wp2_with fail
          refine HC0.out.mono ?_
          rintro e w2 (⟨ht1, rfl, rfl⟩ | ⟨ht1, rfl, rfl⟩)
          · go_wp2
            exact bodyPost_ret (v := .tuple #[]) (by simp [results, Tryz.results63, go_sem]) rfl ⟨rfl, gx, X, L1, M1, used1, ks1, rs, by rw [HM.out]; exact ⟨HZ.out, HGx.out, HGl.out, hus, rfl, HSd.out.len, HMem.out, by omega, fun x hx => Or.inl hx, HSd.out.lo, HSd.out.mo, Or.inl rfl, Or.inl rfl, HKf.out⟩⟩
          · have HZ4 := hide (HZ.out.cell (turn' := m) (done' := done) (used' := used1 + sz) 56 (.int .i64 ((used1 + sz : Nat) : Int)) rfl)
            have HRm4 : Hid (Rwm (wr.setCell ⟨b, 56, none⟩ (.int .i64 ((used1 + sz : Nat) : Int))) N (fun g => F g ∨ g = gx) m (.slice a q c) q) := HRm.out.keep (fun g e => Below.heap_setCell _ _ _ _ (fun e' => rwm_ne HRm.out HZ.out.bk.blk (by decide) (by rw [e, e']))) (fun g cur _ hb => Below.heap_setCell _ _ _ _ (fun e => by subst e; have hbb := HZ.out.bk.blk; rw [hb] at hbb; simp at hbb)) (fun _ e => e)
            have HKf4 : Hid (Kept (RS b X L M (.slice a q c) vs) w (wr.setCell ⟨b, 56, none⟩ (.int .i64 ((used1 + sz : Nat) : Int)))) := HKf.out.trans (kept_but ((But.refl b wr).setCell (p := ⟨b, 56, none⟩) (Or.inl rfl) _)) (fun i e => Or.inl (Or.inl e))
            have hu2 : used1 + sz ≤ 16777216 := by omega
            have HS4 : Hid (w.heap.size ≤ (wr.setCell ⟨b, 56, none⟩ (.int .i64 ((used1 + sz : Nat) : Int))).heap.size) := HKf4.out.size
            have HGl4 : Hid (∃ cur, (wr.setCell ⟨b, 56, none⟩ (.int .i64 ((used1 + sz : Nat) : Int))).heap[gx]? = some (.cells cur 5 (0, 0))) := by
              obtain ⟨cur, hb⟩ := HGl.out
              exact ⟨cur, (Below.heap_setCell _ _ _ _ (fun e => by subst e; have hbb := HZ.out.bk.blk; rw [hb] at hbb; simp at hbb)).trans hb⟩
            generalize used1 + sz = used2 at *
            generalize wr.setCell ⟨b, 56, none⟩ (.int .i64 (used2 : Int)) = w4 at *
            clear HZ HRm HKf HC0 HK
            have c0 := bk_cell HZ4.out.bk.blk 3 X.r rfl
            have cf := bk_thaw HZ4.out.bk.blk
            have HN2 : Hid (N ≤ w4.heap.size) := Nat.le_trans hN HS4.out
            go_upto_region 13 with (at_builtin; refine wpList_append_lies _ rfl (.tmp 56) (.tmp 58) 52 rfl N 44 i1 (.slice none 0 0) 1 24 Tryz.underlying52 hi1 hz10 hz11 hz12 rfl (by omega) X.r rs.length _ rfl (HZ4.out.rz.ls.row.alloc _) ⟨w4.heap.size, 0, none⟩ 1 1 [.slice a q c] rfl rfl (World.news_of_block (heap_alloc_new w4 (.cells #[.slice a q c] 44))) (by simp [Value.oneCell']) (by omega) (by unfold maxLen; omega) (by omega) (by have := HN2.out; simp; omega) _ rfl ?_; intro gl cl w5 hown5 hgrow5 hat5 hlt5; have kk5 : Kept (fun i => some i = Value.ownBlock X.r) w4 w5 := (kept_below (S := fun i => some i = Value.ownBlock X.r) ((Below.refl _ _).alloc (Nat.le_refl _) (.cells #[.slice a q c] 44))).trans (kept_grown hgrow5) (fun i e => Or.inl e); have HK5 := hide kk5; have HB5 := hide ((kk5.block b (lt_of_block HZ4.out.bk.blk) (fun e => owns_ne HZ4.out.rz.ls HZ4.out.bk.blk (by decide) e.symm)).trans HZ4.out.bk.blk); have c50 := bk_cell HB5.out 3 X.r rfl; have cf5 := bk_thaw HB5.out; have HL5 := hide (ownsQ_of (z := false) hown5); have HA5 := hide hat5; clear hown5 hgrow5 hat5 hlt5 kk5)
            have HB6 : Hid ((w5.setCell ⟨b, 3, none⟩ (.slice (some ⟨gl, 0, none⟩) (rs.length + 1) cl)).heap[b]? = some (.cells (bkCells ⟨.slice (some ⟨gl, 0, none⟩) (rs.length + 1) cl, X.o, X.a⟩ L1 M1 A m done used2) 70 (0, 0))) := by show _ = _; rw [block_set HB5.out]; rfl
            have HL6 : Hid (ownsQ false (w5.setCell ⟨b, 3, none⟩ (.slice (some ⟨gl, 0, none⟩) (rs.length + 1) cl)) N 44 1 (.slice (some ⟨gl, 0, none⟩) (rs.length + 1) cl) (rs.length + 1) ((rs.map fun k => k.val) ++ [.slice a q c])) := owns_kept' HL5.out (fun g e => Below.heap_setCell _ _ _ _ (fun e' => owns_ne HL5.out HB5.out (by decide) (by rw [e, e'])))
            have HK6 : Hid (Kept (PS b X) w4 (w5.setCell ⟨b, 3, none⟩ (.slice (some ⟨gl, 0, none⟩) (rs.length + 1) cl))) := ((Kept.refl _ _).trans HK5.out (fun i e => Or.inl (Or.inr (Or.inl e)))).trans (kept_but ((But.refl b w5).setCell (p := ⟨b, 3, none⟩) (Or.inl rfl) _)) (fun i e => Or.inl (Or.inl e))
            have HM6 : Hid (ownsQ false (w5.setCell ⟨b, 3, none⟩ (.slice (some ⟨gl, 0, none⟩) (rs.length + 1) cl)) N 3 1 X.o rs.length (rs.map fun k => .int .i64 (k.m : Int))) := owns_kept' HZ4.out.rz.ms (fun g e => (Below.heap_setCell _ _ _ _ (fun e' => owns_ne HZ4.out.rz.ms HZ4.out.bk.blk (by decide) (by rw [e, e']))).trans (HK5.out.block g (owns_lt HZ4.out.rz.ms g e) (fun e' => rows_far HZ4.out.rz.ls HZ4.out.rz.ms (by decide) g e'.symm e)))
            generalize w5.setCell ⟨b, 3, none⟩ (.slice (some ⟨gl, 0, none⟩) (rs.length + 1) cl) = w6 at *
            clear HK5 HB5 HL5 c50 cf5 c0 cf
            have c1 := bk_cell HB6.out 4 X.o rfl
            have cf := bk_thaw HB6.out
            have HN6 : Hid (N ≤ w6.heap.size) := Nat.le_trans HN2.out HK6.out.size
            go_wp2_with (at_builtin; refine wpList_append_lies _ rfl (.tmp 66) (.tmp 68) 51 rfl N 3 i2 (.int .i64 0) 1 8 Tryz.underlying51 hi2 hz20 hz21 hz22 rfl (by omega) X.o rs.length _ rfl (HM6.out.row.alloc _) ⟨w6.heap.size, 0, none⟩ 1 1 [.int .i64 (m : Int)] rfl rfl (World.news_of_block (heap_alloc_new w6 (.cells #[.int .i64 (m : Int)] 3))) (by simp [Value.oneCell']) (by omega) (by unfold maxLen; omega) (by omega) (by have := HN6.out; simp; omega) _ rfl ?_; intro gm cm w7 hown7 hgrow7 hat7 hlt7; have kk7 : Kept (fun i => some i = Value.ownBlock X.o) w6 w7 := (kept_below (S := fun i => some i = Value.ownBlock X.o) ((Below.refl _ _).alloc (Nat.le_refl _) (.cells #[.int .i64 (m : Int)] 3))).trans (kept_grown hgrow7) (fun i e => Or.inl e); have HK7 := hide kk7; have HB7 := hide ((kk7.block b (lt_of_block HB6.out) (fun e => owns_ne HM6.out HB6.out (by decide) e.symm)).trans HB6.out); have c71 := bk_cell HB7.out 4 X.o rfl; have cf7 := bk_thaw HB7.out; have HM7 := hide (ownsQ_of (z := false) hown7); have HA7 := hide hat7; clear hown7 hgrow7 hat7 hlt7 kk7)
            have HB8 : Hid ((w7.setCell ⟨b, 4, none⟩ (.slice (some ⟨gm, 0, none⟩) (rs.length + 1) cm)).heap[b]? = some (.cells (bkCells ⟨.slice (some ⟨gl, 0, none⟩) (rs.length + 1) cl, .slice (some ⟨gm, 0, none⟩) (rs.length + 1) cm, X.a⟩ L1 M1 A m done used2) 70 (0, 0))) := by show _ = _; rw [block_set HB7.out]; rfl
            have HM8 : Hid (ownsQ false (w7.setCell ⟨b, 4, none⟩ (.slice (some ⟨gm, 0, none⟩) (rs.length + 1) cm)) N 3 1 (.slice (some ⟨gm, 0, none⟩) (rs.length + 1) cm) (rs.length + 1) ((rs.map fun k => Value.int .i64 (k.m : Int)) ++ [.int .i64 (m : Int)])) := owns_kept' HM7.out (fun g e => Below.heap_setCell _ _ _ _ (fun e' => owns_ne HM7.out HB7.out (by decide) (by rw [e, e'])))
            have HL8 : Hid (ownsQ false (w7.setCell ⟨b, 4, none⟩ (.slice (some ⟨gm, 0, none⟩) (rs.length + 1) cm)) N 44 1 (.slice (some ⟨gl, 0, none⟩) (rs.length + 1) cl) (rs.length + 1) ((rs.map fun k => k.val) ++ [.slice a q c])) := owns_kept' HL6.out (fun g e => (Below.heap_setCell _ _ _ _ (fun e' => owns_ne HL6.out HB6.out (by decide) (by rw [e, e']))).trans (HK7.out.block g (owns_lt HL6.out g e) (fun e' => rows_far HM6.out HL6.out (by decide) g e'.symm e)))
            have HK8 : Hid (Kept (PS b X) w4 (w7.setCell ⟨b, 4, none⟩ (.slice (some ⟨gm, 0, none⟩) (rs.length + 1) cm))) := (HK6.out.trans HK7.out (fun i e => Or.inl (Or.inr (Or.inr e)))).trans (kept_but ((But.refl b w7).setCell (p := ⟨b, 4, none⟩) (Or.inl rfl) _)) (fun i e => Or.inl (Or.inl e))
            have HA5' : Hid ((Value.slice (some ⟨gl, 0, none⟩) (rs.length + 1) cl).ownBlock = Value.ownBlock X.r ∨ ∃ q, (Value.slice (some ⟨gl, 0, none⟩) (rs.length + 1) cl).ownBlock = some q ∧ w4.heap.size ≤ q) := by
              rcases HA5.out with h | h
              · exact Or.inl h.symm
              · exact Or.inr ⟨gl, rfl, by simp at h; omega⟩
            have HA7' : Hid ((Value.slice (some ⟨gm, 0, none⟩) (rs.length + 1) cm).ownBlock = Value.ownBlock X.o ∨ ∃ q, (Value.slice (some ⟨gm, 0, none⟩) (rs.length + 1) cm).ownBlock = some q ∧ w4.heap.size ≤ q) := by
              rcases HA7.out with h | h
              · exact Or.inl h.symm
              · exact Or.inr ⟨gm, rfl, by have := HK6.out.size; simp at h; omega⟩
            have HP8 := hide (HZ4.out.push HRm4.out (fun y hy g e1 e2 => absurd e2 (HRR.out y hy g e1)) HK8.out HB8.out HL8.out HM8.out ⟨by omega, by omega⟩ (by omega) HL1.out HA7'.out)
            have HGl8 : Hid (∃ cur, (w7.setCell ⟨b, 4, none⟩ (.slice (some ⟨gm, 0, none⟩) (rs.length + 1) cm)).heap[gx]? = some (.cells cur 5 (0, 0))) := by
              obtain ⟨cur, hb⟩ := HGl4.out
              refine ⟨cur, (HK8.out.block gx (lt_of_block hb) ?_).trans hb⟩
              rintro (e | e | e)
              · subst e; have hbb := HZ4.out.bk.blk; rw [hb] at hbb; simp at hbb
              · exact owns_ne HZ4.out.rz.ls hb (by decide) e.symm
              · exact owns_ne HZ4.out.rz.ms hb (by decide) e.symm
            have HKf8 := hide (HKf4.out.trans HK8.out (fun i e => Or.inl (by
              rcases e with e | e | e
              · exact Or.inl e
              · exact Or.inr (Or.inr (Or.inr (Or.inl e)))
              · exact Or.inr (Or.inr (Or.inr (Or.inr (Or.inl e)))))))
            have HRo8 : Hid ((Value.slice (some ⟨gl, 0, none⟩) (rs.length + 1) cl).ownBlock = X.r.ownBlock ∨ ∃ g, (Value.slice (some ⟨gl, 0, none⟩) (rs.length + 1) cl).ownBlock = some g ∧ w.heap.size ≤ g) := HA5'.out.imp id (fun ⟨g, e, hg⟩ => ⟨g, e, Nat.le_trans HS4.out hg⟩)
            have HOo8 : Hid ((Value.slice (some ⟨gm, 0, none⟩) (rs.length + 1) cm).ownBlock = X.o.ownBlock ∨ ∃ g, (Value.slice (some ⟨gm, 0, none⟩) (rs.length + 1) cm).ownBlock = some g ∧ w.heap.size ≤ g) := HA7'.out.imp id (fun ⟨g, e, hg⟩ => ⟨g, e, Nat.le_trans HS4.out hg⟩)
            go_wp2
            go_end0
            refine ⟨rfl, gx, ⟨.slice (some ⟨gl, 0, none⟩) (rs.length + 1) cl, .slice (some ⟨gm, 0, none⟩) (rs.length + 1) cm, X.a⟩, L1, M1, used2, ks1, rs ++ [⟨a, q, c, m⟩], ?_⟩
            rw [HM.out]
            refine ⟨HP8.out, HGx.out, HGl8.out, hu2, rfl, HSd.out.len, HMem.out, by simp, fun x hx => ?_, HSd.out.lo, HSd.out.mo, HRo8.out, HOo8.out, HKf8.out⟩
            rcases List.mem_append.1 hx with h' | h'
            · exact Or.inl h'
            · simp at h'; subst h'; exact Or.inr ⟨rfl, rfl⟩
end Go.Proofs.YtjcdnclfakmbpaaGreatDoor.V
