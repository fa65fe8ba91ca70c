import Derived.Test.YtjcdnclfakmbpaaGreatDoorVY
import Derived.Test.YtjcdnclfakmbpaaGreatDoorPwP
namespace Go.Proofs.YtjcdnclfakmbpaaGreatDoor.V
open Go.RowKit Go.Proofs.YtjcdnclfakmbpaaGreatDoor.U Go.Proofs.YtjcdnclfakmbpaaGreatDoor.Q
structure Bz (P : Nat × Nat → Prop) (K : Knd) (w : World) (b : Nat) (X : Rv) (L M : Value) (turn used : Nat) (ks rs : List Kl) : Prop where
  z : Z w 0 (fun g => K g = (5, 3) ∧ g < w.heap.size) b X L M 0 turn 0 used ks rs
  ax : X.a = 0
  cb : K b = (5, 1)
  cl : ∀ g, L.ownBlock = some g → K g = (5, 2)
  cm : ∀ g, M.ownBlock = some g → K g = (5, 2)
  cr : ∀ g, X.r.ownBlock = some g → K g = (5, 2)
  co : ∀ g, X.o.ownBlock = some g → K g = (5, 2)
  ck : ∀ k ∈ ks, ∀ g, k.val.ownBlock = some g → P (K g)
  cx : ∀ k ∈ rs, ∀ g, k.val.ownBlock = some g → K g = (5, 4)
  us : used ≤ 16777216
  kl : ks.length ≤ turn
  rl : rs.length ≤ turn
  low : ∀ k ∈ ks, k.l ≤ 16777216
  rlow : ∀ k ∈ rs, k.l ≤ 1000
theorem Bz.keep {P p : Nat × Nat → Prop} {K K' : Knd} {w w' : World} {b : Nat} {X : Rv} {L M : Value} {turn used : Nat} {ks rs : List Kl} (h : Bz P K w b X L M turn used ks rs) (m : Kp p K K' w w') (h1 : ¬ p (5, 1)) (h2 : ¬ p (5, 2)) (h3 : ¬ p (5, 3)) (h4 : ¬ p (5, 4)) (hP : ∀ q, P q → ¬ p q) (hP3 : ¬ P (5, 3)) : Bz P K' w' b X L M turn used ks rs := by
  have hR := h.z.rz.keep (Kp.kept m) (fun g e => by rw [h.cr g e]; exact h2) (fun g e => by rw [h.co g e]; exact h2) (fun x hx g e => by rw [h.cx x hx g e]; exact h4) (fun g cur hf _ => by rw [hf.1]; exact h3)
  refine ⟨⟨h.z.bk.keep (Kp.kept m) (by rw [h.cb]; exact h1) (fun g e => by rw [h.cl g e]; exact h2) (fun g e => by rw [h.cm g e]; exact h2) (fun x hx g e => hP _ (h.ck x hx g e)), hR.wide (fun g e => ⟨by rw [m.same g e.2]; exact e.1, Nat.lt_of_lt_of_le e.2 m.size⟩), h.z.lr, h.z.mo, fun x hx g e hf => ?_⟩, h.ax, kpk m (lt_of_block h.z.bk.blk) h.cb, fun g e => kpk m (owns_lt h.z.bk.ls g e) (h.cl g e), fun g e => kpk m (owns_lt h.z.bk.ms g e) (h.cm g e), fun g e => kpk m (owns_lt h.z.rz.ls g e) (h.cr g e), fun g e => kpk m (owns_lt h.z.rz.ms g e) (h.co g e), fun x hx g e => by rw [m.same g (owns_lt (h.z.bk.rows x hx) g e)]; exact h.ck x hx g e, fun x hx g e => kpk m ((h.z.rz.rows x hx).lt g e) (h.cx x hx g e), h.us, h.kl, h.rl, h.low, h.rlow⟩
  have h5 := h.ck x hx g e
  rw [← m.same g (owns_lt (h.z.bk.rows x hx) g e), hf.1] at h5
  exact hP3 h5
theorem Bz.imp {P P' : Nat × Nat → Prop} {K : Knd} {w : World} {b : Nat} {X : Rv} {L M : Value} {turn used : Nat} {ks rs : List Kl} (h : Bz P K w b X L M turn used ks rs) (hi : ∀ q, P q → P' q) : Bz P' K w b X L M turn used ks rs := ⟨h.z, h.ax, h.cb, h.cl, h.cm, h.cr, h.co, fun k hk g e => hi _ (h.ck k hk g e), h.cx, h.us, h.kl, h.rl, h.low, h.rlow⟩
theorem bz_empty {P : Nat × Nat → Prop} {K : Knd} {w : World} {b : Nat} (h : w.heap[b]? = some (.cells bk0 70 (0, 0))) (hb : K b = (5, 1)) : Bz P K w b ⟨.slice none 0 0, .slice none 0 0, 0⟩ (.slice none 0 0) (.slice none 0 0) 0 0 [] [] := by
  have hn : ∀ g, (Value.slice none 0 0).ownBlock = some g → False := fun g e => by simp [Value.ownBlock] at e
  exact ⟨⟨⟨h, ⟨rfl, Or.inl ⟨rfl, rfl⟩⟩, ⟨rfl, Or.inl ⟨rfl, rfl⟩⟩, by simp, by simp, by simp, by simp⟩, ⟨⟨rfl, Or.inl ⟨rfl, rfl⟩⟩, ⟨rfl, Or.inl ⟨rfl, rfl⟩⟩, by simp, by simp, by simp, by simp⟩, by simp, fun g e => (hn g e).elim, by simp⟩, rfl, hb, fun g e => (hn g e).elim, fun g e => (hn g e).elim, fun g e => (hn g e).elim, fun g e => (hn g e).elim, by simp, by simp, by omega, by simp, by simp, by simp, by simp⟩
theorem fixk {K : Knd} {w : World} {X Y : Value} {k : Nat × Nat} {K' : Knd} (h1 : ∀ g, Y.ownBlock = some g → K g = k) (h2 : ∀ g, Y.ownBlock = some g → g < w.heap.size) (h3 : X.ownBlock = Y.ownBlock ∨ ∃ g, X.ownBlock = some g ∧ w.heap.size ≤ g) (h4 : ∀ g, g < w.heap.size → K' g = K g) (h5 : ∀ g, w.heap.size ≤ g → X.ownBlock = some g → K' g = k) : ∀ g, X.ownBlock = some g → K' g = k := fun g e => by
  rcases h3 with e' | ⟨g', e', hg'⟩
  · have e2 : Y.ownBlock = some g := by rw [← e', e]
    rw [h4 g (h2 g e2)]; exact h1 g e2
  · rw [e'] at e; cases e; exact h5 g hg' e'
def PBz (P : Nat × Nat → Prop) (q : Nat × Nat) : Prop := q = (5, 1) ∨ q = (5, 2) ∨ q = (5, 4) ∨ P q
theorem bzk_bytes (P : Nat × Nat → Prop) (hP3 : ¬ P (5, 3)) (K : Knd) (w : World) (b : Nat) (X : Rv) (L M : Value) (turn used : Nat) (ks rs : List Kl) (p : Option Addr) (len c : Nat) (ys : List Nat) (h : Bz P K w b X L M turn used ks rs) (hn : turn ≤ 100000000) (hrow : ownsQ true w 0 5 1 (.slice p len c) len (vals ys)) (hfar : ∀ k ∈ ks, Far (.slice p len c) k.val) (hk : ∀ g, (Value.slice p len c).ownBlock = some g → P (K g)) (hlen : len ≤ 140737488355328) :
    Calls Tryz.prog 30 #[.pointer (some ⟨b, 0, none⟩), .slice p len c] w fun e w' => e = .returned (.tuple #[]) ∧ ∃ L' M' used' ks', Bz P (ext K w.heap.size (5, 2)) w' b X L' M' (turn + 1) used' ks' rs ∧ Kp (PBz P) K (ext K w.heap.size (5, 2)) w w' := by
  have hkl := h.kl
  refine (bz_bytes w 0 b _ X L M 0 turn 0 used ks rs p len c ys h.z hrow hfar (fun g e hf => hP3 (by have := hk g e; rw [hf.1] at this; exact this)) (Nat.zero_le _) (by omega) hlen h.us (by omega)).mono ?_
  rintro e w' ⟨rfl, L', M', used', ks', hz, hu, hks, hkept, hL, hM⟩
  have h4 : ∀ g, g < w.heap.size → ext K w.heap.size (5, 2) g = K g := fun g hg => ext_old _ _ hg
  have hck : ∀ x ∈ ks', ∀ g, x.val.ownBlock = some g → g < w.heap.size ∧ P (K g) := fun x hx g e => by
    rcases hks with rfl | ⟨rfl, hsmall⟩
    · exact ⟨owns_lt (h.z.bk.rows x hx) g e, h.ck x hx g e⟩
    · rcases List.mem_append.1 hx with h' | h'
      · exact ⟨owns_lt (h.z.bk.rows x h') g e, h.ck x h' g e⟩
      · simp at h'; subst h'
        exact ⟨owns_lt hrow g e, hk g e⟩
  refine ⟨rfl, L', M', used', ks', ⟨hz.wide (fun g e => ⟨by rw [h4 g e.2]; exact e.1, Nat.lt_of_lt_of_le e.2 hkept.size⟩) (fun x hx g e hf => ?_), h.ax, (h4 b (lt_of_block h.z.bk.blk)).trans h.cb, fixk h.cl (owns_lt h.z.bk.ls) hL h4 (fun g hg _ => ext_new _ _ hg), fixk h.cm (owns_lt h.z.bk.ms) hM h4 (fun g hg _ => ext_new _ _ hg), fun g e => (h4 g (owns_lt h.z.rz.ls g e)).trans (h.cr g e), fun g e => (h4 g (owns_lt h.z.rz.ms g e)).trans (h.co g e), fun x hx g e => by rw [h4 g (hck x hx g e).1]; exact (hck x hx g e).2, fun x hx g e => (h4 g ((h.z.rz.rows x hx).lt g e)).trans (h.cx x hx g e), hu, ?_, by have := h.rl; omega, fun x hx => ?_, h.rlow⟩, kp_kept hkept _ _ _ (fun i hi e => ?_)⟩
  · have h5 := hck x hx g e
    rw [← h4 g h5.1, hf.1] at h5
    exact hP3 h5.2
  · rcases hks with rfl | ⟨rfl, hsmall⟩
    · omega
    · simp; omega
  · rcases hks with rfl | ⟨rfl, hsmall⟩
    · exact h.low x hx
    · rcases List.mem_append.1 hx with h' | h'
      · exact h.low x h'
      · simp at h'; subst h'; exact hsmall
  · rcases e with e | e | e | e
    · rw [e]; exact Or.inl h.cb
    · exact Or.inr (Or.inl (h.cl i e.symm))
    · exact Or.inr (Or.inl (h.cm i e.symm))
    · exact Or.inr (Or.inr (Or.inr (hk i e.symm)))
theorem bzk_rows (K : Knd) (w : World) (b : Nat) (X : Rv) (L M : Value) (turn used : Nat) (ks rs : List Kl) (a : Option Addr) (q c B : Nat) (vs : List Value) (h : Bz (fun q => q = (5, 2)) K w b X L M turn used ks rs) (hn : turn ≤ 10000000) (hq : q ≤ 1000)
    (hrow : ownsQ false w 0 31 1 (.slice a q c) q vs) (hel : ∀ (i : Nat) (u : Value), vs[i]? = some u → ∃ sp l cc ys, u = .slice sp l cc ∧ ownsQ true w 0 5 1 (.slice sp l cc) l (vals ys) ∧ l ≤ 140737488355328)
    (hdis : ∀ (i j : Nat) (u v : Value), i < j → vs[i]? = some u → vs[j]? = some v → Far v u) (hks : ∀ k ∈ ks, ∀ g, k.val.ownBlock = some g → g < B) (hrs : ∀ k ∈ rs, ∀ g, k.val.ownBlock = some g → g < B) (hvB : ∀ v ∈ vs, ∀ g, v.ownBlock = some g → B ≤ g ∧ K g = (5, 2)) (hrB : ∀ g, (Value.slice a q c).ownBlock = some g → B ≤ g ∧ K g = (5, 4)) :
    Calls Tryz.prog 63 #[.pointer (some ⟨b, 0, none⟩), .slice a q c] w fun e w' => e = .returned (.tuple #[]) ∧ ∃ K' X' L' M' used' ks' rs', Bz (fun q => q = (5, 2)) K' w' b X' L' M' (turn + q + 1) used' ks' rs' ∧ Kp (fun q => q = (5, 1) ∨ q = (5, 2) ∨ q = (5, 4)) K K' w w' := by
  have hkl := h.kl
  have hrl := h.rl
  refine (bz_rows w 0 b _ X L M 0 turn 0 used ks rs a q c vs h.z hrow hel hdis (fun k hk v hv g e e' => ?_) (fun v hv g e hf => ?_) (fun g e e' => ?_) (fun k hk g e e' => ?_) (Nat.zero_le _) (by omega) hq h.us (by omega) (by omega) (fun g e => e.2)).mono ?_
  · have h1 := hks k hk g e'; have h2 := (hvB v hv g e).1; omega
  · have h2 := (hvB v hv g e).2; rw [hf.1] at h2; simp at h2
  · have h1 := h.cl g e'; rw [(hrB g e).2] at h1; simp at h1
  · have h1 := hrs k hk g e; have h2 := (hrB g e').1; omega
  rintro e w' ⟨rfl, gx, X', L', M', used', ks', rs', hp⟩
  obtain ⟨K', hK'⟩ : ∃ K' : Knd, K' = fun g => if g < w.heap.size then K g else if g = gx then (5, 3) else (5, 2) := ⟨_, rfl⟩
  have h4 : ∀ g, g < w.heap.size → K' g = K g := fun g hg => by rw [hK']; simp [hg]
  have hgx : K' gx = (5, 3) := by rw [hK']; have := hp.gw; simp; intro h; omega
  have h5 : ∀ g, w.heap.size ≤ g → g ≠ gx → K' g = (5, 2) := fun g hg hne => by rw [hK']; simp [hne]; intro h; omega
  have hck : ∀ x ∈ ks', ∀ g, x.val.ownBlock = some g → g < w.heap.size ∧ K g = (5, 2) := fun x hx g e => by
    rcases hp.mem x hx with h' | ⟨h', _⟩
    · exact ⟨owns_lt (h.z.bk.rows x h') g e, h.ck x h' g e⟩
    · obtain ⟨i, hi⟩ := List.getElem?_of_mem h'
      obtain ⟨sp, l, cc, ys, e1, ho, _⟩ := hel i _ hi
      rw [e1] at e
      exact ⟨owns_lt ho g e, (hvB _ h' g (by rw [e1]; exact e)).2⟩
  have hcx : ∀ x ∈ rs', ∀ g, x.val.ownBlock = some g → g < w.heap.size ∧ K g = (5, 4) := fun x hx g e => by
    rcases hp.rm x hx with h' | ⟨h', _⟩
    · exact ⟨(h.z.rz.rows x h').lt g e, h.cx x h' g e⟩
    · rw [h'] at e
      exact ⟨owns_lt hrow g e, (hrB g e).2⟩
  have hnx : ∀ {Y : Value} {n : Nat} {ty : TypeId} {xs : List Value}, ownsQ false w' 0 ty 1 Y n xs → ty ≠ 5 → ∀ g, w.heap.size ≤ g → Y.ownBlock = some g → K' g = (5, 2) := fun hy ht g hg e => h5 g hg (fun e' => by
    obtain ⟨cur, hb⟩ := hp.gb
    subst e'
    exact owns_ne hy hb (fun e => ht e.symm) e)
  refine ⟨rfl, K', X', L', M', used', ks', rs', ⟨hp.z.wide (fun g e => ?_) (fun x hx g e hf => ?_), by rw [hp.ax]; exact h.ax, (h4 b (lt_of_block h.z.bk.blk)).trans h.cb, fixk h.cl (owns_lt h.z.bk.ls) hp.lo h4 (hnx hp.z.bk.ls (by decide)), fixk h.cm (owns_lt h.z.bk.ms) hp.mo h4 (hnx hp.z.bk.ms (by decide)), fixk h.cr (owns_lt h.z.rz.ls) hp.ro h4 (hnx hp.z.rz.ls (by decide)), fixk h.co (owns_lt h.z.rz.ms) hp.oo h4 (hnx hp.z.rz.ms (by decide)), fun x hx g e => by rw [h4 g (hck x hx g e).1]; exact (hck x hx g e).2, fun x hx g e => by rw [h4 g (hcx x hx g e).1]; exact (hcx x hx g e).2, hp.us, by have := hp.len; omega, by have := hp.rl; omega, fun x hx => ?_, fun x hx => ?_⟩, ⟨hp.kept.os, hp.kept.tape, hp.kept.output, hp.kept.size, h4, fun i hi hne => hp.kept.block i hi (fun e => hne ?_)⟩⟩
  · rcases e with e | e
    · exact ⟨by rw [h4 g e.2]; exact e.1, Nat.lt_of_lt_of_le e.2 hp.kept.size⟩
    · rw [e]; obtain ⟨cur, hb⟩ := hp.gb; exact ⟨hgx, lt_of_block hb⟩
  · have h6 := hck x hx g e
    rw [← h4 g h6.1, hf.1] at h6
    have := h6.2
    simp at this
  · rcases hp.mem x hx with h' | ⟨_, h'⟩
    · exact h.low x h'
    · exact h'
  · rcases hp.rm x hx with h' | ⟨_, h'⟩
    · exact h.rlow x h'
    · rw [h']; exact hq
  · rcases e with e | e | e | e | e | e | ⟨u, hu, e⟩
    · rw [e]; exact Or.inl h.cb
    · exact Or.inr (Or.inl (h.cl i e.symm))
    · exact Or.inr (Or.inl (h.cm i e.symm))
    · exact Or.inr (Or.inl (h.cr i e.symm))
    · exact Or.inr (Or.inl (h.co i e.symm))
    · exact Or.inr (Or.inr (hrB i e.symm).2)
    · exact Or.inr (Or.inl (hvB u hu i e.symm).2)
end Go.Proofs.YtjcdnclfakmbpaaGreatDoor.V
namespace Go.Proofs.YtjcdnclfakmbpaaGreatDoor.V
open Go.RowKit Go.Proofs.YtjcdnclfakmbpaaGreatDoor.U Go.Proofs.YtjcdnclfakmbpaaGreatDoor.Q
def PSz (q : Nat × Nat) : Prop := q.1 = 5 ∨ q.1 = 6 ∨ q.1 = 7
theorem psz_pb {k : Nat} : ∀ q, PBz (PL k) q → PSz q := by
  rintro q (e | e | e | e | e)
  · subst e; exact Or.inl rfl
  · subst e; exact Or.inl rfl
  · subst e; exact Or.inl rfl
  · subst e; exact Or.inl rfl
  · exact Or.inr (Or.inr e.1)
theorem pl3 (k : Nat) : ¬ PL k (5, 3) := by
  rintro (e | e)
  · simp at e
  · have := e.1; simp at this
set_option maxRecDepth 100000 in
set_option maxHeartbeats 2000000 in
theorem settle_z (K : Knd) (w : World) (t : Nat) (G W : Value) (xs : List Gt) (b : Nat) (X : Rv) (L M : Value) (turn used : Nat) (ks rs : List Kl) (h : Lt K w t G W xs) (hb : Bz (fun q => q = (5, 2)) K w b X L M turn used ks rs) (hn : turn + xs.length ≤ 4000000) (hx : xs.length ≤ 20000) :
    Calls Tryz.prog 8 #[.pointer (some ⟨t, 0, none⟩), .pointer (some ⟨b, 0, none⟩), .int .i64 0] w fun e w' => e = .returned (.bool true) ∧ ∃ K' X' L' M' A' turn' used' ks' rs' F', Z w' 0 F' b X' L' M' A' turn' turn' used' ks' rs' ∧ Kp PSz K K' w w' := by
  have HL := hide h
  have HB := hide (hb.imp (P' := PL 0) (fun q e => Or.inl e))
  obtain ⟨q0, q1, qf⟩ := blk2 h.blk
  obtain ⟨lp, lc, hG⟩ := Q.owns_form h.gs
  subst hG
  clear h hb
  have l0 : ¬ (xs.length : Int) < 0 := by omega
  go_enter Tryz.func8, Tryz.ntmps8
  go_wp2_with fail
  refine (late_same K w t _ W xs HL.out (by omega)).mono ?_
  rintro e w1 ⟨rfl, q, rfl⟩
  have HM1 : Hid (Kp PSz K K w (w.drewN q)) := ⟨rfl, rfl, rfl, Nat.le_refl _, fun _ _ => rfl, fun _ _ _ => rfl⟩
  have HR1 := hide (HL.out.rest.keep (p := fun _ => False) (K' := K) (w' := w.drewN q) ⟨rfl, rfl, rfl, Nat.le_refl _, fun _ _ => rfl, fun _ _ _ => rfl⟩ (Nat.le_refl 0) (fun e => e) (fun _ _ e => e))
  have HB1 := hide (HB.out.keep (p := fun _ => False) (K' := K) (w' := w.drewN q) ⟨rfl, rfl, rfl, Nat.le_refl _, fun _ _ => rfl, fun _ _ _ => rfl⟩ (fun e => e) (fun e => e) (fun e => e) (fun e => e) (fun _ _ e => e) (pl3 0))
  generalize w.drewN q = w1 at *
  go_wp2
  go_loopw [7] (fun i wr => ∃ (k : Nat) (K1 : Knd) (L1 M1 : Value) (used1 : Nat) (ks1 : List Kl), k ≤ xs.length ∧ i = .int .i64 k ∧ Hid (Lr K1 wr t (.slice lp xs.length lc) W xs k) ∧ Hid (Bz (PL k) K1 wr b X L1 M1 (turn + k) used1 ks1 rs) ∧ Hid (Kp PSz K K1 w wr)) (fun i _ => xs.length - (intOf i).toNat)
  case atStart => exact ⟨0, K, L, M, used, ks, Nat.zero_le _, rfl, HR1, HB1, HM1⟩
  case round =>
    clear HR1 HB1 HM1 HB q0 q1 qf
    obtain ⟨k, K1, L1, M1, used1, ks1, hk, rfl, HR, HB, HM⟩ := hrel
    obtain ⟨q0, q1, qf⟩ := blk2 HR.out.blk
    by_cases hkl : k < xs.length
    · have hop : xs[k]? = some (xs[k]'hkl) := List.getElem?_eq_getElem _
      obtain ⟨gl, _, hgl, cl⟩ := row_cell HR.out.gs (k := k) (a := (xs[k]'hkl).val) (by simp [hop])
      cases hgl
      have hx := HR.out.rows k _ (Nat.le_refl k) hop
      have hnum := HR.out.num _ (List.mem_of_getElem? hop)
      have hcx := HR.out.cx k _ (Nat.le_refl k) hop
      generalize xs[k]'hkl = x at *
      obtain ⟨p, l, c, ys, wp, wc⟩ := x
      simp only [Gt.val] at cl hx hnum hcx
      clear hop
      have HC := hide (bzk_bytes (PL (k + 1)) (pl3 _) K1 wr b X L1 M1 (turn + k) used1 ks1 rs p l c ys (HB.out.imp (fun q e => e.imp id (fun e => ⟨e.1, by omega⟩))) (by omega) hx (fun x hx' g e e' => by
        have h1 := hcx g e
        rcases HB.out.ck x hx' g e' with h2 | h2
        · rw [h1] at h2; simp at h2
        · rw [h1] at h2; have := h2.2; simp at this) (fun g e => by rw [hcx g e]; exact Or.inr ⟨rfl, by show k < k + 1; omega⟩) hnum)
      clear hx hcx
      have l1 : (k : Int) < (xs.length : Int) := by omega
      have l2 : (0 : Int) ≤ (k : Int) := by omega
      go_wp2_with fail
      refine HC.out.mono ?_
      rintro e w2 ⟨rfl, L2, M2, used2, ks2, hb2, hm2⟩
      have HB2 := hide hb2
      have HM2 := hide (HM.out.trans (hm2.mono psz_pb))
      have HR2 := hide (HR.out.keep hm2 (Nat.le_succ k) (by rintro (e | e | e | e | e) <;> simp at e) (fun i hi => by
        rintro (e | e | e | e | e)
        · simp at e
        · simp at e
        · simp at e
        · simp at e
        · have := e.2; simp at this; omega))
      clear hb2 hm2 HC
      go_wp2
      go_roundw
      case rel => exact ⟨k + 1, _, L2, M2, used2, ks2, by omega, by go_num, HR2, HB2, HM2⟩
      case measure => simp [intOf]; omega
    · have l1 : ¬ (k : Int) < (xs.length : Int) := by omega
      have q1' : (wr.setCell ⟨t, 0, none⟩ (.slice none 0 0)).heap[t]? = some (.cells #[.slice none 0 0, W] 72 (0, 0)) := by rw [block_set HR.out.blk]; rfl
      obtain ⟨s0, s1, sf⟩ := blk2 q1'
      have HE : Hid (Kp (fun q => q = (6, 0)) K1 K1 wr ((wr.setCell ⟨t, 0, none⟩ (.slice none 0 0)).setCell ⟨t, 1, none⟩ (.slice none 0 0))) := ((Kp.refl (fun q => q = (6, 0)) K1 wr).setCell (Or.inr HR.out.ct) _ _).setCell (Or.inr HR.out.ct) _ _
      have HB3 := hide (HB.out.keep HE.out (by simp) (by simp) (by simp) (by simp) (fun q e e' => by subst e'; rcases e with e | e; simp at e; have := e.1; simp at this) (pl3 k))
      have hkl2 := HB3.out.kl
      have hrl2 := HB3.out.rl
      have hax := HB3.out.ax
      have HC := hide (bz_look _ 0 b _ X L1 M1 0 (turn + k) 0 used1 ks1 rs HB3.out.z (fun g e => e.2) (Nat.zero_le _) (Nat.zero_le _) (by omega) (fun j x _ hx => by have := HB3.out.low x (List.mem_of_getElem? hx); omega) (by omega) (by omega) (fun j x _ hx => by have := HB3.out.rlow x (List.mem_of_getElem? hx); omega))
      clear q1'
      go_wp2_with fail
      refine HC.out.mono ?_
      rintro e w4 ⟨rfl, X4, L4, M4, A4, ks4, rs4, F4, hz4, hm4⟩
      have hkp : Kp PSz K1 (ext K1 ((wr.setCell ⟨t, 0, none⟩ (.slice none 0 0)).setCell ⟨t, 1, none⟩ (.slice none 0 0)).heap.size (5, 2)) ((wr.setCell ⟨t, 0, none⟩ (.slice none 0 0)).setCell ⟨t, 1, none⟩ (.slice none 0 0)) w4 := kp_kept hm4 PSz K1 (5, 2) (fun i hi e => by
        rcases e with (e | e | e | ⟨x, hx, e⟩) | (e | e | e | ⟨x, hx, e⟩)
        · rw [e, HB3.out.cb]; exact Or.inl rfl
        · rw [HB3.out.cl i e.symm]; exact Or.inl rfl
        · rw [HB3.out.cm i e.symm]; exact Or.inl rfl
        · rcases HB3.out.ck x hx i e.symm with e2 | e2
          · rw [e2]; exact Or.inl rfl
          · exact Or.inr (Or.inr e2.1)
        · rw [e, HB3.out.cb]; exact Or.inl rfl
        · rw [HB3.out.cr i e.symm]; exact Or.inl rfl
        · rw [HB3.out.co i e.symm]; exact Or.inl rfl
        · rw [HB3.out.cx x hx i e.symm]; exact Or.inl rfl)
      have HF := hide ((HM.out.trans (HE.out.mono (q := PSz) (fun q e => by subst e; exact Or.inr (Or.inl rfl)))).trans hkp)
      have HZ4 := hide hz4
      clear hz4 hm4 hkp
      go_wp2
      go_ret
      exact ⟨rfl, _, X4, L4, M4, A4, _, _, ks4, rs4, F4, HZ4.out, HF.out⟩
set_option maxRecDepth 100000 in
set_option maxHeartbeats 1000000 in
theorem look_done (w : World) (N b : Nat) (F : Nat → Prop) (X : Rv) (L M : Value) (A turn used : Nat) (ks rs : List Kl) (h : Z w N F b X L M A turn turn used ks rs) :
    Calls Tryz.prog 9 #[.pointer (some ⟨b, 0, none⟩)] w fun e w' => e = .returned (.bool true) ∧ ∃ q, w' = w.drewN q := by
  have HK := hide h
  clear h
  go_enter Tryz.func9, Tryz.ntmps9
  go_wp2_with fail
  refine (bz_holds w N b F X L M A turn turn used ks rs HK.out).mono ?_
  rintro e w1 ⟨rfl, q, rfl⟩
  have HK1 := hide (HK.out.draws q)
  have HW : Hid (∃ q, w.drewN q = w.drewN q) := ⟨q, rfl⟩
  obtain ⟨w1, hw1⟩ : ∃ w1, w.drewN q = w1 := ⟨_, rfl⟩
  have HW1 := hide hw1
  rw [hw1] at HK1 ⊢
  clear HK hw1 HW
  have c54 := bk_cell HK1.out.bk.blk 54 (.int .i64 (turn : Int)) rfl
  have c55 := bk_cell HK1.out.bk.blk 55 (.int .i64 (turn : Int)) rfl
  have hb : ((turn : Int) == (turn : Int)) = true := by simp
  go_wp2
  go_quiet (fail)
  go_wp2
  go_ret
  exact ⟨rfl, q + nq, by rw [← HW1.out, World.drewN_drewN]⟩
end Go.Proofs.YtjcdnclfakmbpaaGreatDoor.V
