import Derived.Test.YtlnldipiofddkaaSetB
namespace Go.Proofs.Ytlnldipiofddkaa
open Go.RowKit

theorem bytesS_of {τ τ' : Nat → Nat} {w w' : World} {c : Nat} {sp : Option Addr} {xs : List Nat} (h : BytesS (fun k => τ k = c) w sp xs) (hb : Bytes w' sp xs) (hc : ∀ g, g < w.heap.size → τ g = c → τ' g = c) : BytesS (fun k => τ' k = c) w' sp xs := by
  refine ⟨hb.small, ?_⟩
  rcases hb.lie with h0 | ⟨g, o, e, hg, hcl⟩
  · exact Or.inl h0
  · rcases h.lie with h0 | ⟨g', o', e', hk, hg', _⟩
    · exact Or.inl h0
    · rw [e] at e'; cases e'
      exact Or.inr ⟨g, o, e, hc g hg' hk, hg, hcl⟩
theorem bytesS_row {T : Nat → Prop} {w : World} {a : Option Addr} {n c : Nat} {ys : List Nat} (h : w.ownsRow 0 5 1 (.slice a n c) n (vals ys)) (hs : ∀ y ∈ ys, y < 256) (hk : ∀ g, (Value.slice a n c).ownBlock = some g → T g) : BytesS T w a ys := by
  have hb := owns_bytes h hs
  refine ⟨hb.small, ?_⟩
  rcases hb.lie with h0 | ⟨g, o, e, hg, hcl⟩
  · exact Or.inl h0
  · subst e
    exact Or.inr ⟨g, o, rfl, hk g rfl, hg, hcl⟩
theorem bytesS_keep {S : Nat → Prop} {τ τ' : Nat → Nat} {w w' : World} {c : Nat} {sp : Option Addr} {xs : List Nat} (h : BytesS (fun k => τ k = c) w sp xs) (m : Mv S τ w τ' w') (hc : ¬ S c) : BytesS (fun k => τ' k = c) w' sp xs :=
  bytesS_of h (h.kept (fun _ hk hl => m.block hl hk hc) m.kept.size).bytes (fun _ hg hk => m.kind hg hk hc)

/-- A Writer, and what the document holds: kind 1. -/
structure Wt (τ : Nat → Nat) (w : World) (bw : Nat) (v held : Value) (x : List Nat) : Prop where
  wr : Wr w bw v x
  hd : w.ownsRow 0 5 1 held x.length (vals x)
  far : Far v held
  cb : τ bw = 1
  cv : ∀ g, v.ownBlock = some g → τ g = 1
  ch : ∀ g, held.ownBlock = some g → τ g = 1
theorem Wt.keep {S : Nat → Prop} {τ τ' : Nat → Nat} {w w' : World} {bw : Nat} {v held : Value} {x : List Nat} (h : Wt τ w bw v held x) (m : Mv S τ w τ' w') (h1 : ¬ S 1) : Wt τ' w' bw v held x :=
  ⟨h.wr.kept (m.block h.wr.lt h.cb h1) (fun g e => m.block (h.wr.rowLt g e) (h.cv g e) h1), owns_kept' h.hd (fun g e => m.block (owns_lt h.hd g e) (h.ch g e) h1), h.far, m.kind h.wr.lt h.cb h1, fun g e => m.kind (h.wr.rowLt g e) (h.cv g e) h1, fun g e => m.kind (owns_lt h.hd g e) (h.ch g e) h1⟩
theorem Wt.did {τ : Nat → Nat} {w w' : World} {bw : Nat} {v held v' held' : Value} {x y : List Nat} (h : Wt τ w bw v held x) (d : Did w bw v held w' v' held' y y) : Wt (ext τ w.heap.size 1) w' bw v' held' y ∧ Mv (fun c => c = 1) τ w (ext τ w.heap.size 1) w' := by
  have hfix : ∀ {X Y : Value}, (∀ g, Y.ownBlock = some g → τ g = 1) → (X.ownBlock = Y.ownBlock ∨ ∃ g, X.ownBlock = some g ∧ w.heap.size ≤ g) → ∀ g, X.ownBlock = some g → ext τ w.heap.size 1 g = 1 := fun h1 h3 g e => by
    rcases h3 with e' | ⟨g', e', hg'⟩
    · have := h1 g (by rw [← e', e])
      unfold ext
      split
      · exact this
      · rfl
    · rw [e'] at e; cases e; exact ext_new hg'
  refine ⟨⟨d.wr, d.hd, d.far, (ext_old h.wr.lt).trans h.cb, hfix h.cv d.vat, hfix h.ch d.hat⟩, Mv.of d.kept (fun k hk e => ?_) 1⟩
  rcases e with e | e | e
  · rw [e]; exact h.cb
  · exact h.cv k e.symm
  · exact h.ch k e.symm

/-- A Reader: kind 3. -/
structure Rt (τ : Nat → Nat) (w : World) (b h : Nat) (xs : List Nat) (a f : Nat) : Prop where
  rd : Rd w b h xs a f
  cb : τ b = 3
  hs : BytesS (fun k => τ k = 3) w (some ⟨h, 0, none⟩) xs
theorem Rt.keep {S : Nat → Prop} {τ τ' : Nat → Nat} {w w' : World} {b hb : Nat} {xs : List Nat} {a f : Nat} (h : Rt τ w b hb xs a f) (m : Mv S τ w τ' w') (h3 : ¬ S 3) : Rt τ' w' b hb xs a f :=
  ⟨⟨(m.block h.rd.lt h.cb h3).trans h.rd.blk, (bytesS_keep h.hs m h3).bytes, h.rd.len, h.rd.le⟩, m.kind h.rd.lt h.cb h3, bytesS_keep h.hs m h3⟩
theorem Rt.took {τ : Nat → Nat} {w w' : World} {b hb : Nat} {xs : List Nat} {a f a' f' : Nat} (h : Rt τ w b hb xs a f) (r : Rd w' b hb xs a' f') (k : But b w w') (d : Nat) : Rt (ext τ w.heap.size d) w' b hb xs a' f' ∧ Mv (fun c => c = 3) τ w (ext τ w.heap.size d) w' :=
  ⟨⟨r, (ext_old h.rd.lt).trans h.cb, bytesS_of h.hs r.held (fun _ hg e => (ext_old hg).trans e)⟩, Mv.of (kept_but k) (fun _ _ e => by rw [e]; exact h.cb) d⟩

/-- The document's Reader: kind 4, over bytes of kind 0. -/
structure Et (τ : Nat → Nat) (w : World) (b : Nat) (sp : Option Addr) (c : Nat) (xs : List Nat) (a f : Nat) : Prop where
  ey : Ey w b sp c xs a f
  cb : τ b = 4
  hs : BytesS (fun k => τ k = 0) w sp xs
theorem Et.keep {S : Nat → Prop} {τ τ' : Nat → Nat} {w w' : World} {b : Nat} {sp : Option Addr} {c : Nat} {xs : List Nat} {a f : Nat} (h : Et τ w b sp c xs a f) (m : Mv S τ w τ' w') (h4 : ¬ S 4) (h0 : ¬ S 0) : Et τ' w' b sp c xs a f :=
  ⟨⟨(m.block h.ey.lt h.cb h4).trans h.ey.blk, (bytesS_keep h.hs m h0).bytes, h.ey.form, h.ey.len, h.ey.cap, h.ey.most, h.ey.le⟩, m.kind h.ey.lt h.cb h4, bytesS_keep h.hs m h0⟩
theorem Et.took {τ : Nat → Nat} {w w' : World} {b : Nat} {sp : Option Addr} {c : Nat} {xs : List Nat} {a f a' f' : Nat} (h : Et τ w b sp c xs a f) (r : Ey w' b sp c xs a' f') (k : But b w w') (d : Nat) : Et (ext τ w.heap.size d) w' b sp c xs a' f' ∧ Mv (fun c => c = 4) τ w (ext τ w.heap.size d) w' :=
  ⟨⟨r, (ext_old h.ey.lt).trans h.cb, bytesS_of h.hs r.held (fun _ hg e => (ext_old hg).trans e)⟩, Mv.of (kept_but k) (fun _ _ e => by rw [e]; exact h.cb) d⟩

theorem mine_row {B : Nat} {w : World} {sp : Option Addr} {ys : List Nat} (h : Mine B w sp ys) (hl : ys.length ≤ 140737488355328) : w.ownsRow 0 5 1 (.slice sp ys.length ys.length) ys.length (vals ys) := by
  refine ⟨by rw [vals_len, Nat.mul_one], ?_⟩
  rcases h with ⟨rfl, rfl⟩ | ⟨g, rfl, _, hg⟩
  · exact Or.inl ⟨rfl, rfl⟩
  · exact Or.inr ⟨g, ys.length, _, rfl, Nat.zero_le _, hg, Nat.le_refl _, by unfold maxLen; omega, by simp [vals], by rw [Nat.mul_one]; exact List.take_of_length_le (by simp [vals])⟩
theorem mine_kind {B d : Nat} {τ : Nat → Nat} {w : World} {sp : Option Addr} {ys : List Nat} (h : Mine B w sp ys) (n m : Nat) : ∀ g, (Value.slice sp n m).ownBlock = some g → ext τ B d g = d := fun g e => by
  rcases h with ⟨rfl, _⟩ | ⟨g', rfl, hB, _⟩
  · simp [Value.ownBlock] at e
  · simp [Value.ownBlock] at e; subst e; exact ext_new hB
theorem got_len (xs : List Nat) (a : Nat) (x : It × Nat × Nat) : (got xs a x).length ≤ xs.length := by
  simp only [got, List.length_take, List.length_drop]; omega

/-- ALL THAT CodeFresh HOLDS, side by side. bx: the step's own block (kind 2). -/
structure Fs (τ0 : Nat → Nat) (u : World) (τ : Nat → Nat) (w : World) (bx : Option (Nat × Array Value)) (bw : Nat) (v held : Value) (x : List Nat) (rb rh : Nat) (xs : List Nat) (a f : Nat) (eb : Nat) (sp : Option Addr) (c a' f' : Nat) (b : Nat) (L M : Value) (A turn done used : Nat) (ks : List Kl) (n t : Nat) (G W : Value) (gs : List Gt) : Prop where
  base : Mv (fun c => c ≠ 0) τ0 u τ w
  box : ∀ B C, bx = some (B, C) → w.heap[B]? = some (.cells C 33 (0, 0)) ∧ τ B = 2
  wt : Wt τ w bw v held x
  rt : Rt τ w rb rh xs a f
  et : Et τ w eb sp c xs a' f'
  bt : Bt τ w b L M A turn done used ks
  jn : Jn A turn done used ks n
  lt : Lt τ w t G W gs

section
variable {τ0 τ τ' : Nat → Nat} {u w w' : World} {bx : Option (Nat × Array Value)} {bw : Nat} {v held : Value} {x : List Nat} {rb rh : Nat} {xs : List Nat} {a f eb : Nat} {sp : Option Addr} {c a' f' b : Nat} {L M : Value} {A turn done used : Nat} {ks : List Kl} {n t : Nat} {G W : Value} {gs : List Gt}

theorem Fs.boxes (F : Fs τ0 u τ w bx bw v held x rb rh xs a f eb sp c a' f' b L M A turn done used ks n t G W gs) {S : Nat → Prop} (m : Mv S τ w τ' w') (h2 : ¬ S 2) : ∀ B C, bx = some (B, C) → w'.heap[B]? = some (.cells C 33 (0, 0)) ∧ τ' B = 2 := fun B C e => by
  obtain ⟨h1, h2'⟩ := F.box B C e
  exact ⟨(m.block (lt_of_block h1) h2' h2).trans h1, m.kind (lt_of_block h1) h2' h2⟩

/-- Nothing has turned. -/
theorem Fs.still (F : Fs τ0 u τ w bx bw v held x rb rh xs a f eb sp c a' f' b L M A turn done used ks n t G W gs) (k : Below w.heap.size w w') (d : Nat) : Fs τ0 u (ext τ w.heap.size d) w' bx bw v held x rb rh xs a f eb sp c a' f' b L M A turn done used ks n t G W gs := by
  have m : Mv (fun _ => False) τ w (ext τ w.heap.size d) w' := Mv.of (kept_below (S := fun _ => False) k) (fun _ _ e => e) d
  exact ⟨F.base.trans m (fun _ e => e.elim), F.boxes m (fun e => e), F.wt.keep m (fun e => e), F.rt.keep m (fun e => e), F.et.keep m (fun e => e) (fun e => e), F.bt.keep m (fun e => e), F.jn, F.lt.keep m (fun e => e) (fun _ _ e => e)⟩

theorem Fs.boxed (F : Fs τ0 u τ w bx bw v held x rb rh xs a f eb sp c a' f' b L M A turn done used ks n t G W gs) (C : Array Value) : Fs τ0 u (ext τ w.heap.size 2) (w.alloc (.cells C 33)) (some (w.heap.size, C)) bw v held x rb rh xs a f eb sp c a' f' b L M A turn done used ks n t G W gs := by
  have F2 := F.still ((Below.refl _ _).alloc (Nat.le_refl _) (.cells C 33)) 2
  exact ⟨F2.base, fun B C' e => by cases e; exact ⟨heap_alloc_new _ _, ext_new (Nat.le_refl _)⟩, F2.wt, F2.rt, F2.et, F2.bt, F2.jn, F2.lt⟩
theorem Fs.forget (F : Fs τ0 u τ w bx bw v held x rb rh xs a f eb sp c a' f' b L M A turn done used ks n t G W gs) : Fs τ0 u τ w none bw v held x rb rh xs a f eb sp c a' f' b L M A turn done used ks n t G W gs :=
  ⟨F.base, by simp, F.wt, F.rt, F.et, F.bt, F.jn, F.lt⟩

theorem fs_writes (F : Fs τ0 u τ w bx bw v held x rb rh xs a f eb sp c a' f' b L M A turn done used ks n t G W gs) (o : Op1) (hn : o.Nums) (hb : BytesS (fun k => τ k = 0) w o.bp o.bs) (hlen : x.length + o.bl + 100 ≤ 140737488351232) :
    Calls Try.prog 12 #[.pointer (some ⟨bw, 0, none⟩), held, .agg #[.int .i64 o.kind, .int .i64 o.which, .int .i64 o.m, .int .u64 (o.n : Int), .slice o.bp o.bl o.bc]] w fun e w' => ∃ v' h' new, e = .returned (.tuple #[h', .bool true]) ∧ new.length ≤ o.bl + 10 ∧
      Fs τ0 u (ext τ w.heap.size 1) w' bx bw v' h' (x ++ new) rb rh xs a f eb sp c a' f' b L M A turn done used ks n t G W gs := by
  refine (writes_any w bw v held x o F.wt.wr F.wt.hd F.wt.far hn (hb.imp (fun k _ e ht => ?_)) hlen).mono ?_
  · rcases ht with e' | e' | e'
    · rw [e', F.wt.cb] at e; omega
    · have := F.wt.cv k e'.symm; omega
    · have := F.wt.ch k e'.symm; omega
  · rintro e w' ⟨v', h', new, rfl, hl, d⟩
    obtain ⟨hw, m⟩ := F.wt.did d
    exact ⟨v', h', new, rfl, hl, F.base.trans m (by omega), F.boxes m (by omega), hw, F.rt.keep m (by omega), F.et.keep m (by omega) (by omega), F.bt.keep m (by omega), F.jn, F.lt.keep m (by omega) (by omega)⟩

/-- An answer, not kept yet. -/
structure Gx (τ : Nat → Nat) (w : World) (n : Nat) (s : Option Addr) (ys : List Nat) : Prop where
  row : w.ownsRow 0 5 1 (.slice s ys.length ys.length) ys.length (vals ys)
  kind : ∀ g, (Value.slice s ys.length ys.length).ownBlock = some g → τ g = 10 + n
  len : ys.length ≤ 140737488355328
theorem Gx.keep {S : Nat → Prop} {s : Option Addr} {ys : List Nat} (h : Gx τ w n s ys) (m : Mv S τ w τ' w') (hS : ¬ S (10 + n)) : Gx τ' w' n s ys :=
  ⟨owns_kept' h.row (fun g e => m.block (owns_lt h.row g e) (h.kind g e) hS), fun g e => m.kind (owns_lt h.row g e) (h.kind g e) hS, h.len⟩

theorem Fs.rtook (F : Fs τ0 u τ w bx bw v held x rb rh xs a f eb sp c a' f' b L M A turn done used ks n t G W gs) {y : List Nat} {a1 f1 : Nat} {e : Ending} (hy : y.length ≤ xs.length) (k : TookBytes w w' rb rh xs y a1 f1 e) :
    ∃ s, e = .returned (.slice s y.length y.length) ∧ Gx (ext τ w.heap.size (10 + gs.length)) w' gs.length s y ∧ Fs τ0 u (ext τ w.heap.size (10 + gs.length)) w' bx bw v held x rb rh xs a1 f1 eb sp c a' f' b L M A turn done used ks n t G W gs := by
  obtain ⟨s, he, hm, hs, hr, hb⟩ := k
  obtain ⟨hrt, m⟩ := F.rt.took hr hb (10 + gs.length)
  have hl := F.rt.rd.len
  exact ⟨s, he, ⟨mine_row hm (by omega), mine_kind hm _ _, by omega⟩, F.base.trans m (by omega), F.boxes m (by omega), F.wt.keep m (by omega), hrt, F.et.keep m (by omega) (by omega), F.bt.keep m (by omega), F.jn, F.lt.keep m (by omega) (by omega)⟩

theorem Fs.etook (F : Fs τ0 u τ w bx bw v held x rb rh xs a f eb sp c a' f' b L M A turn done used ks n t G W gs) {y : List Nat} {a1 f1 : Nat} {e : Ending} (k : EyeBytes w w' eb sp c xs y a1 f1 e) :
    ∃ s q, e = .returned (.slice s y.length q) ∧ BytesS (fun k => ext τ w.heap.size 4 k ≠ 6) w' s y ∧ Fs τ0 u (ext τ w.heap.size 4) w' bx bw v held x rb rh xs a f eb sp c a1 f1 b L M A turn done used ks n t G W gs ∧ Mv (fun c => c = 4) τ w (ext τ w.heap.size 4) w' := by
  obtain ⟨s, q, he, hy, hs, hr, hb⟩ := k
  obtain ⟨het, m⟩ := F.et.took hr hb 4
  refine ⟨s, q, he, ⟨hy.small, ?_⟩, ⟨F.base.trans m (by omega), F.boxes m (by omega), F.wt.keep m (by omega), F.rt.keep m (by omega), het, F.bt.keep m (by omega), F.jn, F.lt.keep m (by omega) (by omega)⟩, m⟩
  rcases hy.lie with h0 | ⟨g, o, e', hg, hc⟩
  · exact Or.inl h0
  · exact Or.inr ⟨g, o, e', by rw [ext_new (hs _ e')]; omega, hg, hc⟩

theorem fs_add (F : Fs τ0 u τ w bx bw v held x rb rh xs a f eb sp c a' f' b L M A turn done used ks n t G W gs) {s s2 : Option Addr} {y : List Nat} (q : Nat) (g : Gx τ w gs.length s y) (hy : BytesS (fun k => τ k ≠ 6) w s2 y) (hg : gs.length ≤ 1000) :
    Calls Try.prog 28 #[.pointer (some ⟨t, 0, none⟩), .slice s y.length y.length, .slice s2 y.length q] w fun e w' => e = .returned (.tuple #[]) ∧ ∃ G' W' z,
      Fs τ0 u (ext τ w.heap.size 6) w' bx bw v held x rb rh xs a f eb sp c a' f' b L M A turn done used ks n t G' W' (gs ++ [z]) := by
  refine (late_add τ w t G W gs s y.length y.length y s2 q F.lt g.row g.kind hy g.len hg).mono ?_
  rintro e w' ⟨rfl, G', W', wp, wc, hl, m⟩
  exact ⟨rfl, G', W', _, F.base.trans m (by omega), F.boxes m (by omega), F.wt.keep m (by omega), F.rt.keep m (by omega), F.et.keep m (by omega) (by omega), F.bt.keep m (by omega), F.jn, hl⟩

theorem fs_out (F : Fs τ0 u τ w bx bw v held x rb rh xs a f eb sp c a' f' b L M A turn done used ks n t G W gs) (hlen : x.length ≤ 140737488355328) :
    Calls Try.prog 14 #[.pointer (some ⟨bw, 0, none⟩)] w fun e w' => ∃ s, e = .returned (.slice s x.length x.length) ∧ Gx (ext τ w.heap.size (10 + gs.length)) w' gs.length s x ∧
      Fs τ0 u (ext τ w.heap.size (10 + gs.length)) w' bx bw v held x rb rh xs a f eb sp c a' f' b L M A turn done used ks n t G W gs := by
  refine (out_any w bw v x F.wt.wr hlen).mono ?_
  rintro e w' ⟨rfl, rfl⟩
  have hm : Mine w.heap.size (w.alloc (.cells (vals x).toArray 5)) (some ⟨w.heap.size, 0, none⟩) x := Or.inr ⟨w.heap.size, rfl, Nat.le_refl _, heap_alloc_new _ _⟩
  exact ⟨_, rfl, ⟨mine_row hm hlen, mine_kind hm _ _, hlen⟩, F.still ((Below.refl _ _).alloc (Nat.le_refl _) _) _⟩

/-- What is held, as bytes that may be wanted. -/
theorem Fs.wanted (F : Fs τ0 u τ w bx bw v held x rb rh xs a f eb sp c a' f' b L M A turn done used ks n t G W gs) : ∃ s q, held = .slice s x.length q ∧ BytesS (fun k => τ k ≠ 6) w s x := by
  obtain ⟨s, q, e, _⟩ := owns_form F.wt.hd
  subst e
  exact ⟨s, q, rfl, bytesS_row F.wt.hd F.wt.wr.small (fun g e => by rw [F.wt.ch g e]; omega)⟩

theorem fs_settle (F : Fs τ0 u τ w bx bw v held x rb rh xs a f eb sp c a' f' b L M A turn done used ks n t G W gs) (m : Nat) (hm : m ≤ 1000) (hn : n + gs.length ≤ 5000) :
    Calls Try.prog 32 #[.pointer (some ⟨t, 0, none⟩), .pointer (some ⟨b, 0, none⟩), .int .i64 m] w fun e w' => e = .returned (.bool true) ∧ ∃ τ' L' M' A' turn' done' used' ks' n' G' W' gs',
      Fs τ0 u τ' w' bx bw v held x rb rh xs a f eb sp c a' f' b L' M' A' turn' done' used' ks' n' t G' W' gs' ∧ n' + gs'.length ≤ n + gs.length ∧ (gs'.length < m ∨ gs' = []) := by
  refine (late_settle τ w t G W gs b L M A turn done used ks n m F.lt F.bt F.jn hn hm).mono ?_
  rintro e w' ⟨rfl, τ', G', W', L', M', A', turn', done', used', ks', n', gs', s⟩
  have k := s.mv
  exact ⟨rfl, τ', L', M', A', turn', done', used', ks', n', G', W', gs', ⟨F.base.trans k (by omega), F.boxes k (by omega), F.wt.keep k (by omega), F.rt.keep k (by omega), F.et.keep k (by omega) (by omega), s.bt, s.jn, s.lt⟩, s.sum, s.few⟩

theorem fs_look (F : Fs τ0 u τ w bx bw v held x rb rh xs a f eb sp c a' f' b L M A turn done used ks n t G W gs) (hn : n ≤ 5000) :
    Calls Try.prog 33 #[.pointer (some ⟨b, 0, none⟩)] w fun e w' => e = .returned (.bool true) ∧ ∃ L' M' A' done' ks',
      Fs τ0 u (ext τ w.heap.size 5) w' bx bw v held x rb rh xs a f eb sp c a' f' b L' M' A' turn done' used ks' n t G W gs := by
  refine (bt_look τ w b L M A turn done used ks n F.bt F.jn (by omega)).mono ?_
  rintro e w' ⟨rfl, L', M', A', done', ks', hb, hj, m⟩
  exact ⟨rfl, L', M', A', done', ks', F.base.trans m (by omega), F.boxes m (by omega), F.wt.keep m (by omega), F.rt.keep m (by omega), F.et.keep m (by omega) (by omega), hb, hj, F.lt.keep m (by omega) (by omega)⟩
end

end Go.Proofs.Ytlnldipiofddkaa
