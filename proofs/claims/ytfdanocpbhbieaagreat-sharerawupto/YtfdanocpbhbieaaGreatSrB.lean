import Derived.Test.YtfdanocpbhbieaaGreatRbI
import Derived.Test.YtfdanocpbhbieaaGreatZBk
import Derived.Test.YtfdanocpbhbieaaGreatShM
namespace Go.Proofs.YtfdanocpbhbieaaGreat
open Go.RowKit Go.Sort
open Z (Sli SlOk Acd AcdOk AcLent Acts AcsLent)

/-- Blocks from lo up to hi are as they were. -/
def Iv (lo hi : Nat) (w w' : World) : Prop := ∀ k, lo ≤ k → k < hi → w'.heap[k]? = w.heap[k]?
theorem Iv.refl (lo hi : Nat) (w : World) : Iv lo hi w w := fun _ _ _ => rfl
theorem Iv.trans {lo hi : Nat} {w1 w2 w3 : World} (h : Iv lo hi w1 w2) (k : Iv lo hi w2 w3) : Iv lo hi w1 w3 := fun i h1 h2 => (k i h1 h2).trans (h i h1 h2)
theorem iv_below {lo hi : Nat} {w w' : World} (hb : Below w.heap.size w w') (hh : hi ≤ w.heap.size) : Iv lo hi w w' := fun k _ h2 => hb.block k (Nat.lt_of_lt_of_le h2 hh)
theorem iv_kept {lo hi : Nat} {S : Nat → Prop} {w w' : World} (hk : RB.Kept S w w') (hh : hi ≤ w.heap.size) (hS : ∀ k, S k → k < lo ∨ hi ≤ k) : Iv lo hi w w' := fun k h1 h2 => hk.block k (Nat.lt_of_lt_of_le h2 hh) (fun s => by rcases hS k s with h | h <;> omega)
theorem Iv.own {lo hi : Nat} {w w' : World} (h : Iv lo hi w w') (hs : w.heap.size ≤ hi) {e : TypeId} {sz n : Nat} {v : Value} {xs : List Value} (ho : w.ownsRow lo e sz v n xs) : w'.ownsRow lo e sz v n xs :=
  RB.owns_kept' ho (fun g e => h g (RB.owns_low ho g e) (Nat.lt_of_lt_of_le (RB.owns_lt ho g e) hs))
theorem StaLent.by {B B' : Nat} {w w' : World} {s r : Sta} (h : StaLent B w s r) (hk : ∀ e' sz' v n xs, w.ownsRow B e' sz' v n xs → w'.ownsRow B' e' sz' v n xs) : StaLent B' w' s r := by
  obtain ⟨pos, ⟨pl, pn, gp, ep, hp⟩, held, ⟨rl, rn, gr, er, hr⟩, ⟨ll, ln, gl, el, hl⟩, ⟨gl', gn, gg, eg, hg⟩, ⟨ol, on, go, eo, ho⟩⟩ := h
  refine ⟨pos, ⟨pl, pn, gp, ep, hk _ _ _ _ _ hp⟩, ?_, ⟨rl, rn, gr, er, hk _ _ _ _ _ hr⟩, ⟨ll, ln, gl, el, hk _ _ _ _ _ hl⟩, ⟨gl', gn, gg, eg, hk _ _ _ _ _ hg⟩, ⟨ol, on, go, eo, hk _ _ _ _ _ ho⟩⟩
  intro i x y hx hy
  obtain ⟨h1, h2, h3, h4, h5, g, h6, h7⟩ := held i x y hx hy
  exact ⟨h1, h2, h3, h4, h5, g, h6, hk _ _ _ _ _ h7⟩
theorem AcsLent.by {B B' : Nat} {w w' : World} {a : Option Addr} {c : Nat} {xs ys : List Acd} (h : AcsLent B w a c xs ys) (hk : ∀ e' sz' v n xs, w.ownsRow B e' sz' v n xs → w'.ownsRow B' e' sz' v n xs) : AcsLent B' w' a c xs ys :=
  ⟨h.same, fun y hy => (h.each y hy).by hk, hk _ _ _ _ _ h.row⟩

/-- The Book of the law. -/
structure SR (w0 wr : World) (L M : Value) (A turn done used : Nat) (ks : List RB.Kl) (n : Nat) : Prop where
  bk : RB.Bk wr w0.heap.size w0.heap.size L M A turn done used ks
  bel : Below w0.heap.size w0 wr
  a : A ≤ ks.length
  len : ks.length + 32 * (ks.length - A) ≤ 33 * n
  tn : turn ≤ n
  us : used ≤ 16777216
  low : ∀ j x, A ≤ j → ks[j]? = some x → x.l ≤ 99999999000
/-- The Book's blocks lie in no block from lo up to hi. -/
structure Avd (lo hi b : Nat) (L M : Value) (ks : List RB.Kl) : Prop where
  b : b < lo
  l : ∀ g, L.ownBlock = some g → g < lo ∨ hi ≤ g
  m : ∀ g, M.ownBlock = some g → g < lo ∨ hi ≤ g
  k : ∀ k ∈ ks, ∀ g, k.val.ownBlock = some g → g < lo ∨ hi ≤ g
def Sr0 (w0 wr : World) (n : Nat) : Prop := ∃ L M A turn done used ks, SR w0 wr L M A turn done used ks n
def Srs (w0 wr : World) (lo hi n : Nat) : Prop := ∃ L M A turn done used ks, SR w0 wr L M A turn done used ks n ∧ Avd lo hi w0.heap.size L M ks
theorem SR.below {w0 wr w' : World} {L M : Value} {A turn done used : Nat} {ks : List RB.Kl} {n : Nat} (h : SR w0 wr L M A turn done used ks n) (hb : Below wr.heap.size wr w') : SR w0 w' L M A turn done used ks n :=
  ⟨h.bk.below hb, h.bel.trans (hb.mono h.bel.size), h.a, h.len, h.tn, h.us, h.low⟩
theorem Sr0.below {w0 wr w' : World} {n : Nat} (h : Sr0 w0 wr n) (hb : Below wr.heap.size wr w') : Sr0 w0 w' n := by
  obtain ⟨L, M, A, turn, done, used, ks, h⟩ := h
  exact ⟨L, M, A, turn, done, used, ks, h.below hb⟩
theorem Srs.below {w0 wr w' : World} {lo hi n : Nat} (h : Srs w0 wr lo hi n) (hb : Below wr.heap.size wr w') : Srs w0 w' lo hi n := by
  obtain ⟨L, M, A, turn, done, used, ks, h, ha⟩ := h
  exact ⟨L, M, A, turn, done, used, ks, h.below hb, ha⟩
theorem Srs.bel {w0 wr : World} {lo hi n : Nat} (h : Srs w0 wr lo hi n) : Below w0.heap.size w0 wr := by
  obtain ⟨L, M, A, turn, done, used, ks, h, ha⟩ := h
  exact h.bel
theorem Sr0.bel {w0 wr : World} {n : Nat} (h : Sr0 w0 wr n) : Below w0.heap.size w0 wr := by
  obtain ⟨L, M, A, turn, done, used, ks, h⟩ := h
  exact h.bel
theorem Sr0.more {w0 wr : World} {n m : Nat} (h : Sr0 w0 wr n) (hm : n ≤ m) : Sr0 w0 wr m := by
  obtain ⟨L, M, A, turn, done, used, ks, h⟩ := h
  exact ⟨L, M, A, turn, done, used, ks, h.bk, h.bel, h.a, by have := h.len; omega, by have := h.tn; omega, h.us, h.low⟩
theorem Sr0.start {w0 wr : World} {n : Nat} (h : Sr0 w0 wr n) (hi : Nat) : Srs w0 wr wr.heap.size hi n := by
  obtain ⟨L, M, A, turn, done, used, ks, h⟩ := h
  exact ⟨L, M, A, turn, done, used, ks, h, ac_lt h.bk.blk, fun g e => Or.inl (RB.owns_lt h.bk.ls g e), fun g e => Or.inl (RB.owns_lt h.bk.ms g e), fun k hk g e => Or.inl (RB.owns_lt (h.bk.rows k hk) g e)⟩

theorem srs_rights {w0 v wr : World} {lo hi n : Nat} (h : Srs w0 v lo hi n) (hn : n ≤ 1000) (hhi : hi ≤ v.heap.size) (hb : Below v.heap.size v wr) (p : Option Addr) (len cc : Nat) (ys : List Tri) (hrow : wr.ownsRow v.heap.size 82 3 (.slice p len cc) len (rcells ys)) (hlen : len ≤ 1100000000) :
    Calls Tryz.prog 7 #[.pointer (some ⟨w0.heap.size, 0, none⟩), .slice p len cc] wr fun e w' => e = .returned (.tuple #[]) ∧ Srs w0 w' lo hi (n + 1) ∧ Iv lo hi wr w' ∧ wr.heap.size ≤ w'.heap.size := by
  obtain ⟨L, M, A, turn, done, used, ks, h, ha⟩ := h
  have hN : w0.heap.size ≤ v.heap.size := h.bel.size
  have hlk := h.len
  have htn := h.tn
  have hfar : ∀ k ∈ ks, RB.Far (.slice p len cc) k.val := fun k hk g e e' => by
    have h1 := RB.owns_low hrow g e
    have h2 := RB.owns_lt (h.bk.rows k hk) g e'
    omega
  have h' := h.below hb
  refine (RB.bk_rights wr w0.heap.size w0.heap.size L M A turn done used ks p len cc ys h'.bk (Z.owns_le hrow hN) hfar h'.bel.size (by omega) hlen h.us (by omega)).mono ?_
  rintro e w' ⟨rfl, L', M', used', ks', hb', hu, hks', hkept, hL, hM⟩
  have hvs : v.heap.size ≤ wr.heap.size := hb.size
  have hS : ∀ k, RB.BkS w0.heap.size L M (.slice p len cc) k → k < lo ∨ hi ≤ k := by
    rintro k (e | e | e | e)
    · have := ha.b; omega
    · exact ha.l k e.symm
    · exact ha.m k e.symm
    · have := RB.owns_low hrow k e.symm; omega
  refine ⟨rfl, ⟨L', M', A, turn + 1, done, used', ks', ⟨hb', ?_, ?_, ?_, by omega, hu, ?_⟩, ha.b, ?_, ?_, ?_⟩, iv_kept hkept (by omega) hS, hkept.size⟩
  · refine h'.bel.trans ⟨hkept.os, hkept.tape, hkept.output, hkept.size, fun k hk => hkept.block k (Nat.lt_of_lt_of_le hk h'.bel.size) ?_⟩
    rintro (e | e | e | e)
    · omega
    · have := RB.owns_low h.bk.ls k e.symm; omega
    · have := RB.owns_low h.bk.ms k e.symm; omega
    · have := RB.owns_low hrow k e.symm; omega
  · rcases hks' with rfl | ⟨rfl, hs⟩
    · exact h.a
    · have := h.a; simp; omega
  · rcases hks' with rfl | ⟨rfl, hs⟩
    · omega
    · have := h.a; simp; omega
  · intro j x hj hx
    rcases hks' with rfl | ⟨rfl, hs⟩
    · exact h.low j x hj hx
    · rcases Nat.lt_or_ge j ks.length with h1 | h1
      · rw [List.getElem?_append_left h1] at hx; exact h.low j x hj hx
      · rw [List.getElem?_append_right h1] at hx
        have := List.mem_of_getElem? hx
        simp at this
        subst this
        show len ≤ _
        omega
  · intro g e
    rcases hL with h1 | ⟨g', h1, h2⟩
    · exact ha.l g (h1 ▸ e)
    · rw [h1] at e; cases e; right; omega
  · intro g e
    rcases hM with h1 | ⟨g', h1, h2⟩
    · exact ha.m g (h1 ▸ e)
    · rw [h1] at e; cases e; right; omega
  · intro k hk g e
    rcases hks' with rfl | ⟨rfl, hs⟩
    · exact ha.k k hk g e
    · rcases List.mem_append.1 hk with h1 | h1
      · exact ha.k k h1 g e
      · simp at h1; subst h1
        have := RB.owns_low hrow g e
        right; omega
theorem srs_look {w0 wr : World} {lo hi n : Nat} (h : Srs w0 wr lo hi n) (hn : n ≤ 1000) (hhi : hi ≤ wr.heap.size) :
    Calls Tryz.prog 13 #[.pointer (some ⟨w0.heap.size, 0, none⟩)] wr fun e w' => e = .returned (.bool true) ∧ Sr0 w0 w' n ∧ Iv lo hi wr w' ∧ wr.heap.size ≤ w'.heap.size := by
  obtain ⟨L, M, A, turn, done, used, ks, h, ha⟩ := h
  have hlk := h.len
  have hA := h.a
  refine (RB.bk_look wr w0.heap.size w0.heap.size L M A turn done used ks h.bk h.bel.size h.a (by omega) h.low).mono ?_
  rintro e w' ⟨rfl, L', M', ks2, A2, done2, hg, hl2, hcase⟩
  refine ⟨rfl, ⟨L', M', A2, turn, done2, used, ks2, hg.bk, ?_, ?_, ?_, h.tn, h.us, ?_⟩, iv_kept hg.kept hhi ?_, hg.kept.size⟩
  · refine h.bel.trans ⟨hg.kept.os, hg.kept.tape, hg.kept.output, hg.kept.size, fun k hk => hg.kept.block k (Nat.lt_of_lt_of_le hk h.bel.size) ?_⟩
    rintro (e | e | e | ⟨x, hx, e⟩)
    · omega
    · have := RB.owns_low h.bk.ls k e.symm; omega
    · have := RB.owns_low h.bk.ms k e.symm; omega
    · have := RB.owns_low (h.bk.rows x hx) k e.symm; omega
  · rcases hcase with ⟨h1, _⟩ | ⟨h1, h2, _⟩
    · omega
    · rw [h1, h2]; exact hA
  · rcases hcase with ⟨h1, _⟩ | ⟨h1, h2, _⟩
    · omega
    · rw [h1, h2]; exact hlk
  · intro j x hj hx
    rcases hcase with ⟨h1, _⟩ | ⟨h1, h2, _⟩
    · have := (List.getElem?_eq_some_iff.1 hx).1; omega
    · rw [h1] at hj; rw [h2] at hx; exact h.low j x hj hx
  · rintro k (e | e | e | ⟨x, hx, e⟩)
    · have := ha.b; omega
    · exact ha.l k e.symm
    · exact ha.m k e.symm
    · exact ha.k x hx k e.symm
end Go.Proofs.YtfdanocpbhbieaaGreat
namespace Go.Proofs.YtfdanocpbhbieaaGreat
open Go.RowKit Go.Sort
open Z (Sli SlOk Acd AcdOk AcLent Acts AcsLent Rka RkIn)

/-- What a round has lent: the question's box, the state's, the lists. -/
structure Rd (w : World) (lo gs : Nat) (x : Rka) (r : Sta) (aa : Option Addr) (ac : Nat) (ys : List Acd) (ma : Option Addr) (mc : Nat) (W : World) : Prop where
  st : StaLent lo W x.s r
  ac : AcsLent lo W aa ac x.a.xs ys
  ln : Z.Lent lo W 87 2 linc (⟨777, 7⟩ : Lin) ma mc x.m.xs
  box : W.heap[lo]? = some (.cells x.arr 55 (0, 0))
  bst : W.heap[gs]? = some (.cells r.arr 51 (0, 0))
  bel : Below w.heap.size w W
variable {w W W' : World} {lo hi gs : Nat} {x : Rka} {r : Sta} {aa ma : Option Addr} {ac mc : Nat} {ys : List Acd}
theorem Rd.iv (h : Rd w lo gs x r aa ac ys ma mc W) (hs : W.heap.size ≤ hi) (hlo : lo < hi) (hg : lo ≤ gs) (hi' : gs < hi) (i : Iv lo hi W W') (hb : Below w.heap.size w W') : Rd w lo gs x r aa ac ys ma mc W' :=
  ⟨h.st.by (fun _ _ _ _ _ ho => i.own hs ho), AcsLent.by h.ac (fun _ _ _ _ _ ho => i.own hs ho), i.own hs h.ln, (i lo (Nat.le_refl _) hlo).trans h.box, (i gs hg hi').trans h.bst, hb⟩
theorem Rd.sta (h : Rd w lo gs x r aa ac ys ma mc W) (hx : RkIn w x) : StaBk W x.s r ∧ StaOk W r := h.st.bk hx.st.ok
theorem Rd.stx (h : Rd w lo gs x r aa ac ys ma mc W) (hx : RkIn w x) : StaOk W x.s := hx.st.ok.below h.bel
theorem d_mem {xs ys : List Acd} (h : ys.map (·.d) = xs.map (·.d)) {y : Acd} (hy : y ∈ ys) : ∃ x ∈ xs, y.d = x.d := by
  have : y.d ∈ ys.map (·.d) := List.mem_map.2 ⟨y, hy, rfl⟩
  rw [h] at this
  obtain ⟨x, hx, e⟩ := List.mem_map.1 this
  exact ⟨x, hx, e.symm⟩
theorem d_len {xs ys : List Acd} (h : ys.map (·.d) = xs.map (·.d)) : ys.length = xs.length := by
  have := congrArg List.length h
  simpa using this
theorem Rd.acts (h : Rd w lo gs x r aa ac ys ma mc W) (hx : RkIn w x) : Acts W ⟨aa, x.a.n, ac, ys⟩ := by
  have hl := d_len h.ac.same
  have hn : x.a.n = ys.length := by rw [hl]; exact hx.acts.len.symm
  refine ⟨lent_slok (s := ⟨aa, x.a.n, ac, ys⟩) (fun _ => rfl) h.ac.row hn hx.acts.most, fun y hy => ?_⟩
  obtain ⟨a, ha, hd⟩ := d_mem h.ac.same hy
  exact lent_acd (h.ac.each y hy) (hx.each a ha).ok hd
theorem Rd.aws (h : Rd w lo gs x r aa ac ys ma mc W) (hx : RkIn w x) : ∀ a ∈ ys, AwS a := fun y hy => by
  obtain ⟨a, ha, hd⟩ := d_mem h.ac.same hy
  have hI := hx.each a ha
  simp only [Z.Acd.d, Z.AcP.mk.injEq] at hd
  obtain ⟨_, _, _, _, e1, e2, e3, _, e4, e6, e7, e8, _, _, e5⟩ := hd
  exact ⟨fun z hz => hI.lines z (by rw [← e1]; exact hz), fun z hz => hI.rights z (by rw [← e5]; exact hz), by rw [e6, e7, e8]; exact hI.right⟩
theorem Rd.lines (h : Rd w lo gs x r aa ac ys ma mc W) (hx : RkIn w x) : SlOk W 2 linc ⟨ma, x.m.n, mc, x.m.xs⟩ := lent_slok (s := ⟨ma, x.m.n, mc, x.m.xs⟩) (fun _ => rfl) h.ln hx.lines.len.symm hx.lines.most
theorem Rd.pools (h : Rd w lo gs x r aa ac ys ma mc W) (hx : RkIn w x) : r.pn ≤ 4194304 ∧ (∀ p ∈ r.pools, p.hl ≤ 4194304) ∧ StaWf r := by
  have hp := h.st.pools
  have hh := h.st.held
  have e : ∀ q ∈ r.pools, ∃ p ∈ x.s.pools, q.hl = p.hl ∧ q.hs = p.hs := fun q hq => by
    obtain ⟨i, hi, e⟩ := List.mem_iff_getElem.1 hq
    have h1 : x.s.pools[i]? = some (x.s.pools[i]'(by rw [← hp.1]; exact hi)) := List.getElem?_eq_getElem _
    have h2 := hh i _ q h1 (by rw [← e]; exact List.getElem?_eq_getElem hi)
    exact ⟨_, List.getElem_mem _, h2.hl, h2.hs⟩
  refine ⟨by rw [hp.2.1]; exact hx.st.pn, fun q hq => ?_, fun q hq l hl => ?_⟩
  · obtain ⟨p, hp, e1, _⟩ := e q hq
    rw [e1]; exact hx.st.hl p hp
  · obtain ⟨p, hp, _, e2⟩ := e q hq
    exact hx.st.wf p hp l (by rw [← e2]; exact hl)
theorem Rd.avail (h : Rd w lo gs x r aa ac ys ma mc W) (hx : RkIn w x) (hn : x.a.n ≤ 256) :
    Calls Tryz.prog 8 #[.agg r.arr, .slice aa x.a.n ac, .int .i64 x.t] W fun e w' => ∃ p len cc zs, e = .returned (.slice p len cc) ∧ w'.ownsRow W.heap.size 82 3 (.slice p len cc) len (rcells zs) ∧ len ≤ 1100000000 ∧ Below W.heap.size W w' := by
  obtain ⟨h1, h2, h3⟩ := h.pools hx
  refine (avail_any W r (h.sta hx).2 h3 h1 h2 ⟨aa, x.a.n, ac, ys⟩ (h.acts hx) (h.aws hx) hn x.t).mono ?_
  rintro e w' ⟨v, rfl, hr, hl, hb⟩
  obtain ⟨p, cc, rfl⟩ := slice_form hr
  exact ⟨p, _, cc, _, rfl, hr, by omega, hb⟩
theorem Rd.may (h : Rd w lo gs x r aa ac ys ma mc W) (hx : RkIn w x) (hn : x.a.n ≤ 256) :
    Calls Tryz.prog 9 #[.agg r.arr, .slice aa x.a.n ac, .int .i64 x.t, .slice ma x.m.n mc] W fun e w' => ∃ b, e = .returned (.bool b) ∧ Below W.heap.size W w' := by
  obtain ⟨h1, h2, h3⟩ := h.pools hx
  refine (may_any W r (h.sta hx).2 h3 h1 h2 ⟨aa, x.a.n, ac, ys⟩ (h.acts hx) (h.aws hx) (by show x.a.n ≤ _; omega) x.t ⟨ma, x.m.n, mc, x.m.xs⟩ (h.lines hx) hx.wf).mono ?_
  rintro e w' ⟨rfl, hb⟩
  exact ⟨_, rfl, hb⟩
theorem Rd.backS (h : Rd w lo gs x r aa ac ys ma mc W) (hx : RkIn w x) :
    Calls Tryz.prog 10 #[.agg r.arr, .agg x.s.arr] W fun e w' => e = .returned (.bool true) ∧ Below W.heap.size W w' :=
  backState_v W x.s r (h.stx hx) hx.st.small (h.sta hx).1
theorem Rd.backA (h : Rd w lo gs x r aa ac ys ma mc W) (hx : RkIn w x) :
    Calls Tryz.prog 11 #[.slice aa x.a.n ac, .slice x.a.p x.a.n x.a.c] W fun e w' => e = .returned (.bool true) ∧ Below W.heap.size W w' :=
  Z.backActs_any W x.a ⟨hx.acts.below h.bel, fun y hy => ((hx.each y hy).ok).below h.bel⟩ lo aa ac ys h.ac
theorem Rd.backL (h : Rd w lo gs x r aa ac ys ma mc W) (hx : RkIn w x) :
    Calls Tryz.prog 12 #[.slice ma x.m.n mc, .slice x.m.p x.m.n x.m.c] W fun e w' => e = .returned (.bool true) ∧ Below W.heap.size W w' :=
  Z.backLines_v W x.m (hx.lines.below h.bel) lo ma mc h.ln
end Go.Proofs.YtfdanocpbhbieaaGreat
