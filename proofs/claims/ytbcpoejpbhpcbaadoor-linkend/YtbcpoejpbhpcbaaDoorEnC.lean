import Derived.Test.YtbcpoejpbhpcbaaDoorSeG
import Derived.Test.YtbcpoejpbhpcbaaDoorSeC
namespace Go.Proofs.YtbcpoejpbhpcbaaDoor
open Go.RowKit

/-- What pair.now makes of a side's sessions. -/
def NowS (S S' : List Sm) (life known : Nat) : Prop := S' = S ∨ (S' = S ++ [⟨life, known, .slice none 0 0, .slice none 0 0, [], []⟩] ∧ ∀ x ∈ S, ¬ (x.mine = life ∧ x.yours = known))
theorem NowS.grow {S S' : List Sm} {life known : Nat} (h : NowS S S' life known) : Grow S S' ∧ S'.length ≤ S.length + 1 := by
  rcases h with q | q
  · rw [q]; exact ⟨Grow.refl S, by omega⟩
  · rw [q.1]; exact ⟨grow_add S _, by simp⟩
theorem Sok.nowS {me other : Int} {L : Lk} {life k : Nat} {S S' : List Sm} (h : Sok me other L life k S) (hk : L.known ≠ 0) (hs : NowS S S' life L.known) : Sok me other L life k S' := by
  rcases hs with q | q
  · rw [q]; exact h
  · rw [q.1]; exact h.now hk q.2 _ _
/-! What a frame does to a link, whatever its life -/
def hearN (L : Lk) (mine yours seq ack : Nat) : Lk := if L.known ≤ mine then hrL L mine yours seq ack else L
def hdN (L : Lk) (mine yours seq ack : Nat) : Bool := decide (L.known ≤ mine) && hrH L mine yours seq ack
def riN (L : Lk) (mine yours : Nat) : Bool := decide (L.known ≤ mine) && decide (yours = L.life)
def upB (L : Lk) (mine yours seq ack : Nat) (body : List Nat) : List Nat := if hdN L mine yours seq ack = true then body else []
theorem Ss.put_up {w wg : World} {K : Knd} {ks : Nat × Nat} {kr n g cg : Nat} {v v' : Value} {S : List Sm} {x : Sm} {p : List Nat} {a : Option Addr} {c : Nat} {vs : List Value} (h : Ss w K ks kr v S) (hx : S[n]? = some x) (hks : ∀ j, ks ≠ (kr, j)) (h4 : ks ≠ (4, 0)) (hkr : kr ≠ 4) (hrk : Rk w K (kr, 2 * n + 1) 29 1 x.uv x.up.length vs) (hel : ∀ (i : Nat) (p : List Nat), x.up[i]? = some p → ∃ (sp : Option Addr) (c : Nat), vs[i]? = some (Value.slice sp p.length c) ∧ By4 w K sp p) (hg : w.grownBy wg x.uv.ownBlock) (ho : wg.ownsRow 0 29 1 v' (x.up.length + 1) (vs ++ [.slice a p.length c])) (hat : v'.ownBlock = x.uv.ownBlock ∨ ∃ g, v'.ownBlock = some g ∧ w.heap.size ≤ g) (hby : By4 w K a p) (hpl : p.length ≤ 2048) (hv : v = .slice (some ⟨g, 0, none⟩) S.length cg) :
    Ss (wg.setCell ⟨g, n * 4 + 3, none⟩ v') (ext K w.heap.size (kr, 2 * n + 1)) ks kr v (S.set n { x with uv := v', up := x.up ++ [p] }) ∧ Kp (fun q => q = (kr, 2 * n + 1) ∨ q = ks) K (ext K w.heap.size (kr, 2 * n + 1)) w (wg.setCell ⟨g, n * 4 + 3, none⟩ v') := by
  have m0 : Kp (fun q => q = (kr, 2 * n + 1)) K (ext K w.heap.size (kr, 2 * n + 1)) w wg := kp_grown hg K (kr, 2 * n + 1) (kr, 2 * n + 1) _ (fun g e => hrk.kind g e) rfl
  have own1 := h.own.kept m0 (hks _)
  have hkg : ext K w.heap.size (kr, 2 * n + 1) g = ks := own1.kind g (by rw [hv]; rfl)
  have ms : Kp (fun q => q = ks) (ext K w.heap.size (kr, 2 * n + 1)) (ext K w.heap.size (kr, 2 * n + 1)) wg (wg.setCell ⟨g, n * 4 + 3, none⟩ v') := (Kp.refl (fun q => q = ks) _ wg).setCell (b := g) (Or.inr hkg) _ _
  have m : Kp (fun q => q = (kr, 2 * n + 1) ∨ q = ks) K (ext K w.heap.size (kr, 2 * n + 1)) w (wg.setCell ⟨g, n * 4 + 3, none⟩ v') := (m0.mono (fun q e => Or.inl e)).trans (ms.mono (fun q e => Or.inr e))
  have hm4 : ¬ ((4, 0) = (kr, 2 * n + 1) ∨ ((4, 0) : Nat × Nat) = ks) := fun e => e.elim (fun e => hkr (congrArg Prod.fst e).symm) (fun e => h4 e.symm)
  have hmk : ∀ j, j ≠ 2 * n + 1 → ¬ ((kr, j) = (kr, 2 * n + 1) ∨ (kr, j) = ks) := fun j hj e => e.elim (fun e => hj (congrArg Prod.snd e)) (fun e => hks j e.symm)
  have hold := (h.rows n x hx).2.small
  have hn := (List.getElem?_eq_some_iff.1 hx).1
  refine ⟨⟨⟨?_, own1.kind⟩, fun j y hy => ?_⟩, m⟩
  · have hs := own1.own
    rw [hv] at hs ⊢
    have hs2 := (hs.stored (n * 4 + 3) v').1
    rw [← smV_up S n x v' (x.up ++ [p]) hx] at hs2
    rw [List.length_set]
    exact hs2
  · by_cases hj : j = n
    · subst hj
      rw [List.getElem?_set_self hn] at hy
      cases hy
      refine ⟨(h.rows j x hx).1.kp m hm4 (hmk _ (by omega)), ?_⟩
      refine ⟨⟨vs ++ [.slice a p.length c], ?_, fun i q hq => ?_⟩, fun q hq => ?_⟩
      · show Rk _ _ _ _ _ v' (x.up ++ [p]).length _
        rw [List.length_append]
        exact (hrk.grown ho hat).kept ms (fun e => hks _ e.symm)
      · have hq' : (x.up ++ [p])[i]? = some q := hq
        have hlv : vs.length = x.up.length := by have := hrk.own.1; omega
        by_cases hi : i < x.up.length
        · rw [List.getElem?_append_left hi] at hq'
          obtain ⟨sp, c2, q1, q2⟩ := hel i q hq'
          exact ⟨sp, c2, by rw [List.getElem?_append_left (by omega)]; exact q1, q2.kp m hm4⟩
        · have hi2 := (List.getElem?_eq_some_iff.1 hq').1
          rw [List.length_append] at hi2
          obtain rfl : i = x.up.length := by simp at hi2; omega
          simp at hq'
          subst hq'
          exact ⟨a, c, by rw [← hlv]; simp, hby.kp m hm4⟩
      · have hq' : q ∈ x.up ++ [p] := hq
        rcases List.mem_append.1 hq' with e | e
        · exact hold q e
        · simp at e; subst e; exact hpl
    · rw [List.getElem?_set_ne (Ne.symm hj)] at hy
      exact ⟨(h.rows j y hy).1.kp m hm4 (hmk _ (by omega)), (h.rows j y hy).2.kp m hm4 (hmk _ (by omega))⟩
theorem Ss.put_inn {w wg : World} {K : Knd} {ks : Nat × Nat} {kr n g cg : Nat} {v v' : Value} {S : List Sm} {x : Sm} {p : List Nat} {a : Option Addr} {c : Nat} {vs : List Value} (h : Ss w K ks kr v S) (hx : S[n]? = some x) (hks : ∀ j, ks ≠ (kr, j)) (h4 : ks ≠ (4, 0)) (hkr : kr ≠ 4) (hrk : Rk w K (kr, 2 * n) 29 1 x.iv x.inn.length vs) (hel : ∀ (i : Nat) (p : List Nat), x.inn[i]? = some p → ∃ (sp : Option Addr) (c : Nat), vs[i]? = some (Value.slice sp p.length c) ∧ By4 w K sp p) (hg : w.grownBy wg x.iv.ownBlock) (ho : wg.ownsRow 0 29 1 v' (x.inn.length + 1) (vs ++ [.slice a p.length c])) (hat : v'.ownBlock = x.iv.ownBlock ∨ ∃ g, v'.ownBlock = some g ∧ w.heap.size ≤ g) (hby : By4 w K a p) (hpl : p.length ≤ 2048) (hv : v = .slice (some ⟨g, 0, none⟩) S.length cg) :
    Ss (wg.setCell ⟨g, n * 4 + 2, none⟩ v') (ext K w.heap.size (kr, 2 * n)) ks kr v (S.set n { x with iv := v', inn := x.inn ++ [p] }) ∧ Kp (fun q => q = (kr, 2 * n) ∨ q = ks) K (ext K w.heap.size (kr, 2 * n)) w (wg.setCell ⟨g, n * 4 + 2, none⟩ v') := by
  have m0 : Kp (fun q => q = (kr, 2 * n)) K (ext K w.heap.size (kr, 2 * n)) w wg := kp_grown hg K (kr, 2 * n) (kr, 2 * n) _ (fun g e => hrk.kind g e) rfl
  have own1 := h.own.kept m0 (hks _)
  have hkg : ext K w.heap.size (kr, 2 * n) g = ks := own1.kind g (by rw [hv]; rfl)
  have ms : Kp (fun q => q = ks) (ext K w.heap.size (kr, 2 * n)) (ext K w.heap.size (kr, 2 * n)) wg (wg.setCell ⟨g, n * 4 + 2, none⟩ v') := (Kp.refl (fun q => q = ks) _ wg).setCell (b := g) (Or.inr hkg) _ _
  have m : Kp (fun q => q = (kr, 2 * n) ∨ q = ks) K (ext K w.heap.size (kr, 2 * n)) w (wg.setCell ⟨g, n * 4 + 2, none⟩ v') := (m0.mono (fun q e => Or.inl e)).trans (ms.mono (fun q e => Or.inr e))
  have hm4 : ¬ ((4, 0) = (kr, 2 * n) ∨ ((4, 0) : Nat × Nat) = ks) := fun e => e.elim (fun e => hkr (congrArg Prod.fst e).symm) (fun e => h4 e.symm)
  have hmk : ∀ j, j ≠ 2 * n → ¬ ((kr, j) = (kr, 2 * n) ∨ (kr, j) = ks) := fun j hj e => e.elim (fun e => hj (congrArg Prod.snd e)) (fun e => hks j e.symm)
  have hold := (h.rows n x hx).1.small
  have hn := (List.getElem?_eq_some_iff.1 hx).1
  refine ⟨⟨⟨?_, own1.kind⟩, fun j y hy => ?_⟩, m⟩
  · have hs := own1.own
    rw [hv] at hs ⊢
    have hs2 := (hs.stored (n * 4 + 2) v').1
    rw [← smV_in S n x v' (x.inn ++ [p]) hx] at hs2
    rw [List.length_set]
    exact hs2
  · by_cases hj : j = n
    · subst hj
      rw [List.getElem?_set_self hn] at hy
      cases hy
      refine ⟨?_, (h.rows j x hx).2.kp m hm4 (hmk _ (by omega))⟩
      refine ⟨⟨vs ++ [.slice a p.length c], ?_, fun i q hq => ?_⟩, fun q hq => ?_⟩
      · show Rk _ _ _ _ _ v' (x.inn ++ [p]).length _
        rw [List.length_append]
        exact (hrk.grown ho hat).kept ms (fun e => hks _ e.symm)
      · have hq' : (x.inn ++ [p])[i]? = some q := hq
        have hlv : vs.length = x.inn.length := by have := hrk.own.1; omega
        by_cases hi : i < x.inn.length
        · rw [List.getElem?_append_left hi] at hq'
          obtain ⟨sp, c2, q1, q2⟩ := hel i q hq'
          exact ⟨sp, c2, by rw [List.getElem?_append_left (by omega)]; exact q1, q2.kp m hm4⟩
        · have hi2 := (List.getElem?_eq_some_iff.1 hq').1
          rw [List.length_append] at hi2
          obtain rfl : i = x.inn.length := by simp at hi2; omega
          simp at hq'
          subst hq'
          exact ⟨a, c, by rw [← hlv]; simp, hby.kp m hm4⟩
      · have hq' : q ∈ x.inn ++ [p] := hq
        rcases List.mem_append.1 hq' with e | e
        · exact hold q e
        · simp at e; subst e; exact hpl
    · rw [List.getElem?_set_ne (Ne.symm hj)] at hy
      exact ⟨(h.rows j y hy).1.kp m hm4 (hmk _ (by omega)), (h.rows j y hy).2.kp m hm4 (hmk _ (by omega))⟩
section
variable {w wr : World} {K : Knd} {pb W M l0 l1 b0 b1 : Nat} {sv s0 s1 : Value} {A B : Lk} {ra rb : Value} {S T : List Sm} {es : List Fe} {k : Nat}
theorem nowP0 (h : Pm w wr K pb W M l0 l1 b0 b1 sv s0 s1 A B ra rb S T es) (hlen : S.length ≤ 20000) :
    Calls Tryd.prog 12 #[.pointer (some ⟨pb, 0, none⟩), .int .i64 0] wr fun e w' => (A.known = 0 ∧ e = .returned (.int .i64 (-1)) ∧ w' = wr) ∨ (A.known ≠ 0 ∧ ∃ (n : Nat) (x : Sm) (s' : Value) (K' : Knd) (S' : List Sm), e = .returned (.int .i64 (n : Int)) ∧ S'[n]? = some x ∧ x.mine = l0 ∧ x.yours = A.known ∧ NowS S S' l0 A.known ∧ Pm w w' K' pb W M l0 l1 b0 b1 sv s' s1 A B ra rb S' T es ∧ Kp (fun q => q = (2, 0) ∨ q = (5, 0)) K K' wr w') := by
  refine (now0 wr K pb W M l0 l1 b0 b1 sv s0 s1 A ra S h.pk h.lq0.lw.lb h.ss0 hlen).mono ?_
  rintro e w' (⟨hk, he, hw⟩ | ⟨hk, n, x, q, hx, q1, q2, _, he, hw⟩ | ⟨hk, hno, he, v, K', hp, hs, m⟩)
  · exact Or.inl ⟨hk, he, hw⟩
  · refine Or.inr ⟨hk, n, x, s0, K, S, he, hx, q1, q2, Or.inl rfl, ?_, ?_⟩
    · rw [hw]; exact h.drewN q
    · rw [hw]; exact (drewN_kq wr K q).mono (fun _ e => e.elim)
  · exact Or.inr ⟨hk, S.length, ⟨l0, A.known, .slice none 0 0, .slice none 0 0, [], []⟩, v, K', _, he, by simp, rfl, rfl, Or.inr ⟨rfl, fun x hx => by
      obtain ⟨n, hn⟩ := List.mem_iff_getElem?.1 hx
      exact hno n x (List.getElem?_eq_some_iff.1 hn).1 hn⟩, ⟨m.below h.bel (fun x hx => by rw [h.kz x hx]; simp), fun x hx => (m.same x (Nat.lt_of_lt_of_le hx h.bel.size)).trans (h.kz x hx), hp, h.lq0.kp m (by simp), h.lq1.kp m (by simp), h.sent.kept m (by simp), fun e he => (h.bod e he).kp m (by simp), hs, h.ss1.kp m (by simp) (by simp) (fun j => by simp), h.tab⟩, m⟩
/-- Hear. -/
theorem hear_pm0 (h : Pm w wr K pb W M l0 l1 b0 b1 sv s0 s1 A B ra rb S T es) (hd : Sok 0 5 A l0 k S) (hk : k ≤ 20000) (mine yours seq ack n c : Nat) (sp : Option Addr) (body : List Nat) (hn : body.length = n) (hby : By4 wr K sp body) (hsp : ∀ a, sp = some a → K a.block = (4, 0)) (hfit : (⟨5, 0, mine, yours, seq, ack, body⟩ : Fr).fit) :
    Calls Tryd.prog 44 #[.pointer (some ⟨b0, 0, none⟩), .agg #[.int .i64 5, .int .i64 0, .int .u64 (mine : Int), .int .u64 (yours : Int), .int .u64 (seq : Int), .int .u64 (ack : Int), .slice sp n c]] wr fun e w' =>
      ∃ (a : Option Addr) (m cc : Nat) (r' : Value), e = .returned (.agg #[.slice a m cc, .bool (hdN A mine yours seq ack), .bool (decide (A.known < mine)), .bool (riN A mine yours)]) ∧ (upB A mine yours seq ack body).length = m ∧ By4 w' (ext K wr.heap.size (4, 0)) a (upB A mine yours seq ack body) ∧ Pm w w' (ext K wr.heap.size (4, 0)) pb W M l0 l1 b0 b1 sv s0 s1 (hearN A mine yours seq ack) B r' rb S T es ∧ Kp (fun q => q = (1, 0)) K (ext K wr.heap.size (4, 0)) wr w' := by
  have h1 := hd.rn.row
  have h2 := hd.rn.hand
  by_cases hle : A.known ≤ mine
  · have hr : rcv A A.other A.me mine yours seq ack body := ⟨by rw [hd.other, hd.me]; exact hfit, rfl, rfl, hle⟩
    have hc := hear_any wr b0 A ra h.lq0.lw mine yours seq ack n c sp body hn hby.by_ (fun a ha => ⟨fun e => (by have := hsp a ha; rw [e, h.lq0.kb] at this; cases this), fun e => (by have := hsp a ha; rw [h.lq0.kr _ e.symm] at this; cases this)⟩) hr (by omega) (by omega)
    rw [hd.other, hd.me] at hc
    refine hc.mono ?_
    rintro e w' ⟨a, m, cc, r', he, hp⟩
    have e1 : hdN A mine yours seq ack = hrH A mine yours seq ack := by unfold hdN; rw [decide_eq_true hle]; rfl
    have e2 : riN A mine yours = decide (yours = A.life) := by unfold riN; rw [decide_eq_true hle]; rfl
    have e4 : upB A mine yours seq ack body = if hrH A mine yours seq ack = true then body else [] := by unfold upB; rw [e1]
    have e5 : hearN A mine yours seq ack = hrL A mine yours seq ack := by unfold hearN; rw [if_pos hle]
    have hsm : ∀ x ∈ (if hrH A mine yours seq ack = true then body else []), x < 256 := fun x hx => by
      split at hx
      · exact hby.by_.small x hx
      · cases hx
    rw [e1, e2, e4, e5]
    refine ⟨a, m, cc, r', he, by rw [hp.len]; split <;> rfl, By4.new (owns_bytes hp.row hsm) (fun p hpp => ?_), h.turn0 hp.lw hp.tw (fun x hx => ext_old _ _ hx) (fun g hg => ?_), (h.lq0.turn hp.lw hp.tw (fun x hx => ext_old _ _ hx) (fun g hg => ?_)).2⟩
    · rcases hp.row.2 with ⟨q, _⟩ | ⟨g, cap, cur, q, q2, _⟩
      · cases q; cases hpp
      · cases q; cases hpp; exact q2
    · rcases hp.rb with q | q
      · exact Or.inl (q.symm.trans hg)
      · rw [q] at hg; cases hg
    · rcases hp.rb with q | q
      · exact Or.inl (q.symm.trans hg)
      · rw [q] at hg; cases hg
  · refine (hear_no wr b0 A ra h.lq0.lw.lb 5 0 mine yours seq ack n c sp body hn (fun q => hle q.2.2.2)).mono ?_
    rintro e w' ⟨he, hbw⟩
    have e1 : hdN A mine yours seq ack = false := by unfold hdN; rw [decide_eq_false hle]; rfl
    have e2 : riN A mine yours = false := by unfold riN; rw [decide_eq_false hle]; rfl
    have e3 : decide (A.known < mine) = false := decide_eq_false (by omega)
    have e4 : upB A mine yours seq ack body = [] := by unfold upB; rw [e1]; rfl
    have e5 : hearN A mine yours seq ack = A := by unfold hearN; rw [if_neg hle]
    rw [e1, e2, e3, e4, e5]
    exact ⟨none, 0, 0, ra, he, rfl, ⟨⟨fun x hx => (by cases hx), Or.inl rfl⟩, Or.inl rfl⟩, h.below hbw (4, 0), kp_below hbw _ _ _⟩
/-- A list more in a session's row. -/
theorem Pm.up0 {wg : World} {v' : Value} {p : List Nat} {a : Option Addr} {c n g cg : Nat} {vs : List Value} {x : Sm} (h : Pm w wr K pb W M l0 l1 b0 b1 sv s0 s1 A B ra rb S T es) (hx : S[n]? = some x) (hrk : Rk wr K (6, 2 * n + 1) 29 1 x.uv x.up.length vs) (hel : ∀ (i : Nat) (p : List Nat), x.up[i]? = some p → ∃ (sp : Option Addr) (c : Nat), vs[i]? = some (Value.slice sp p.length c) ∧ By4 wr K sp p) (hg : wr.grownBy wg x.uv.ownBlock) (ho : wg.ownsRow 0 29 1 v' (x.up.length + 1) (vs ++ [.slice a p.length c])) (hat : v'.ownBlock = x.uv.ownBlock ∨ ∃ g, v'.ownBlock = some g ∧ wr.heap.size ≤ g) (hby : By4 wr K a p) (hpl : p.length ≤ 2048) (hv : s0 = .slice (some ⟨g, 0, none⟩) S.length cg) :
    Pm w (wg.setCell ⟨g, n * 4 + 3, none⟩ v') (ext K wr.heap.size (6, 2 * n + 1)) pb W M l0 l1 b0 b1 sv s0 s1 A B ra rb (S.set n { x with uv := v', up := x.up ++ [p] }) T es ∧ Kp (fun q => q = (6, 2 * n + 1) ∨ q = (5, 0)) K (ext K wr.heap.size (6, 2 * n + 1)) wr (wg.setCell ⟨g, n * 4 + 3, none⟩ v') := by
  obtain ⟨hs, m⟩ := h.ss0.put_up hx (by simp) (by simp) (by simp) hrk hel hg ho hat hby hpl hv
  exact ⟨⟨m.below h.bel (fun x hx => by rw [h.kz x hx]; simp), fun x hx => (m.same x (Nat.lt_of_lt_of_le hx h.bel.size)).trans (h.kz x hx), h.pk.kp m (by simp), h.lq0.kp m (by simp), h.lq1.kp m (by simp), h.sent.kept m (by simp), fun e he => (h.bod e he).kp m (by simp), hs, h.ss1.kp m (by simp) (by simp) (fun j => by simp), h.tab⟩, m⟩
/-- A list more in a session's row. -/
theorem Pm.inn0 {wg : World} {v' : Value} {p : List Nat} {a : Option Addr} {c n g cg : Nat} {vs : List Value} {x : Sm} (h : Pm w wr K pb W M l0 l1 b0 b1 sv s0 s1 A B ra rb S T es) (hx : S[n]? = some x) (hrk : Rk wr K (6, 2 * n) 29 1 x.iv x.inn.length vs) (hel : ∀ (i : Nat) (p : List Nat), x.inn[i]? = some p → ∃ (sp : Option Addr) (c : Nat), vs[i]? = some (Value.slice sp p.length c) ∧ By4 wr K sp p) (hg : wr.grownBy wg x.iv.ownBlock) (ho : wg.ownsRow 0 29 1 v' (x.inn.length + 1) (vs ++ [.slice a p.length c])) (hat : v'.ownBlock = x.iv.ownBlock ∨ ∃ g, v'.ownBlock = some g ∧ wr.heap.size ≤ g) (hby : By4 wr K a p) (hpl : p.length ≤ 2048) (hv : s0 = .slice (some ⟨g, 0, none⟩) S.length cg) :
    Pm w (wg.setCell ⟨g, n * 4 + 2, none⟩ v') (ext K wr.heap.size (6, 2 * n)) pb W M l0 l1 b0 b1 sv s0 s1 A B ra rb (S.set n { x with iv := v', inn := x.inn ++ [p] }) T es ∧ Kp (fun q => q = (6, 2 * n) ∨ q = (5, 0)) K (ext K wr.heap.size (6, 2 * n)) wr (wg.setCell ⟨g, n * 4 + 2, none⟩ v') := by
  obtain ⟨hs, m⟩ := h.ss0.put_inn hx (by simp) (by simp) (by simp) hrk hel hg ho hat hby hpl hv
  exact ⟨⟨m.below h.bel (fun x hx => by rw [h.kz x hx]; simp), fun x hx => (m.same x (Nat.lt_of_lt_of_le hx h.bel.size)).trans (h.kz x hx), h.pk.kp m (by simp), h.lq0.kp m (by simp), h.lq1.kp m (by simp), h.sent.kept m (by simp), fun e he => (h.bod e he).kp m (by simp), hs, h.ss1.kp m (by simp) (by simp) (fun j => by simp), h.tab⟩, m⟩
theorem nowP1 (h : Pm w wr K pb W M l0 l1 b0 b1 sv s0 s1 A B ra rb S T es) (hlen : T.length ≤ 20000) :
    Calls Tryd.prog 12 #[.pointer (some ⟨pb, 0, none⟩), .int .i64 1] wr fun e w' => (B.known = 0 ∧ e = .returned (.int .i64 (-1)) ∧ w' = wr) ∨ (B.known ≠ 0 ∧ ∃ (n : Nat) (x : Sm) (s' : Value) (K' : Knd) (S' : List Sm), e = .returned (.int .i64 (n : Int)) ∧ S'[n]? = some x ∧ x.mine = l1 ∧ x.yours = B.known ∧ NowS T S' l1 B.known ∧ Pm w w' K' pb W M l0 l1 b0 b1 sv s0 s' A B ra rb S S' es ∧ Kp (fun q => q = (2, 0) ∨ q = (5, 1)) K K' wr w') := by
  refine (now1 wr K pb W M l0 l1 b0 b1 sv s0 s1 B rb T h.pk h.lq1.lw.lb h.ss1 hlen).mono ?_
  rintro e w' (⟨hk, he, hw⟩ | ⟨hk, n, x, q, hx, q1, q2, _, he, hw⟩ | ⟨hk, hno, he, v, K', hp, hs, m⟩)
  · exact Or.inl ⟨hk, he, hw⟩
  · refine Or.inr ⟨hk, n, x, s1, K, T, he, hx, q1, q2, Or.inl rfl, ?_, ?_⟩
    · rw [hw]; exact h.drewN q
    · rw [hw]; exact (drewN_kq wr K q).mono (fun _ e => e.elim)
  · exact Or.inr ⟨hk, T.length, ⟨l1, B.known, .slice none 0 0, .slice none 0 0, [], []⟩, v, K', _, he, by simp, rfl, rfl, Or.inr ⟨rfl, fun x hx => by
      obtain ⟨n, hn⟩ := List.mem_iff_getElem?.1 hx
      exact hno n x (List.getElem?_eq_some_iff.1 hn).1 hn⟩, ⟨m.below h.bel (fun x hx => by rw [h.kz x hx]; simp), fun x hx => (m.same x (Nat.lt_of_lt_of_le hx h.bel.size)).trans (h.kz x hx), hp, h.lq0.kp m (by simp), h.lq1.kp m (by simp), h.sent.kept m (by simp), fun e he => (h.bod e he).kp m (by simp), h.ss0.kp m (by simp) (by simp) (fun j => by simp), hs, h.tab⟩, m⟩
/-- Hear. -/
theorem hear_pm1 (h : Pm w wr K pb W M l0 l1 b0 b1 sv s0 s1 A B ra rb S T es) (hd : Sok 5 0 B l1 k T) (hk : k ≤ 20000) (mine yours seq ack n c : Nat) (sp : Option Addr) (body : List Nat) (hn : body.length = n) (hby : By4 wr K sp body) (hsp : ∀ a, sp = some a → K a.block = (4, 0)) (hfit : (⟨0, 5, mine, yours, seq, ack, body⟩ : Fr).fit) :
    Calls Tryd.prog 44 #[.pointer (some ⟨b1, 0, none⟩), .agg #[.int .i64 0, .int .i64 5, .int .u64 (mine : Int), .int .u64 (yours : Int), .int .u64 (seq : Int), .int .u64 (ack : Int), .slice sp n c]] wr fun e w' =>
      ∃ (a : Option Addr) (m cc : Nat) (r' : Value), e = .returned (.agg #[.slice a m cc, .bool (hdN B mine yours seq ack), .bool (decide (B.known < mine)), .bool (riN B mine yours)]) ∧ (upB B mine yours seq ack body).length = m ∧ By4 w' (ext K wr.heap.size (4, 0)) a (upB B mine yours seq ack body) ∧ Pm w w' (ext K wr.heap.size (4, 0)) pb W M l0 l1 b0 b1 sv s0 s1 A (hearN B mine yours seq ack) ra r' S T es ∧ Kp (fun q => q = (1, 1)) K (ext K wr.heap.size (4, 0)) wr w' := by
  have h1 := hd.rn.row
  have h2 := hd.rn.hand
  by_cases hle : B.known ≤ mine
  · have hr : rcv B B.other B.me mine yours seq ack body := ⟨by rw [hd.other, hd.me]; exact hfit, rfl, rfl, hle⟩
    have hc := hear_any wr b1 B rb h.lq1.lw mine yours seq ack n c sp body hn hby.by_ (fun a ha => ⟨fun e => (by have := hsp a ha; rw [e, h.lq1.kb] at this; cases this), fun e => (by have := hsp a ha; rw [h.lq1.kr _ e.symm] at this; cases this)⟩) hr (by omega) (by omega)
    rw [hd.other, hd.me] at hc
    refine hc.mono ?_
    rintro e w' ⟨a, m, cc, r', he, hp⟩
    have e1 : hdN B mine yours seq ack = hrH B mine yours seq ack := by unfold hdN; rw [decide_eq_true hle]; rfl
    have e2 : riN B mine yours = decide (yours = B.life) := by unfold riN; rw [decide_eq_true hle]; rfl
    have e4 : upB B mine yours seq ack body = if hrH B mine yours seq ack = true then body else [] := by unfold upB; rw [e1]
    have e5 : hearN B mine yours seq ack = hrL B mine yours seq ack := by unfold hearN; rw [if_pos hle]
    have hsm : ∀ x ∈ (if hrH B mine yours seq ack = true then body else []), x < 256 := fun x hx => by
      split at hx
      · exact hby.by_.small x hx
      · cases hx
    rw [e1, e2, e4, e5]
    refine ⟨a, m, cc, r', he, by rw [hp.len]; split <;> rfl, By4.new (owns_bytes hp.row hsm) (fun p hpp => ?_), h.turn1 hp.lw hp.tw (fun x hx => ext_old _ _ hx) (fun g hg => ?_), (h.lq1.turn hp.lw hp.tw (fun x hx => ext_old _ _ hx) (fun g hg => ?_)).2⟩
    · rcases hp.row.2 with ⟨q, _⟩ | ⟨g, cap, cur, q, q2, _⟩
      · cases q; cases hpp
      · cases q; cases hpp; exact q2
    · rcases hp.rb with q | q
      · exact Or.inl (q.symm.trans hg)
      · rw [q] at hg; cases hg
    · rcases hp.rb with q | q
      · exact Or.inl (q.symm.trans hg)
      · rw [q] at hg; cases hg
  · refine (hear_no wr b1 B rb h.lq1.lw.lb 0 5 mine yours seq ack n c sp body hn (fun q => hle q.2.2.2)).mono ?_
    rintro e w' ⟨he, hbw⟩
    have e1 : hdN B mine yours seq ack = false := by unfold hdN; rw [decide_eq_false hle]; rfl
    have e2 : riN B mine yours = false := by unfold riN; rw [decide_eq_false hle]; rfl
    have e3 : decide (B.known < mine) = false := decide_eq_false (by omega)
    have e4 : upB B mine yours seq ack body = [] := by unfold upB; rw [e1]; rfl
    have e5 : hearN B mine yours seq ack = B := by unfold hearN; rw [if_neg hle]
    rw [e1, e2, e3, e4, e5]
    exact ⟨none, 0, 0, rb, he, rfl, ⟨⟨fun x hx => (by cases hx), Or.inl rfl⟩, Or.inl rfl⟩, h.below hbw (4, 0), kp_below hbw _ _ _⟩
/-- A list more in a session's row. -/
theorem Pm.up1 {wg : World} {v' : Value} {p : List Nat} {a : Option Addr} {c n g cg : Nat} {vs : List Value} {x : Sm} (h : Pm w wr K pb W M l0 l1 b0 b1 sv s0 s1 A B ra rb S T es) (hx : T[n]? = some x) (hrk : Rk wr K (7, 2 * n + 1) 29 1 x.uv x.up.length vs) (hel : ∀ (i : Nat) (p : List Nat), x.up[i]? = some p → ∃ (sp : Option Addr) (c : Nat), vs[i]? = some (Value.slice sp p.length c) ∧ By4 wr K sp p) (hg : wr.grownBy wg x.uv.ownBlock) (ho : wg.ownsRow 0 29 1 v' (x.up.length + 1) (vs ++ [.slice a p.length c])) (hat : v'.ownBlock = x.uv.ownBlock ∨ ∃ g, v'.ownBlock = some g ∧ wr.heap.size ≤ g) (hby : By4 wr K a p) (hpl : p.length ≤ 2048) (hv : s1 = .slice (some ⟨g, 0, none⟩) T.length cg) :
    Pm w (wg.setCell ⟨g, n * 4 + 3, none⟩ v') (ext K wr.heap.size (7, 2 * n + 1)) pb W M l0 l1 b0 b1 sv s0 s1 A B ra rb S (T.set n { x with uv := v', up := x.up ++ [p] }) es ∧ Kp (fun q => q = (7, 2 * n + 1) ∨ q = (5, 1)) K (ext K wr.heap.size (7, 2 * n + 1)) wr (wg.setCell ⟨g, n * 4 + 3, none⟩ v') := by
  obtain ⟨hs, m⟩ := h.ss1.put_up hx (by simp) (by simp) (by simp) hrk hel hg ho hat hby hpl hv
  exact ⟨⟨m.below h.bel (fun x hx => by rw [h.kz x hx]; simp), fun x hx => (m.same x (Nat.lt_of_lt_of_le hx h.bel.size)).trans (h.kz x hx), h.pk.kp m (by simp), h.lq0.kp m (by simp), h.lq1.kp m (by simp), h.sent.kept m (by simp), fun e he => (h.bod e he).kp m (by simp), h.ss0.kp m (by simp) (by simp) (fun j => by simp), hs, h.tab⟩, m⟩
/-- A list more in a session's row. -/
theorem Pm.inn1 {wg : World} {v' : Value} {p : List Nat} {a : Option Addr} {c n g cg : Nat} {vs : List Value} {x : Sm} (h : Pm w wr K pb W M l0 l1 b0 b1 sv s0 s1 A B ra rb S T es) (hx : T[n]? = some x) (hrk : Rk wr K (7, 2 * n) 29 1 x.iv x.inn.length vs) (hel : ∀ (i : Nat) (p : List Nat), x.inn[i]? = some p → ∃ (sp : Option Addr) (c : Nat), vs[i]? = some (Value.slice sp p.length c) ∧ By4 wr K sp p) (hg : wr.grownBy wg x.iv.ownBlock) (ho : wg.ownsRow 0 29 1 v' (x.inn.length + 1) (vs ++ [.slice a p.length c])) (hat : v'.ownBlock = x.iv.ownBlock ∨ ∃ g, v'.ownBlock = some g ∧ wr.heap.size ≤ g) (hby : By4 wr K a p) (hpl : p.length ≤ 2048) (hv : s1 = .slice (some ⟨g, 0, none⟩) T.length cg) :
    Pm w (wg.setCell ⟨g, n * 4 + 2, none⟩ v') (ext K wr.heap.size (7, 2 * n)) pb W M l0 l1 b0 b1 sv s0 s1 A B ra rb S (T.set n { x with iv := v', inn := x.inn ++ [p] }) es ∧ Kp (fun q => q = (7, 2 * n) ∨ q = (5, 1)) K (ext K wr.heap.size (7, 2 * n)) wr (wg.setCell ⟨g, n * 4 + 2, none⟩ v') := by
  obtain ⟨hs, m⟩ := h.ss1.put_inn hx (by simp) (by simp) (by simp) hrk hel hg ho hat hby hpl hv
  exact ⟨⟨m.below h.bel (fun x hx => by rw [h.kz x hx]; simp), fun x hx => (m.same x (Nat.lt_of_lt_of_le hx h.bel.size)).trans (h.kz x hx), h.pk.kp m (by simp), h.lq0.kp m (by simp), h.lq1.kp m (by simp), h.sent.kept m (by simp), fun e he => (h.bod e he).kp m (by simp), h.ss0.kp m (by simp) (by simp) (fun j => by simp), hs, h.tab⟩, m⟩
end
end Go.Proofs.YtbcpoejpbhpcbaaDoor
namespace Go.Proofs.YtbcpoejpbhpcbaaDoor
open Go.RowKit

theorem Grow.trans {S T U : List Sm} (h : Grow S T) (k : Grow T U) : Grow S U := fun x hx => by
  obtain ⟨y, hy, a1, a2, a3⟩ := h x hx
  obtain ⟨z, hz, c1, c2, c3⟩ := k y hy
  exact ⟨z, hz, c1.trans a1, c2.trans a2, fun n b q => c3 n b (a3 n b q)⟩
theorem hear1_same (L : Lk) (mine : Nat) (h : L.known ≤ mine) : (hear1 L mine).known = mine ∧ (hear1 L mine).window = L.window ∧ (hear1 L mine).life = L.life := by
  unfold hear1
  split
  · exact ⟨rfl, rfl, rfl⟩
  · exact ⟨by omega, rfl, rfl⟩
theorem ackL_same (L : Lk) (a : Nat) : (ackL L a).known = L.known ∧ (ackL L a).window = L.window ∧ (ackL L a).life = L.life ∧ (ackL L a).handed = L.handed := by
  unfold ackL
  split <;> exact ⟨rfl, rfl, rfl, rfl⟩
theorem bodyL_same (L : Lk) (seq : Nat) : (bodyL L seq).known = L.known ∧ (bodyL L seq).window = L.window ∧ (bodyL L seq).life = L.life := by
  unfold bodyL
  split
  · exact ⟨rfl, rfl, rfl⟩
  · split <;> exact ⟨rfl, rfl, rfl⟩
theorem hearN_same (L : Lk) (mine yours seq ack : Nat) : (hearN L mine yours seq ack).window = L.window := by
  unfold hearN
  split
  · rename_i hle
    unfold hrL
    have h1 := hear1_same L mine hle
    split
    · rw [(bodyL_same _ _).2.1, (ackL_same _ _).2.1]; exact h1.2.1
    · exact h1.2.1
  · rfl
def hA (L : Lk) (mine ack : Nat) : Lk := ackL { hear1 L mine with paced := false } ack
theorem hA_known (L : Lk) (mine ack : Nat) (h : L.known ≤ mine) : (hA L mine ack).known = mine := by
  unfold hA
  rw [(ackL_same _ _).1]
  exact (hear1_same L mine h).1
section
variable {me other : Int} {L : Lk} {life k mine yours seq ack : Nat} {S : List Sm}
theorem hd_true (hf : hdN L mine yours seq ack = true) : L.known ≤ mine ∧ yours = L.life ∧ handN (hA L mine ack) seq = true ∧ hearN L mine yours seq ack = bodyL (hA L mine ack) seq := by
  unfold hdN hrH at hf
  simp only [Bool.and_eq_true, decide_eq_true_eq] at hf
  refine ⟨hf.1, hf.2.1, hf.2.2, ?_⟩
  unfold hearN hrL
  rw [if_pos hf.1, if_pos hf.2.1]
  rfl
theorem Sok.heardS (h : Sok me other L life k S) (hf : hdN L mine yours seq ack = false) (hm : mine ≤ 1099511627776) : Sok me other (hearN L mine yours seq ack) life (k + 1) S := by
  unfold hearN
  by_cases hle : L.known ≤ mine
  · rw [if_pos hle]
    unfold hrL
    by_cases hy : yours = L.life
    · rw [if_pos hy]
      refine ((h.hear1 mine hm).ackd false ack).passed seq ?_
      unfold hdN hrH at hf
      rw [decide_eq_true hle, decide_eq_true hy] at hf
      simpa using hf
    · rw [if_neg hy]
      exact ((h.hear1 mine hm).pacedS true).up
  · rw [if_neg hle]
    exact h.up
theorem Sok.handedS {S' : List Sm} {n : Nat} {x : Sm} (h : Sok me other L life k S) (hf : hdN L mine yours seq ack = true) (hm : mine ≤ 1099511627776) (hm1 : 1 ≤ mine) (hs : NowS S S' life (hearN L mine yours seq ack).known) (hx : S'[n]? = some x) (q1 : x.mine = life) (q2 : x.yours = (hearN L mine yours seq ack).known) (uv : Value) (b : List Nat) :
    Sok me other (hearN L mine yours seq ack) life (k + 1) (S'.set n { x with uv := uv, up := x.up ++ [b] }) ∧ x.up.length + 1 = seq ∧ x.yours = mine ∧ yours = L.life ∧ seq ≠ 0 := by
  obtain ⟨hle, hy, hh, he⟩ := hd_true hf
  rw [he] at hs q2 ⊢
  rw [(bodyL_same _ _).1] at hs q2
  have hkn : (hA L mine ack).known = mine := hA_known L mine ack hle
  have h00 : Sok me other (hA L mine ack) life k S := (h.hear1 mine hm).ackd false ack
  have h1 : Sok me other (hA L mine ack) life k S' := h00.nowS (by rw [hkn]; omega) hs
  have hseq : seq = (hA L mine ack).handed + 1 := by unfold handN at hh; simpa using hh
  have hup := (h1.cur (by rw [hkn]; omega) x (List.mem_of_getElem? hx) q1 q2).2.1
  have h0 : seq ≠ 0 := by omega
  exact ⟨h1.handed (by rw [hkn]; omega) hx q1 q2 seq h0 hh uv b, by omega, q2.trans hkn, hy, h0⟩
end
section
variable {W M l0 l1 mine yours seq ack : Nat} {A B : Lk} {S T : List Sm} {es : List Fe} {k : Nat}
theorem Pd.heard0 (h : Pd W M l0 l1 A B S T es k) (hf : hdN A mine yours seq ack = false) (hm : mine ≤ 1099511627776) : Pd W M l0 l1 (hearN A mine yours seq ack) B S T es (k + 1) :=
  ⟨h.a.heardS hf hm, h.b.up, (hearN_same _ _ _ _ _).trans h.wa, h.wb, h.fok, by have := h.el; omega, by have := h.sl; omega, by have := h.tl; omega, h.w1, h.m1⟩
theorem Pd.handed0 {S' : List Sm} {n : Nat} {x : Sm} (h : Pd W M l0 l1 A B S T es k) (hf : hdN A mine yours seq ack = true) (hm : mine ≤ 1099511627776) (hm1 : 1 ≤ mine) (hs : NowS S S' l0 (hearN A mine yours seq ack).known) (hx : S'[n]? = some x) (q1 : x.mine = l0) (q2 : x.yours = (hearN A mine yours seq ack).known) (uv : Value) (b : List Nat) :
    Pd W M l0 l1 (hearN A mine yours seq ack) B (S'.set n { x with uv := uv, up := x.up ++ [b] }) T es (k + 1) ∧ x.up.length + 1 = seq ∧ x.yours = mine ∧ yours = l0 ∧ seq ≠ 0 := by
  obtain ⟨hk, r1, r2, r3, r4⟩ := h.a.handedS hf hm hm1 hs hx q1 q2 uv b
  obtain ⟨hg1, hl⟩ := hs.grow
  have hg : Grow S (S'.set n { x with uv := uv, up := x.up ++ [b] }) := hg1.trans (grow_set hx rfl rfl (fun _ _ q => q))
  exact ⟨⟨hk, h.b.up, (hearN_same _ _ _ _ _).trans h.wa, h.wb, fun e he => (h.fok e he).imp (fun q => q.grow (Nat.le_refl _) hg) id, by have := h.el; omega, by have := h.sl; rw [List.length_set]; omega, by have := h.tl; omega, h.w1, h.m1⟩, r1, r2, r3.trans h.a.lf, r4⟩
theorem Pd.heard1 (h : Pd W M l0 l1 A B S T es k) (hf : hdN B mine yours seq ack = false) (hm : mine ≤ 1099511627776) : Pd W M l0 l1 A (hearN B mine yours seq ack) S T es (k + 1) :=
  ⟨h.a.up, h.b.heardS hf hm, h.wa, (hearN_same _ _ _ _ _).trans h.wb, h.fok, by have := h.el; omega, by have := h.sl; omega, by have := h.tl; omega, h.w1, h.m1⟩
theorem Pd.handed1 {S' : List Sm} {n : Nat} {x : Sm} (h : Pd W M l0 l1 A B S T es k) (hf : hdN B mine yours seq ack = true) (hm : mine ≤ 1099511627776) (hm1 : 1 ≤ mine) (hs : NowS T S' l1 (hearN B mine yours seq ack).known) (hx : S'[n]? = some x) (q1 : x.mine = l1) (q2 : x.yours = (hearN B mine yours seq ack).known) (uv : Value) (b : List Nat) :
    Pd W M l0 l1 A (hearN B mine yours seq ack) S (S'.set n { x with uv := uv, up := x.up ++ [b] }) es (k + 1) ∧ x.up.length + 1 = seq ∧ x.yours = mine ∧ yours = l1 ∧ seq ≠ 0 := by
  obtain ⟨hk, r1, r2, r3, r4⟩ := h.b.handedS hf hm hm1 hs hx q1 q2 uv b
  obtain ⟨hg1, hl⟩ := hs.grow
  have hg : Grow T (S'.set n { x with uv := uv, up := x.up ++ [b] }) := hg1.trans (grow_set hx rfl rfl (fun _ _ q => q))
  exact ⟨⟨h.a.up, hk, h.wa, (hearN_same _ _ _ _ _).trans h.wb, fun e he => (h.fok e he).imp id (fun q => q.grow (Nat.le_refl _) hg), by have := h.el; omega, by have := h.sl; omega, by have := h.tl; rw [List.length_set]; omega, h.w1, h.m1⟩, r1, r2, r3.trans h.b.lf, r4⟩
end
/-- What was handed up is the next of what the other was handed in. -/
theorem fok_next {me other : Int} {L : Lk} {life k mine yours seq ack m : Nat} {T : List Sm} {bo : List Nat} {y : Sm} (hd : Sok me other L life k T) (hf : Fok me other life T ⟨me, other, mine, yours, seq, ack, bo⟩) (h0 : seq ≠ 0) (hy : T[m]? = some y) (e1 : y.mine = mine) (e2 : y.yours = yours) : y.inn[seq - 1]? = some bo := by
  obtain ⟨z, hz, r1, r2, r3⟩ := hf.seq h0
  obtain ⟨j, hj⟩ := List.mem_iff_getElem?.1 hz
  have := hd.uniq m j y z hy hj (e1.trans r1.symm) (e2.trans r2.symm)
  subst this
  rw [hy] at hj
  cases hj
  exact r3
theorem fok_some {me other : Int} {life mine yours seq ack : Nat} {T : List Sm} {bo : List Nat} (hf : Fok me other life T ⟨me, other, mine, yours, seq, ack, bo⟩) (h0 : seq ≠ 0) (hno : NoSes T T.length mine yours) : False := by
  obtain ⟨z, hz, r1, r2, _⟩ := hf.seq h0
  obtain ⟨j, hj⟩ := List.mem_iff_getElem?.1 hz
  exact hno j z (List.getElem?_eq_some_iff.1 hj).1 hj ⟨r1, r2⟩
end Go.Proofs.YtbcpoejpbhpcbaaDoor
namespace Go.Proofs.YtbcpoejpbhpcbaaDoor
open Go.RowKit

/-! What is on its way in a session: a row's numbers, what has gone out, what was handed up -/
structure Flow (W M : Nat) (X : Lk) (lx : Nat) (S : List Sm) (ly : Nat) (T : List Sm) : Prop where
  kn : X.known ≤ ly
  z0 : X.known = 0 → X.handed = 0 ∧ X.gone = 0
  p1 : X.known ≠ 0 → X.numbered ≤ X.row.length ∨ ∃ y ∈ T, y.mine = X.known ∧ y.yours = lx ∧ X.numbered ≤ X.row.length + y.up.length
  p2 : X.known ≠ 0 → ∀ y ∈ T, y.mine = X.known → y.yours = lx → y.up.length ≤ X.gone
  p3 : X.gone + X.row.length ≤ X.numbered + W
  p4 : ∀ j m, X.row[j]? = some m → m.1 + X.row.length = X.numbered + j + 1
  p5 : X.row.length ≤ X.numbered
  gn : X.gone ≤ X.numbered
  u : ∀ y ∈ T, y.up.length ≠ 0 → ∃ x ∈ S, x.mine = y.yours ∧ x.yours = y.mine
  lim : X.lim = some M
  gap : 1 ≤ X.gap ∧ X.gap ≤ M
  left : X.left ≤ M
/-- A frame of a side, and what it says of that side. -/
structure Fex (L : Lk) (life : Nat) (S : List Sm) (f : Fr) : Prop where
  ack : f.ack = 0 ∨ ∃ x ∈ S, x.mine = f.mine ∧ x.yours = f.yours ∧ f.ack ≤ x.up.length
  old : f.mine < life ∨ (f.mine = life ∧ f.yours ≤ L.known)
  seqg : f.mine = life → f.yours = L.known → f.seq ≤ L.gone
structure Pe (W M l0 l1 : Nat) (A B : Lk) (S T : List Sm) (es : List Fe) : Prop where
  f0 : Flow W M A l0 S l1 T
  f1 : Flow W M B l1 T l0 S
  e : ∀ e ∈ es, (e.f.fr = 0 → Fex A l0 S e.f) ∧ (e.f.fr = 5 → Fex B l1 T e.f)
def GrowU (S S' : List Sm) : Prop := ∀ x ∈ S, ∃ y ∈ S', y.mine = x.mine ∧ y.yours = x.yours ∧ x.up.length ≤ y.up.length
def NoUp (S S' : List Sm) : Prop := ∀ y ∈ S', y.up.length = 0 ∨ ∃ x ∈ S, x.mine = y.mine ∧ x.yours = y.yours ∧ x.up.length = y.up.length
def LGrow (L : Lk) (life : Nat) (L' : Lk) (life' : Nat) : Prop := life < life' ∨ (life = life' ∧ (L.known < L'.known ∨ (L.known = L'.known ∧ L.gone ≤ L'.gone)))
theorem GrowU.refl (S : List Sm) : GrowU S S := fun x hx => ⟨x, hx, rfl, rfl, Nat.le_refl _⟩
theorem GrowU.trans {S T U : List Sm} (h : GrowU S T) (k : GrowU T U) : GrowU S U := fun x hx => by
  obtain ⟨y, hy, a1, a2, a3⟩ := h x hx
  obtain ⟨z, hz, c1, c2, c3⟩ := k y hy
  exact ⟨z, hz, c1.trans a1, c2.trans a2, Nat.le_trans a3 c3⟩
theorem NoUp.refl (S : List Sm) : NoUp S S := fun x hx => Or.inr ⟨x, hx, rfl, rfl, rfl⟩
theorem NoUp.trans {S T U : List Sm} (h : NoUp S T) (k : NoUp T U) : NoUp S U := fun x hx => by
  rcases k x hx with q | ⟨y, hy, a1, a2, a3⟩
  · exact Or.inl q
  · rcases h y hy with q | ⟨z, hz, c1, c2, c3⟩
    · exact Or.inl (a3.symm.trans q)
    · exact Or.inr ⟨z, hz, c1.trans a1, c2.trans a2, c3.trans a3⟩
theorem LGrow.refl (L : Lk) (life : Nat) : LGrow L life L life := Or.inr ⟨rfl, Or.inr ⟨rfl, Nat.le_refl _⟩⟩
theorem NowS.ups {S S' : List Sm} {life known : Nat} (h : NowS S S' life known) : GrowU S S' ∧ NoUp S S' := by
  rcases h with q | ⟨q, _⟩
  · rw [q]; exact ⟨GrowU.refl S, NoUp.refl S⟩
  · rw [q]
    refine ⟨fun x hx => ⟨x, List.mem_append.2 (Or.inl hx), rfl, rfl, Nat.le_refl _⟩, fun y hy => ?_⟩
    rcases List.mem_append.1 hy with e | e
    · exact Or.inr ⟨y, e, rfl, rfl, rfl⟩
    · simp at e; subst e; exact Or.inl rfl
theorem set_in {S : List Sm} {n : Nat} {x : Sm} (hx : S[n]? = some x) (iv : Value) (l : List (List Nat)) : GrowU S (S.set n { x with iv := iv, inn := l }) ∧ NoUp S (S.set n { x with iv := iv, inn := l }) := by
  have hn := (List.getElem?_eq_some_iff.1 hx).1
  refine ⟨fun z hz => ?_, fun y hy => ?_⟩
  · obtain ⟨m, hm⟩ := List.mem_iff_getElem?.1 hz
    by_cases e : m = n
    · subst e
      rw [hx] at hm
      cases hm
      exact ⟨{ x with iv := iv, inn := l }, List.mem_of_getElem? (i := m) (by rw [List.getElem?_set_self hn]), rfl, rfl, Nat.le_refl _⟩
    · exact ⟨z, List.mem_of_getElem? (i := m) (by rw [List.getElem?_set_ne (Ne.symm e)]; exact hm), rfl, rfl, Nat.le_refl _⟩
  · obtain ⟨m, hm⟩ := List.mem_iff_getElem?.1 hy
    by_cases e : m = n
    · subst e
      rw [List.getElem?_set_self hn] at hm
      cases hm
      exact Or.inr ⟨x, List.mem_of_getElem? hx, rfl, rfl, rfl⟩
    · rw [List.getElem?_set_ne (Ne.symm e)] at hm
      exact Or.inr ⟨y, List.mem_of_getElem? hm, rfl, rfl, rfl⟩
theorem set_up {S : List Sm} {n : Nat} {x : Sm} (hx : S[n]? = some x) (uv : Value) (b : List Nat) : GrowU S (S.set n { x with uv := uv, up := x.up ++ [b] }) ∧ ∀ y ∈ S.set n { x with uv := uv, up := x.up ++ [b] }, (∃ z ∈ S, z.mine = y.mine ∧ z.yours = y.yours ∧ z.up.length = y.up.length) ∨ (y.mine = x.mine ∧ y.yours = x.yours ∧ y.up.length = x.up.length + 1) := by
  have hn := (List.getElem?_eq_some_iff.1 hx).1
  refine ⟨fun z hz => ?_, fun y hy => ?_⟩
  · obtain ⟨m, hm⟩ := List.mem_iff_getElem?.1 hz
    by_cases e : m = n
    · subst e
      rw [hx] at hm
      cases hm
      exact ⟨{ x with uv := uv, up := x.up ++ [b] }, List.mem_of_getElem? (i := m) (by rw [List.getElem?_set_self hn]), rfl, rfl, by simp⟩
    · exact ⟨z, List.mem_of_getElem? (i := m) (by rw [List.getElem?_set_ne (Ne.symm e)]; exact hm), rfl, rfl, Nat.le_refl _⟩
  · obtain ⟨m, hm⟩ := List.mem_iff_getElem?.1 hy
    by_cases e : m = n
    · subst e
      rw [List.getElem?_set_self hn] at hm
      cases hm
      exact Or.inr ⟨rfl, rfl, by simp⟩
    · rw [List.getElem?_set_ne (Ne.symm e)] at hm
      exact Or.inl ⟨y, List.mem_of_getElem? hm, rfl, rfl, rfl⟩
section
variable {W M lx lx' ly : Nat} {X X' Y : Lk} {S S' T : List Sm}
theorem Fex.grow {f : Fr} (h : Fex X lx S f) (lg : LGrow X lx X' lx') (gw : GrowU S S') : Fex X' lx' S' f := by
  refine ⟨?_, ?_, fun e1 e2 => ?_⟩
  · rcases h.ack with q | ⟨x, hx, a1, a2, a3⟩
    · exact Or.inl q
    · obtain ⟨y, hy, c1, c2, c3⟩ := gw x hx
      exact Or.inr ⟨y, hy, c1.trans a1, c2.trans a2, Nat.le_trans a3 c3⟩
  · rcases lg with q | ⟨q, q2⟩
    · rcases h.old with o | o <;> (left; omega)
    · rcases h.old with o | ⟨o1, o2⟩
      · left; omega
      · right
        refine ⟨by omega, ?_⟩
        rcases q2 with q2 | q2 <;> omega
  · rcases lg with q | ⟨q, q2⟩
    · rcases h.old with o | o <;> omega
    · rcases q2 with q2 | ⟨q2, q3⟩
      · rcases h.old with o | o <;> omega
      · have := h.seqg (by omega) (by omega)
        omega
/-- The other side's sessions have grown, but nothing was handed up. -/
theorem Flow.recv (g : Flow W M Y ly T lx S) (hl : lx ≤ lx') (gw : GrowU S S') (nu : NoUp S S') : Flow W M Y ly T lx' S' := by
  refine ⟨Nat.le_trans g.kn hl, g.z0, fun hk => ?_, fun hk y hy e1 e2 => ?_, g.p3, g.p4, g.p5, g.gn, fun y hy hu => ?_, g.lim, g.gap, g.left⟩
  · rcases g.p1 hk with q | ⟨x, hx, a1, a2, a3⟩
    · exact Or.inl q
    · obtain ⟨y, hy, c1, c2, c3⟩ := gw x hx
      exact Or.inr ⟨y, hy, c1.trans a1, c2.trans a2, by omega⟩
  · rcases nu y hy with q | ⟨x, hx, a1, a2, a3⟩
    · omega
    · have := g.p2 hk x hx (a1.trans e1) (a2.trans e2)
      omega
  · rcases nu y hy with q | ⟨x, hx, a1, a2, a3⟩
    · exact absurd q hu
    · obtain ⟨z, hz, c1, c2⟩ := g.u x hx (by omega)
      exact ⟨z, hz, c1.trans a2, c2.trans a1⟩
/-- This side's sessions have grown. -/
theorem Flow.keys (f : Flow W M X lx S ly T) (gw : GrowU S S') : Flow W M X lx S' ly T :=
  ⟨f.kn, f.z0, f.p1, f.p2, f.p3, f.p4, f.p5, f.gn, fun y hy hu => by
    obtain ⟨x, hx, a1, a2⟩ := f.u y hy hu
    obtain ⟨z, hz, c1, c2, _⟩ := gw x hx
    exact ⟨z, hz, c1.trans a1, c2.trans a2⟩, f.lim, f.gap, f.left⟩
/-- A link that is like this one but for flags. -/
theorem Flow.like (f : Flow W M X lx S ly T) (e1 : X'.known = X.known) (e2 : X'.handed = X.handed ∨ X.known ≠ 0) (e3 : X'.gone = X.gone) (e4 : X'.numbered = X.numbered) (e5 : X'.row = X.row) (e6 : X'.lim = X.lim) (e7 : X'.gap = X.gap) (e8 : X'.left = X.left) : Flow W M X' lx S ly T := by
  refine ⟨by rw [e1]; exact f.kn, fun hk => ?_, by rw [e1, e4, e5]; exact f.p1, by rw [e1, e3]; exact f.p2, by rw [e3, e4, e5]; exact f.p3, by rw [e4, e5]; exact f.p4, by rw [e4, e5]; exact f.p5, by rw [e3, e4]; exact f.gn, f.u, by rw [e6]; exact f.lim, by rw [e7]; exact f.gap, by rw [e8]; exact f.left⟩
  rw [e1] at hk
  have := f.z0 hk
  rcases e2 with q | q
  · rw [q, e3]; exact this
  · exact absurd hk q
theorem Flow.new (f : Flow W M X lx S ly T) (me other : Int) (n : Nat) (hM : 1 ≤ M ∧ M ≤ 64) : Flow W M (Lk.new me other n (W : Int) (M : Int)) n S ly T := by
  refine ⟨Nat.zero_le _, fun _ => ⟨rfl, rfl⟩, fun hk => absurd rfl hk, fun hk => absurd rfl hk, Nat.zero_le _, fun j m hm => (by cases hm), Nat.le_refl _, Nat.le_refl _, f.u, ?_, ?_, Nat.zero_le _⟩
  · show (if 1 ≤ (M : Int) ∧ (M : Int) ≤ 64 then some (M : Int).toNat else none) = some M
    rw [if_pos (by omega)]; rfl
  · show 1 ≤ (if 1 ≤ (M : Int) ∧ (M : Int) ≤ 64 then 1 else 0) ∧ (if 1 ≤ (M : Int) ∧ (M : Int) ≤ 64 then 1 else 0) ≤ M
    rw [if_pos (by omega)]; omega
theorem Flow.sent (f : Flow W M X lx S ly T) (hM : 1 ≤ M) (s : ByteArray) : Flow W M (sendN X s) lx S ly T := by
  have h1 : (sendN X s).known = X.known ∧ (sendN X s).handed = X.handed ∧ (sendN X s).gone = X.gone ∧ (sendN X s).lim = X.lim := by unfold sendN sendL; split <;> exact ⟨rfl, rfl, rfl, rfl⟩
  have h2 : (sendN X s).numbered = X.numbered + 1 := rfl
  have h3 : (sendN X s).row = X.row ++ [(X.numbered + 1, s)] := rfl
  have h4 : (1 ≤ (sendN X s).gap ∧ (sendN X s).gap ≤ M) ∧ (sendN X s).left ≤ M := by
    unfold sendN sendL
    split
    · exact ⟨⟨Nat.le_refl _, hM⟩, Nat.zero_le _⟩
    · exact ⟨f.gap, f.left⟩
  have hl : (X.row ++ [(X.numbered + 1, s)]).length = X.row.length + 1 := by simp
  refine ⟨by rw [h1.1]; exact f.kn, by rw [h1.1, h1.2.1, h1.2.2.1]; exact f.z0, fun hk => ?_, by rw [h1.1, h1.2.2.1]; exact f.p2, ?_, fun j m hm => ?_, ?_, ?_, f.u, by rw [h1.2.2.2]; exact f.lim, h4.1, h4.2⟩
  · rw [h1.1] at hk ⊢
    rw [h2, h3, hl]
    rcases f.p1 hk with q | ⟨y, hy, a1, a2, a3⟩
    · left; omega
    · exact Or.inr ⟨y, hy, a1, a2, by omega⟩
  · rw [h1.2.2.1, h2, h3, hl]; have := f.p3; omega
  · rw [h3] at hm
    rw [h2, h3, hl]
    by_cases hj : j < X.row.length
    · rw [List.getElem?_append_left hj] at hm
      have := f.p4 j m hm
      omega
    · have := (List.getElem?_eq_some_iff.1 hm).1
      rw [hl] at this
      obtain rfl : j = X.row.length := by omega
      simp at hm
      subst hm
      simp only
      omega
  · rw [h2, h3, hl]; have := f.p5; omega
  · rw [h1.2.2.1, h2]; have := f.gn; omega
end
end Go.Proofs.YtbcpoejpbhpcbaaDoor
namespace Go.Proofs.YtbcpoejpbhpcbaaDoor
open Go.RowKit

theorem foldl_max_le (ms : List (Nat × ByteArray)) : ∀ q, q ≤ ms.foldl (fun a m => max a m.1) q ∧ (∀ m ∈ ms, m.1 ≤ ms.foldl (fun a m => max a m.1) q) ∧ ∀ B, q ≤ B → (∀ m ∈ ms, m.1 ≤ B) → ms.foldl (fun a m => max a m.1) q ≤ B := by
  induction ms with
  | nil => intro q; exact ⟨Nat.le_refl _, fun m hm => (by cases hm), fun B h _ => h⟩
  | cons x ms ih =>
    intro q
    obtain ⟨h1, h2, h3⟩ := ih (max q x.1)
    refine ⟨by simp only [List.foldl_cons]; omega, fun m hm => ?_, fun B hq hB => ?_⟩
    · simp only [List.foldl_cons]
      rcases List.mem_cons.1 hm with e | e
      · subst e; omega
      · exact h2 m e
    · simp only [List.foldl_cons]
      have := hB x (by simp)
      exact h3 B (by omega) (fun m hm => hB m (List.mem_cons_of_mem _ hm))
/-- What a tick leaves as it was; what has gone out; the pace. -/
theorem tick_facts (X : Lk) : (tickL X).me = X.me ∧ (tickL X).other = X.other ∧ (tickL X).life = X.life ∧ (tickL X).known = X.known ∧ (tickL X).window = X.window ∧ (tickL X).numbered = X.numbered ∧ (tickL X).handed = X.handed ∧ (tickL X).row = X.row ∧ (tickL X).lim = X.lim ∧ (tickL X).paced = X.paced ∧ (tickL X).gone = gonM X.gone (tmL X) X.gone (inWin X) ∧ (tickL X).left = (tkR X).left ∧ (tickL X).gap = (tkR X).gap := by
  have hb : (bodL X).me = X.me ∧ (bodL X).other = X.other ∧ (bodL X).life = X.life ∧ (bodL X).known = X.known ∧ (bodL X).window = X.window ∧ (bodL X).numbered = X.numbered ∧ (bodL X).handed = X.handed ∧ (bodL X).row = X.row ∧ (bodL X).lim = X.lim ∧ (bodL X).paced = X.paced ∧ (bodL X).gone = gonM X.gone (tmL X) X.gone (inWin X) ∧ (bodL X).left = (tkR X).left ∧ (bodL X).gap = (tkR X).gap := by
    have hg : (tkR X).gone = X.gone := (tkR_same X).2.2.1
    refine ⟨?_, ?_, ?_, ?_, ?_, ?_, ?_, ?_, ?_, ?_, ?_, rfl, rfl⟩
    · show (tkR X).me = _; unfold tkR ltick; split; split <;> rfl; rfl
    · show (tkR X).other = _; unfold tkR ltick; split; split <;> rfl; rfl
    · show (tkR X).life = _; unfold tkR ltick; split; split <;> rfl; rfl
    · exact (tkR_same X).2.1
    · exact (tkR_same X).1
    · show (tkR X).numbered = _; unfold tkR ltick; split; split <;> rfl; rfl
    · show (tkR X).handed = _; unfold tkR ltick; split; split <;> rfl; rfl
    · exact (tkR_same X).2.2.2.2.2.2.1
    · show (tkR X).lim = _; unfold tkR ltick; split; split <;> rfl; rfl
    · exact (tkR_same X).2.2.2.2.2.1
    · show gonM (tkR X).gone _ _ _ = _; rw [hg]
  unfold tickL
  split
  · exact hb
  · exact hb
theorem tick_flags (X : Lk) : (tickL X).ack = (if outF X = [] then X.ack else false) ∧ (tickL X).asked = (if outF X = [] then X.asked else false) := by
  have hm : midO X = [] ↔ outF X = [] := by rw [mid_map]; simp
  have h1 := bodL_same X
  unfold tickL
  by_cases h : midO X = []
  · rw [if_pos h, if_pos (hm.1 h), if_pos (hm.1 h)]; exact ⟨h1.1, h1.2.1⟩
  · rw [if_neg h, if_neg (fun q => h (hm.2 q)), if_neg (fun q => h (hm.2 q))]; exact ⟨rfl, rfl⟩
section
variable {W M lx ly k : Nat} {X : Lk} {S T : List Sm} {me other : Int}
theorem Flow.win (f : Flow W M X lx S ly T) (hw : X.window = (W : Int)) : ∀ m ∈ inWin X, m.1 + X.row.length ≤ X.numbered + W ∧ m.1 ≤ X.numbered := fun m hm => by
  unfold inWin at hm
  split at hm
  · cases hm
  · obtain ⟨j, hj⟩ := List.mem_iff_getElem?.1 hm
    have hjl := (List.getElem?_eq_some_iff.1 hj).1
    rw [List.length_take] at hjl
    rw [List.getElem?_take, if_pos (by omega)] at hj
    have h4 := f.p4 j m hj
    have hW : X.window.toNat = W := by omega
    omega
theorem Flow.tick (f : Flow W M X lx S ly T) (hw : X.window = (W : Int)) (hM : 1 ≤ M) : Flow W M (tickL X) lx S ly T ∧ LGrow X lx (tickL X) lx := by
  obtain ⟨-, -, -, e4, -, e6, e7, e8, e9, -, e11, e12, e13⟩ := tick_facts X
  have hwin := f.win hw
  obtain ⟨g1, -, g3⟩ := foldl_max_le ((inWin X).filter (goN (tmL X) X.gone)) X.gone
  have hfl : ∀ m ∈ (inWin X).filter (goN (tmL X) X.gone), m ∈ inWin X := fun m hm => (List.mem_filter.1 hm).1
  have hg : (tickL X).gone = ((inWin X).filter (goN (tmL X) X.gone)).foldl (fun a m => max a m.1) X.gone := e11
  have p3 := f.p3
  have p5 := f.p5
  have hpc : (1 ≤ (tkR X).gap ∧ (tkR X).gap ≤ M) ∧ (tkR X).left ≤ M := by
    have h1 := f.gap
    have h2 := f.left
    unfold tkR ltick
    split
    · split
      · exact ⟨h1, by show X.left - 1 ≤ M; omega⟩
      · refine ⟨?_, h1.2⟩
        show 1 ≤ (match X.lim with | none => X.gap | some m => min (2 * X.gap) m) ∧ (match X.lim with | none => X.gap | some m => min (2 * X.gap) m) ≤ M
        rw [f.lim]
        simp only
        omega
    · exact ⟨h1, h2⟩
  refine ⟨⟨by rw [e4]; exact f.kn, fun hk => ?_, by rw [e4, e6, e8]; exact f.p1, fun hk y hy q1 q2 => ?_, ?_, by rw [e6, e8]; exact f.p4, by rw [e6, e8]; exact f.p5, ?_, f.u, by rw [e9]; exact f.lim, by rw [e13]; exact hpc.1, by rw [e12]; exact hpc.2⟩, Or.inr ⟨rfl, Or.inr ⟨e4.symm, by rw [hg]; exact g1⟩⟩⟩
  · rw [e4] at hk
    rw [e7, hg]
    have hz := f.z0 hk
    have hi : inWin X = [] := by unfold inWin; rw [if_pos hk]
    rw [hi]
    exact hz
  · rw [e4] at hk q1
    have := f.p2 hk y hy q1 q2
    rw [hg]; omega
  · rw [hg, e6, e8]
    have := g3 (X.numbered + W - X.row.length) (by omega) (fun m hm => by have := (hwin m (hfl m hm)).1; omega)
    omega
  · rw [hg, e6]
    exact g3 X.numbered f.gn (fun m hm => (hwin m (hfl m hm)).2)
theorem Flow.outs (f : Flow W M X lx S ly T) (hs : Sok me other X lx k S) : ∀ fr ∈ outF X, Fex (tickL X) lx S fr := by
  obtain ⟨-, -, -, e4, -, -, -, -, -, -, e11, -, -⟩ := tick_facts X
  have hack : X.handed = 0 ∨ ∃ x ∈ S, x.mine = X.life ∧ x.yours = X.known ∧ X.handed ≤ x.up.length := by
    by_cases hk : X.known = 0
    · exact Or.inl (f.z0 hk).1
    · by_cases hex : ∃ x ∈ S, x.mine = lx ∧ x.yours = X.known
      · obtain ⟨x, hx, q1, q2⟩ := hex
        have := (hs.cur hk x hx q1 q2).2.1
        exact Or.inr ⟨x, hx, by rw [hs.lf]; exact q1, q2, by omega⟩
      · exact Or.inl (hs.non hk (fun x hx q => hex ⟨x, hx, q.1, q.2⟩)).2.1
  obtain ⟨-, g2, -⟩ := foldl_max_le ((inWin X).filter (goN (tmL X) X.gone)) X.gone
  have hg : (tickL X).gone = ((inWin X).filter (goN (tmL X) X.gone)).foldl (fun a m => max a m.1) X.gone := e11
  have hold : X.life < lx ∨ (X.life = lx ∧ X.known ≤ (tickL X).known) := Or.inr ⟨hs.lf, by rw [e4]; exact Nat.le_refl _⟩
  intro fr hf
  unfold outF at hf
  split at hf
  · split at hf
    · simp at hf; subst hf; exact ⟨hack, hold, fun _ _ => Nat.zero_le _⟩
    · cases hf
  · unfold bodF at hf
    obtain ⟨m, hm, rfl⟩ := List.mem_map.1 hf
    exact ⟨hack, hold, fun _ _ => by show m.1 ≤ _; rw [hg]; exact g2 m hm⟩
end
end Go.Proofs.YtbcpoejpbhpcbaaDoor
namespace Go.Proofs.YtbcpoejpbhpcbaaDoor
open Go.RowKit

def HearS (X : Lk) (S S' : List Sm) (lx mine yours seq ack : Nat) (bo : List Nat) : Prop :=
  (hdN X mine yours seq ack = false ∧ S' = S) ∨ (hdN X mine yours seq ack = true ∧ ∃ (S'' : List Sm) (n : Nat) (x : Sm) (uv : Value), NowS S S'' lx (hearN X mine yours seq ack).known ∧ S''[n]? = some x ∧ x.mine = lx ∧ x.yours = (hearN X mine yours seq ack).known ∧ S' = S''.set n { x with uv := uv, up := x.up ++ [bo] })
theorem cnt_rows {a : Nat} : ∀ (ms : List (Nat × ByteArray)) (s : Nat), (∀ j m, ms[j]? = some m → m.1 = s + j + 1) → cnt a ms = min ms.length (a - s)
  | [], s, _ => by simp [cnt]
  | m :: ms, s, h => by
    have h0 : m.1 = s + 1 := by have := h 0 m rfl; omega
    have ih := @cnt_rows a ms (s + 1) (fun j x hx => by have := h (j + 1) x (by simpa using hx); omega)
    unfold cnt
    split
    · rw [ih]; simp only [List.length_cons]; omega
    · simp only [List.length_cons]; omega
section
variable {bo : List Nat} {W M lx ly k mine yours seq ack : Nat} {X Y : Lk} {S S' T : List Sm} {me other : Int}
theorem Flow.hear1 (f : Flow W M X lx S ly T) (hs : Sok me other X lx k S) (hM : 1 ≤ M) (hm : mine ≤ ly) : Flow W M (Go.Proofs.YtbcpoejpbhpcbaaDoor.hear1 X mine) lx S ly T := by
  unfold Go.Proofs.YtbcpoejpbhpcbaaDoor.hear1
  split
  · rename_i hlt
    refine ⟨hm, fun hk => (by have h2 : mine = 0 := hk; omega), fun _ => Or.inl (Nat.le_refl _), fun _ y hy e1 e2 => ?_, Nat.zero_le _, fun j m hm => (by cases hm), Nat.le_refl _, Nat.le_refl _, f.u, f.lim, ⟨Nat.le_refl _, hM⟩, Nat.zero_le _⟩
    by_cases hz : y.up.length = 0
    · exact Nat.le_of_eq hz
    · exfalso
      obtain ⟨x, hx, a1, a2⟩ := f.u y hy hz
      have e1' : y.mine = mine := e1
      rcases hs.old x hx with q | q <;> omega
  · exact f
theorem Flow.rows (f : Flow W M X lx S ly T) (a : Nat) : cnt a X.row = min X.row.length (a - (X.numbered - X.row.length)) :=
  @cnt_rows a X.row (X.numbered - X.row.length) (fun j m hm => by have := f.p4 j m hm; have := f.p5; omega)
theorem Flow.ackd (f : Flow W M X lx S ly T) (a : Nat) (ha : X.known ≠ 0 → a = 0 ∨ ∃ y ∈ T, y.mine = X.known ∧ y.yours = lx ∧ a ≤ y.up.length) : Flow W M (ackL X a) lx S ly T := by
  unfold ackL
  split
  · have hc := f.rows a
    have p5 := f.p5
    have hl : (X.row.drop (cnt a X.row)).length = X.row.length - cnt a X.row := by simp
    refine ⟨f.kn, f.z0, fun hk => ?_, f.p2, ?_, fun j m hm => ?_, ?_, f.gn, f.u, f.lim, f.gap, f.left⟩
    · show X.numbered ≤ (X.row.drop (cnt a X.row)).length ∨ ∃ y ∈ T, y.mine = X.known ∧ y.yours = lx ∧ X.numbered ≤ (X.row.drop (cnt a X.row)).length + y.up.length
      rw [hl]
      by_cases h0 : cnt a X.row = 0
      · rw [h0]; exact f.p1 hk
      · rcases ha hk with q | ⟨y, hy, q1, q2, q3⟩
        · exfalso; omega
        · exact Or.inr ⟨y, hy, q1, q2, by omega⟩
    · show X.gone + (X.row.drop (cnt a X.row)).length ≤ X.numbered + W
      rw [hl]; have := f.p3; omega
    · have hm' : (X.row.drop (cnt a X.row))[j]? = some m := hm
      rw [List.getElem?_drop] at hm'
      have h4 := f.p4 _ m hm'
      have hj := (List.getElem?_eq_some_iff.1 hm').1
      show m.1 + (X.row.drop (cnt a X.row)).length = X.numbered + j + 1
      rw [hl]; omega
    · show (X.row.drop (cnt a X.row)).length ≤ X.numbered
      rw [hl]; omega
  · exact f
theorem Flow.hearX {fr : Fr} (f : Flow W M X lx S ly T) (hs : Sok me other X lx k S) (hM : 1 ≤ M) (hf : Fex Y ly T fr) (hm1 : fr.mine ≤ ly) (hm0 : ¬ fr.mine = 0) : Flow W M (hearN X fr.mine fr.yours fr.seq fr.ack) lx S ly T ∧ LGrow X lx (hearN X fr.mine fr.yours fr.seq fr.ack) lx := by
  unfold hearN
  by_cases hle : X.known ≤ fr.mine
  · rw [if_pos hle]
    have f1 := f.hear1 hs hM hm1
    have hsm := hear1_same X fr.mine hle
    have hlg : LGrow X lx (Go.Proofs.YtbcpoejpbhpcbaaDoor.hear1 X fr.mine) lx := by
      refine Or.inr ⟨rfl, ?_⟩
      unfold Go.Proofs.YtbcpoejpbhpcbaaDoor.hear1
      by_cases e : X.known < fr.mine
      · rw [if_pos e]; exact Or.inl e
      · rw [if_neg e]; exact Or.inr ⟨rfl, Nat.le_refl _⟩
    unfold hrL
    by_cases hy : fr.yours = X.life
    · rw [if_pos hy]
      have f2 : Flow W M { Go.Proofs.YtbcpoejpbhpcbaaDoor.hear1 X fr.mine with paced := false } lx S ly T := f1.like rfl (Or.inl rfl) rfl rfl rfl rfl rfl rfl
      have f3 := f2.ackd fr.ack (fun _ => by
        rcases hf.ack with q | ⟨x, hx, a1, a2, a3⟩
        · exact Or.inl q
        · exact Or.inr ⟨x, hx, a1.trans hsm.1.symm, a2.trans (hy.trans hs.lf), a3⟩)
      have hak := ackL_same { Go.Proofs.YtbcpoejpbhpcbaaDoor.hear1 X fr.mine with paced := false } fr.ack
      have hag : (ackL { Go.Proofs.YtbcpoejpbhpcbaaDoor.hear1 X fr.mine with paced := false } fr.ack).gone = (Go.Proofs.YtbcpoejpbhpcbaaDoor.hear1 X fr.mine).gone := by unfold ackL; split <;> rfl
      generalize ackL { Go.Proofs.YtbcpoejpbhpcbaaDoor.hear1 X fr.mine with paced := false } fr.ack = Z at f3 hak hag
      have hb : (bodyL Z fr.seq).known = Z.known ∧ (bodyL Z fr.seq).gone = Z.gone ∧ (bodyL Z fr.seq).numbered = Z.numbered ∧ (bodyL Z fr.seq).row = Z.row ∧ (bodyL Z fr.seq).lim = Z.lim ∧ (bodyL Z fr.seq).gap = Z.gap ∧ (bodyL Z fr.seq).left = Z.left ∧ (Z.known = 0 → (bodyL Z fr.seq).handed = Z.handed ∨ fr.seq = Z.handed + 1) := by
        unfold bodyL
        split
        · exact ⟨rfl, rfl, rfl, rfl, rfl, rfl, rfl, fun _ => Or.inl rfl⟩
        · split
          · rename_i h; exact ⟨rfl, rfl, rfl, rfl, rfl, rfl, rfl, fun _ => Or.inr h⟩
          · exact ⟨rfl, rfl, rfl, rfl, rfl, rfl, rfl, fun _ => Or.inl rfl⟩
      have hzk : Z.known = fr.mine := hak.1.trans hsm.1
      refine ⟨?_, ?_⟩
      · by_cases hz : Z.known = 0
        · have hmm : fr.mine = 0 := hzk.symm.trans hz
          refine f3.like hb.1 ?_ hb.2.1 hb.2.2.1 hb.2.2.2.1 hb.2.2.2.2.1 hb.2.2.2.2.2.1 hb.2.2.2.2.2.2.1
          rcases hb.2.2.2.2.2.2.2 hz with q | q
          · exact Or.inl q
          · exfalso
            exact hm0 hmm
        · exact f3.like hb.1 (Or.inr hz) hb.2.1 hb.2.2.1 hb.2.2.2.1 hb.2.2.2.2.1 hb.2.2.2.2.2.1 hb.2.2.2.2.2.2.1
      · rcases hlg with q | ⟨q, q2⟩
        · exact absurd q (Nat.lt_irrefl _)
        · refine Or.inr ⟨rfl, ?_⟩
          rw [hb.1, hb.2.1, hag, hzk]
          rw [hsm.1] at q2
          exact q2
    · rw [if_neg hy]
      exact ⟨f1.like rfl (Or.inl rfl) rfl rfl rfl rfl rfl rfl, hlg⟩
  · rw [if_neg hle]
    exact ⟨f, LGrow.refl X lx⟩
/-- What the other side has sent is handed up here, or not. -/
theorem Flow.hearY {fr : Fr} {Y : Lk} (g : Flow W M Y ly T lx S) (hs : Sok me other X lx k S) (hfo : Fok other me ly T fr) (hf : Fex Y ly T fr) (hh : HearS X S S' lx fr.mine fr.yours fr.seq fr.ack bo) (hm1 : 1 ≤ fr.mine) (hm2 : fr.mine ≤ 1099511627776) : Flow W M Y ly T lx S' ∧ GrowU S S' := by
  rcases hh with ⟨_, q⟩ | ⟨hH, S'', n, x, uv, hns, hx, q1, q2, q⟩
  · rw [q]; exact ⟨g, GrowU.refl S⟩
  · obtain ⟨gw1, nu1⟩ := hns.ups
    obtain ⟨gw2, hset⟩ := set_up hx uv bo
    obtain ⟨-, r1, r2, r3, r4⟩ := hs.handedS hH hm2 hm1 hns hx q1 q2 uv bo
    have r3' : fr.yours = lx := r3.trans hs.lf
    have g1 := g.recv (Nat.le_refl lx) gw1 nu1
    rw [q]
    refine ⟨⟨g1.kn, g1.z0, fun hk => ?_, fun hk y hy e1 e2 => ?_, g1.p3, g1.p4, g1.p5, g1.gn, fun y hy hu => ?_, g1.lim, g1.gap, g1.left⟩, gw1.trans gw2⟩
    · rcases g1.p1 hk with q | ⟨z, hz, a1, a2, a3⟩
      · exact Or.inl q
      · obtain ⟨y, hy, c1, c2, c3⟩ := gw2 z hz
        exact Or.inr ⟨y, hy, c1.trans a1, c2.trans a2, by omega⟩
    · rcases hset y hy with ⟨z, hz, a1, a2, a3⟩ | ⟨a1, a2, a3⟩
      · have := g1.p2 hk z hz (a1.trans e1) (a2.trans e2)
        omega
      · have hsq := hf.seqg (r2.symm.trans (a2.symm.trans e2)) (r3'.trans (q1.symm.trans (a1.symm.trans e1)))
        omega
    · rcases hset y hy with ⟨z, hz, a1, a2, a3⟩ | ⟨a1, a2, a3⟩
      · obtain ⟨t, ht, c1, c2⟩ := g1.u z hz (by omega)
        exact ⟨t, ht, c1.trans a2, c2.trans a1⟩
      · obtain ⟨t, ht, c1, c2, _⟩ := hfo.seq r4
        exact ⟨t, ht, by rw [c1, a2]; exact r2.symm, by rw [c2, a1, q1]; exact r3'⟩
end
end Go.Proofs.YtbcpoejpbhpcbaaDoor
