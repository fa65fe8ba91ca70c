import Derived.Test.YtbcpoejpbhpcbaaDoorSeG
import Derived.Test.YtbcpoejpbhpcbaaDoorSeC
namespace Go.Proofs.YtbcpoejpbhpcbaaDoor
open Go.RowKit

/-- What pair.now makes of a side's sessions. -/
def NowS (S S' : List Sm) (life known : Nat) : Prop := S' = S ∨ (S' = S ++ [⟨life, known, .slice none 0 0, .slice none 0 0, [], []⟩] ∧ ∀ x ∈ S, ¬ (x.mine = life ∧ x.yours = known))
theorem NowS.grow {S S' : List Sm} {life known : Nat} (h : NowS S S' life known) : Grow S S' ∧ S'.length ≤ S.length + 1 := by
  rcases h with q | q
  · rw [q]; exact ⟨Grow.refl S, by omega⟩
  · rw [q.1]; exact ⟨grow_add S _, by simp⟩
theorem Sok.nowS {me other : Int} {L : Lk} {life k : Nat} {S S' : List Sm} (h : Sok me other L life k S) (hk : L.known ≠ 0) (hs : NowS S S' life L.known) : Sok me other L life k S' := by
  rcases hs with q | q
  · rw [q]; exact h
  · rw [q.1]; exact h.now hk q.2 _ _
/-! What a frame does to a link, whatever its life -/
def hearN (L : Lk) (mine yours seq ack : Nat) : Lk := if L.known ≤ mine then hrL L mine yours seq ack else L
def hdN (L : Lk) (mine yours seq ack : Nat) : Bool := decide (L.known ≤ mine) && hrH L mine yours seq ack
def riN (L : Lk) (mine yours : Nat) : Bool := decide (L.known ≤ mine) && decide (yours = L.life)
def upB (L : Lk) (mine yours seq ack : Nat) (body : List Nat) : List Nat := if hdN L mine yours seq ack = true then body else []
theorem Ss.put_up {w wg : World} {K : Knd} {ks : Nat × Nat} {kr n g cg : Nat} {v v' : Value} {S : List Sm} {x : Sm} {p : List Nat} {a : Option Addr} {c : Nat} {vs : List Value} (h : Ss w K ks kr v S) (hx : S[n]? = some x) (hks : ∀ j, ks ≠ (kr, j)) (h4 : ks ≠ (4, 0)) (hkr : kr ≠ 4) (hrk : Rk w K (kr, 2 * n + 1) 29 1 x.uv x.up.length vs) (hel : ∀ (i : Nat) (p : List Nat), x.up[i]? = some p → ∃ (sp : Option Addr) (c : Nat), vs[i]? = some (Value.slice sp p.length c) ∧ By4 w K sp p) (hg : w.grownBy wg x.uv.ownBlock) (ho : wg.ownsRow 0 29 1 v' (x.up.length + 1) (vs ++ [.slice a p.length c])) (hat : v'.ownBlock = x.uv.ownBlock ∨ ∃ g, v'.ownBlock = some g ∧ w.heap.size ≤ g) (hby : By4 w K a p) (hpl : p.length ≤ 2048) (hv : v = .slice (some ⟨g, 0, none⟩) S.length cg) :
    Ss (wg.setCell ⟨g, n * 4 + 3, none⟩ v') (ext K w.heap.size (kr, 2 * n + 1)) ks kr v (S.set n { x with uv := v', up := x.up ++ [p] }) ∧ Kp (fun q => q = (kr, 2 * n + 1) ∨ q = ks) K (ext K w.heap.size (kr, 2 * n + 1)) w (wg.setCell ⟨g, n * 4 + 3, none⟩ v') := by
  have m0 : Kp (fun q => q = (kr, 2 * n + 1)) K (ext K w.heap.size (kr, 2 * n + 1)) w wg := kp_grown hg K (kr, 2 * n + 1) (kr, 2 * n + 1) _ (fun g e => hrk.kind g e) rfl
  have own1 := h.own.kept m0 (hks _)
  have hkg : ext K w.heap.size (kr, 2 * n + 1) g = ks := own1.kind g (by rw [hv]; rfl)
  have ms : Kp (fun q => q = ks) (ext K w.heap.size (kr, 2 * n + 1)) (ext K w.heap.size (kr, 2 * n + 1)) wg (wg.setCell ⟨g, n * 4 + 3, none⟩ v') := (Kp.refl (fun q => q = ks) _ wg).setCell (b := g) (Or.inr hkg) _ _
  have m : Kp (fun q => q = (kr, 2 * n + 1) ∨ q = ks) K (ext K w.heap.size (kr, 2 * n + 1)) w (wg.setCell ⟨g, n * 4 + 3, none⟩ v') := (m0.mono (fun q e => Or.inl e)).trans (ms.mono (fun q e => Or.inr e))
  have hm4 : ¬ ((4, 0) = (kr, 2 * n + 1) ∨ ((4, 0) : Nat × Nat) = ks) := fun e => e.elim (fun e => hkr (congrArg Prod.fst e).symm) (fun e => h4 e.symm)
  have hmk : ∀ j, j ≠ 2 * n + 1 → ¬ ((kr, j) = (kr, 2 * n + 1) ∨ (kr, j) = ks) := fun j hj e => e.elim (fun e => hj (congrArg Prod.snd e)) (fun e => hks j e.symm)
  have hold := (h.rows n x hx).2.small
  have hn := (List.getElem?_eq_some_iff.1 hx).1
  refine ⟨⟨⟨?_, own1.kind⟩, fun j y hy => ?_⟩, m⟩
  · have hs := own1.own
    rw [hv] at hs ⊢
    have hs2 := (hs.stored (n * 4 + 3) v').1
    rw [← smV_up S n x v' (x.up ++ [p]) hx] at hs2
    rw [List.length_set]
    exact hs2
  · by_cases hj : j = n
    · subst hj
      rw [List.getElem?_set_self hn] at hy
      cases hy
      refine ⟨(h.rows j x hx).1.kp m hm4 (hmk _ (by omega)), ?_⟩
      refine ⟨⟨vs ++ [.slice a p.length c], ?_, fun i q hq => ?_⟩, fun q hq => ?_⟩
      · show Rk _ _ _ _ _ v' (x.up ++ [p]).length _
        rw [List.length_append]
        exact (hrk.grown ho hat).kept ms (fun e => hks _ e.symm)
      · have hq' : (x.up ++ [p])[i]? = some q := hq
        have hlv : vs.length = x.up.length := by have := hrk.own.1; omega
        by_cases hi : i < x.up.length
        · rw [List.getElem?_append_left hi] at hq'
          obtain ⟨sp, c2, q1, q2⟩ := hel i q hq'
          exact ⟨sp, c2, by rw [List.getElem?_append_left (by omega)]; exact q1, q2.kp m hm4⟩
        · have hi2 := (List.getElem?_eq_some_iff.1 hq').1
          rw [List.length_append] at hi2
          obtain rfl : i = x.up.length := by simp at hi2; omega
          simp at hq'
          subst hq'
          exact ⟨a, c, by rw [← hlv]; simp, hby.kp m hm4⟩
      · have hq' : q ∈ x.up ++ [p] := hq
        rcases List.mem_append.1 hq' with e | e
        · exact hold q e
        · simp at e; subst e; exact hpl
    · rw [List.getElem?_set_ne (Ne.symm hj)] at hy
      exact ⟨(h.rows j y hy).1.kp m hm4 (hmk _ (by omega)), (h.rows j y hy).2.kp m hm4 (hmk _ (by omega))⟩
theorem Ss.put_inn {w wg : World} {K : Knd} {ks : Nat × Nat} {kr n g cg : Nat} {v v' : Value} {S : List Sm} {x : Sm} {p : List Nat} {a : Option Addr} {c : Nat} {vs : List Value} (h : Ss w K ks kr v S) (hx : S[n]? = some x) (hks : ∀ j, ks ≠ (kr, j)) (h4 : ks ≠ (4, 0)) (hkr : kr ≠ 4) (hrk : Rk w K (kr, 2 * n) 29 1 x.iv x.inn.length vs) (hel : ∀ (i : Nat) (p : List Nat), x.inn[i]? = some p → ∃ (sp : Option Addr) (c : Nat), vs[i]? = some (Value.slice sp p.length c) ∧ By4 w K sp p) (hg : w.grownBy wg x.iv.ownBlock) (ho : wg.ownsRow 0 29 1 v' (x.inn.length + 1) (vs ++ [.slice a p.length c])) (hat : v'.ownBlock = x.iv.ownBlock ∨ ∃ g, v'.ownBlock = some g ∧ w.heap.size ≤ g) (hby : By4 w K a p) (hpl : p.length ≤ 2048) (hv : v = .slice (some ⟨g, 0, none⟩) S.length cg) :
    Ss (wg.setCell ⟨g, n * 4 + 2, none⟩ v') (ext K w.heap.size (kr, 2 * n)) ks kr v (S.set n { x with iv := v', inn := x.inn ++ [p] }) ∧ Kp (fun q => q = (kr, 2 * n) ∨ q = ks) K (ext K w.heap.size (kr, 2 * n)) w (wg.setCell ⟨g, n * 4 + 2, none⟩ v') := by
  have m0 : Kp (fun q => q = (kr, 2 * n)) K (ext K w.heap.size (kr, 2 * n)) w wg := kp_grown hg K (kr, 2 * n) (kr, 2 * n) _ (fun g e => hrk.kind g e) rfl
  have own1 := h.own.kept m0 (hks _)
  have hkg : ext K w.heap.size (kr, 2 * n) g = ks := own1.kind g (by rw [hv]; rfl)
  have ms : Kp (fun q => q = ks) (ext K w.heap.size (kr, 2 * n)) (ext K w.heap.size (kr, 2 * n)) wg (wg.setCell ⟨g, n * 4 + 2, none⟩ v') := (Kp.refl (fun q => q = ks) _ wg).setCell (b := g) (Or.inr hkg) _ _
  have m : Kp (fun q => q = (kr, 2 * n) ∨ q = ks) K (ext K w.heap.size (kr, 2 * n)) w (wg.setCell ⟨g, n * 4 + 2, none⟩ v') := (m0.mono (fun q e => Or.inl e)).trans (ms.mono (fun q e => Or.inr e))
  have hm4 : ¬ ((4, 0) = (kr, 2 * n) ∨ ((4, 0) : Nat × Nat) = ks) := fun e => e.elim (fun e => hkr (congrArg Prod.fst e).symm) (fun e => h4 e.symm)
  have hmk : ∀ j, j ≠ 2 * n → ¬ ((kr, j) = (kr, 2 * n) ∨ (kr, j) = ks) := fun j hj e => e.elim (fun e => hj (congrArg Prod.snd e)) (fun e => hks j e.symm)
  have hold := (h.rows n x hx).1.small
  have hn := (List.getElem?_eq_some_iff.1 hx).1
  refine ⟨⟨⟨?_, own1.kind⟩, fun j y hy => ?_⟩, m⟩
  · have hs := own1.own
    rw [hv] at hs ⊢
    have hs2 := (hs.stored (n * 4 + 2) v').1
    rw [← smV_in S n x v' (x.inn ++ [p]) hx] at hs2
    rw [List.length_set]
    exact hs2
  · by_cases hj : j = n
    · subst hj
      rw [List.getElem?_set_self hn] at hy
      cases hy
      refine ⟨?_, (h.rows j x hx).2.kp m hm4 (hmk _ (by omega))⟩
      refine ⟨⟨vs ++ [.slice a p.length c], ?_, fun i q hq => ?_⟩, fun q hq => ?_⟩
      · show Rk _ _ _ _ _ v' (x.inn ++ [p]).length _
        rw [List.length_append]
        exact (hrk.grown ho hat).kept ms (fun e => hks _ e.symm)
      · have hq' : (x.inn ++ [p])[i]? = some q := hq
        have hlv : vs.length = x.inn.length := by have := hrk.own.1; omega
        by_cases hi : i < x.inn.length
        · rw [List.getElem?_append_left hi] at hq'
          obtain ⟨sp, c2, q1, q2⟩ := hel i q hq'
          exact ⟨sp, c2, by rw [List.getElem?_append_left (by omega)]; exact q1, q2.kp m hm4⟩
        · have hi2 := (List.getElem?_eq_some_iff.1 hq').1
          rw [List.length_append] at hi2
          obtain rfl : i = x.inn.length := by simp at hi2; omega
          simp at hq'
          subst hq'
          exact ⟨a, c, by rw [← hlv]; simp, hby.kp m hm4⟩
      · have hq' : q ∈ x.inn ++ [p] := hq
        rcases List.mem_append.1 hq' with e | e
        · exact hold q e
        · simp at e; subst e; exact hpl
    · rw [List.getElem?_set_ne (Ne.symm hj)] at hy
      exact ⟨(h.rows j y hy).1.kp m hm4 (hmk _ (by omega)), (h.rows j y hy).2.kp m hm4 (hmk _ (by omega))⟩
section
variable {w wr : World} {K : Knd} {pb W M l0 l1 b0 b1 : Nat} {sv s0 s1 : Value} {A B : Lk} {ra rb : Value} {S T : List Sm} {es : List Fe} {k : Nat}
theorem nowP0 (h : Pm w wr K pb W M l0 l1 b0 b1 sv s0 s1 A B ra rb S T es) (hlen : S.length ≤ 20000) :
    Calls Tryd.prog 12 #[.pointer (some ⟨pb, 0, none⟩), .int .i64 0] wr fun e w' => (A.known = 0 ∧ e = .returned (.int .i64 (-1)) ∧ w' = wr) ∨ (A.known ≠ 0 ∧ ∃ (n : Nat) (x : Sm) (s' : Value) (K' : Knd) (S' : List Sm), e = .returned (.int .i64 (n : Int)) ∧ S'[n]? = some x ∧ x.mine = l0 ∧ x.yours = A.known ∧ NowS S S' l0 A.known ∧ Pm w w' K' pb W M l0 l1 b0 b1 sv s' s1 A B ra rb S' T es ∧ Kp (fun q => q = (2, 0) ∨ q = (5, 0)) K K' wr w') := by
  refine (now0 wr K pb W M l0 l1 b0 b1 sv s0 s1 A ra S h.pk h.lq0.lw.lb h.ss0 hlen).mono ?_
  rintro e w' (⟨hk, he, hw⟩ | ⟨hk, n, x, q, hx, q1, q2, _, he, hw⟩ | ⟨hk, hno, he, v, K', hp, hs, m⟩)
  · exact Or.inl ⟨hk, he, hw⟩
  · refine Or.inr ⟨hk, n, x, s0, K, S, he, hx, q1, q2, Or.inl rfl, ?_, ?_⟩
    · rw [hw]; exact h.drewN q
    · rw [hw]; exact (drewN_kq wr K q).mono (fun _ e => e.elim)
  · exact Or.inr ⟨hk, S.length, ⟨l0, A.known, .slice none 0 0, .slice none 0 0, [], []⟩, v, K', _, he, by simp, rfl, rfl, Or.inr ⟨rfl, fun x hx => by
      obtain ⟨n, hn⟩ := List.mem_iff_getElem?.1 hx
      exact hno n x (List.getElem?_eq_some_iff.1 hn).1 hn⟩, ⟨m.below h.bel (fun x hx => by rw [h.kz x hx]; simp), fun x hx => (m.same x (Nat.lt_of_lt_of_le hx h.bel.size)).trans (h.kz x hx), hp, h.lq0.kp m (by simp), h.lq1.kp m (by simp), h.sent.kept m (by simp), fun e he => (h.bod e he).kp m (by simp), hs, h.ss1.kp m (by simp) (by simp) (fun j => by simp), h.tab⟩, m⟩
/-- Hear. -/
theorem hear_pm0 (h : Pm w wr K pb W M l0 l1 b0 b1 sv s0 s1 A B ra rb S T es) (hd : Sok 0 5 A l0 k S) (hk : k ≤ 20000) (mine yours seq ack n c : Nat) (sp : Option Addr) (body : List Nat) (hn : body.length = n) (hby : By4 wr K sp body) (hsp : ∀ a, sp = some a → K a.block = (4, 0)) (hfit : (⟨5, 0, mine, yours, seq, ack, body⟩ : Fr).fit) :
    Calls Tryd.prog 44 #[.pointer (some ⟨b0, 0, none⟩), .agg #[.int .i64 5, .int .i64 0, .int .u64 (mine : Int), .int .u64 (yours : Int), .int .u64 (seq : Int), .int .u64 (ack : Int), .slice sp n c]] wr fun e w' =>
      ∃ (a : Option Addr) (m cc : Nat) (r' : Value), e = .returned (.agg #[.slice a m cc, .bool (hdN A mine yours seq ack), .bool (decide (A.known < mine)), .bool (riN A mine yours)]) ∧ (upB A mine yours seq ack body).length = m ∧ By4 w' (ext K wr.heap.size (4, 0)) a (upB A mine yours seq ack body) ∧ Pm w w' (ext K wr.heap.size (4, 0)) pb W M l0 l1 b0 b1 sv s0 s1 (hearN A mine yours seq ack) B r' rb S T es ∧ Kp (fun q => q = (1, 0)) K (ext K wr.heap.size (4, 0)) wr w' := by
  have h1 := hd.rn.row
  have h2 := hd.rn.hand
  by_cases hle : A.known ≤ mine
  · have hr : rcv A A.other A.me mine yours seq ack body := ⟨by rw [hd.other, hd.me]; exact hfit, rfl, rfl, hle⟩
    have hc := hear_any wr b0 A ra h.lq0.lw mine yours seq ack n c sp body hn hby.by_ (fun a ha => ⟨fun e => (by have := hsp a ha; rw [e, h.lq0.kb] at this; cases this), fun e => (by have := hsp a ha; rw [h.lq0.kr _ e.symm] at this; cases this)⟩) hr (by omega) (by omega)
    rw [hd.other, hd.me] at hc
    refine hc.mono ?_
    rintro e w' ⟨a, m, cc, r', he, hp⟩
    have e1 : hdN A mine yours seq ack = hrH A mine yours seq ack := by unfold hdN; rw [decide_eq_true hle]; rfl
    have e2 : riN A mine yours = decide (yours = A.life) := by unfold riN; rw [decide_eq_true hle]; rfl
    have e4 : upB A mine yours seq ack body = if hrH A mine yours seq ack = true then body else [] := by unfold upB; rw [e1]
    have e5 : hearN A mine yours seq ack = hrL A mine yours seq ack := by unfold hearN; rw [if_pos hle]
    have hsm : ∀ x ∈ (if hrH A mine yours seq ack = true then body else []), x < 256 := fun x hx => by
      split at hx
      · exact hby.by_.small x hx
      · cases hx
    rw [e1, e2, e4, e5]
    refine ⟨a, m, cc, r', he, by rw [hp.len]; split <;> rfl, By4.new (owns_bytes hp.row hsm) (fun p hpp => ?_), h.turn0 hp.lw hp.tw (fun x hx => ext_old _ _ hx) (fun g hg => ?_), (h.lq0.turn hp.lw hp.tw (fun x hx => ext_old _ _ hx) (fun g hg => ?_)).2⟩
    · rcases hp.row.2 with ⟨q, _⟩ | ⟨g, cap, cur, q, q2, _⟩
      · cases q; cases hpp
      · cases q; cases hpp; exact q2
    · rcases hp.rb with q | q
      · exact Or.inl (q.symm.trans hg)
      · rw [q] at hg; cases hg
    · rcases hp.rb with q | q
      · exact Or.inl (q.symm.trans hg)
      · rw [q] at hg; cases hg
  · refine (hear_no wr b0 A ra h.lq0.lw.lb 5 0 mine yours seq ack n c sp body hn (fun q => hle q.2.2.2)).mono ?_
    rintro e w' ⟨he, hbw⟩
    have e1 : hdN A mine yours seq ack = false := by unfold hdN; rw [decide_eq_false hle]; rfl
    have e2 : riN A mine yours = false := by unfold riN; rw [decide_eq_false hle]; rfl
    have e3 : decide (A.known < mine) = false := decide_eq_false (by omega)
    have e4 : upB A mine yours seq ack body = [] := by unfold upB; rw [e1]; rfl
    have e5 : hearN A mine yours seq ack = A := by unfold hearN; rw [if_neg hle]
    rw [e1, e2, e3, e4, e5]
    exact ⟨none, 0, 0, ra, he, rfl, ⟨⟨fun x hx => (by cases hx), Or.inl rfl⟩, Or.inl rfl⟩, h.below hbw (4, 0), kp_below hbw _ _ _⟩
/-- A list more in a session's row. -/
theorem Pm.up0 {wg : World} {v' : Value} {p : List Nat} {a : Option Addr} {c n g cg : Nat} {vs : List Value} {x : Sm} (h : Pm w wr K pb W M l0 l1 b0 b1 sv s0 s1 A B ra rb S T es) (hx : S[n]? = some x) (hrk : Rk wr K (6, 2 * n + 1) 29 1 x.uv x.up.length vs) (hel : ∀ (i : Nat) (p : List Nat), x.up[i]? = some p → ∃ (sp : Option Addr) (c : Nat), vs[i]? = some (Value.slice sp p.length c) ∧ By4 wr K sp p) (hg : wr.grownBy wg x.uv.ownBlock) (ho : wg.ownsRow 0 29 1 v' (x.up.length + 1) (vs ++ [.slice a p.length c])) (hat : v'.ownBlock = x.uv.ownBlock ∨ ∃ g, v'.ownBlock = some g ∧ wr.heap.size ≤ g) (hby : By4 wr K a p) (hpl : p.length ≤ 2048) (hv : s0 = .slice (some ⟨g, 0, none⟩) S.length cg) :
    Pm w (wg.setCell ⟨g, n * 4 + 3, none⟩ v') (ext K wr.heap.size (6, 2 * n + 1)) pb W M l0 l1 b0 b1 sv s0 s1 A B ra rb (S.set n { x with uv := v', up := x.up ++ [p] }) T es ∧ Kp (fun q => q = (6, 2 * n + 1) ∨ q = (5, 0)) K (ext K wr.heap.size (6, 2 * n + 1)) wr (wg.setCell ⟨g, n * 4 + 3, none⟩ v') := by
  obtain ⟨hs, m⟩ := h.ss0.put_up hx (by simp) (by simp) (by simp) hrk hel hg ho hat hby hpl hv
  exact ⟨⟨m.below h.bel (fun x hx => by rw [h.kz x hx]; simp), fun x hx => (m.same x (Nat.lt_of_lt_of_le hx h.bel.size)).trans (h.kz x hx), h.pk.kp m (by simp), h.lq0.kp m (by simp), h.lq1.kp m (by simp), h.sent.kept m (by simp), fun e he => (h.bod e he).kp m (by simp), hs, h.ss1.kp m (by simp) (by simp) (fun j => by simp), h.tab⟩, m⟩
/-- A list more in a session's row. -/
theorem Pm.inn0 {wg : World} {v' : Value} {p : List Nat} {a : Option Addr} {c n g cg : Nat} {vs : List Value} {x : Sm} (h : Pm w wr K pb W M l0 l1 b0 b1 sv s0 s1 A B ra rb S T es) (hx : S[n]? = some x) (hrk : Rk wr K (6, 2 * n) 29 1 x.iv x.inn.length vs) (hel : ∀ (i : Nat) (p : List Nat), x.inn[i]? = some p → ∃ (sp : Option Addr) (c : Nat), vs[i]? = some (Value.slice sp p.length c) ∧ By4 wr K sp p) (hg : wr.grownBy wg x.iv.ownBlock) (ho : wg.ownsRow 0 29 1 v' (x.inn.length + 1) (vs ++ [.slice a p.length c])) (hat : v'.ownBlock = x.iv.ownBlock ∨ ∃ g, v'.ownBlock = some g ∧ wr.heap.size ≤ g) (hby : By4 wr K a p) (hpl : p.length ≤ 2048) (hv : s0 = .slice (some ⟨g, 0, none⟩) S.length cg) :
    Pm w (wg.setCell ⟨g, n * 4 + 2, none⟩ v') (ext K wr.heap.size (6, 2 * n)) pb W M l0 l1 b0 b1 sv s0 s1 A B ra rb (S.set n { x with iv := v', inn := x.inn ++ [p] }) T es ∧ Kp (fun q => q = (6, 2 * n) ∨ q = (5, 0)) K (ext K wr.heap.size (6, 2 * n)) wr (wg.setCell ⟨g, n * 4 + 2, none⟩ v') := by
  obtain ⟨hs, m⟩ := h.ss0.put_inn hx (by simp) (by simp) (by simp) hrk hel hg ho hat hby hpl hv
  exact ⟨⟨m.below h.bel (fun x hx => by rw [h.kz x hx]; simp), fun x hx => (m.same x (Nat.lt_of_lt_of_le hx h.bel.size)).trans (h.kz x hx), h.pk.kp m (by simp), h.lq0.kp m (by simp), h.lq1.kp m (by simp), h.sent.kept m (by simp), fun e he => (h.bod e he).kp m (by simp), hs, h.ss1.kp m (by simp) (by simp) (fun j => by simp), h.tab⟩, m⟩
theorem nowP1 (h : Pm w wr K pb W M l0 l1 b0 b1 sv s0 s1 A B ra rb S T es) (hlen : T.length ≤ 20000) :
    Calls Tryd.prog 12 #[.pointer (some ⟨pb, 0, none⟩), .int .i64 1] wr fun e w' => (B.known = 0 ∧ e = .returned (.int .i64 (-1)) ∧ w' = wr) ∨ (B.known ≠ 0 ∧ ∃ (n : Nat) (x : Sm) (s' : Value) (K' : Knd) (S' : List Sm), e = .returned (.int .i64 (n : Int)) ∧ S'[n]? = some x ∧ x.mine = l1 ∧ x.yours = B.known ∧ NowS T S' l1 B.known ∧ Pm w w' K' pb W M l0 l1 b0 b1 sv s0 s' A B ra rb S S' es ∧ Kp (fun q => q = (2, 0) ∨ q = (5, 1)) K K' wr w') := by
  refine (now1 wr K pb W M l0 l1 b0 b1 sv s0 s1 B rb T h.pk h.lq1.lw.lb h.ss1 hlen).mono ?_
  rintro e w' (⟨hk, he, hw⟩ | ⟨hk, n, x, q, hx, q1, q2, _, he, hw⟩ | ⟨hk, hno, he, v, K', hp, hs, m⟩)
  · exact Or.inl ⟨hk, he, hw⟩
  · refine Or.inr ⟨hk, n, x, s1, K, T, he, hx, q1, q2, Or.inl rfl, ?_, ?_⟩
    · rw [hw]; exact h.drewN q
    · rw [hw]; exact (drewN_kq wr K q).mono (fun _ e => e.elim)
  · exact Or.inr ⟨hk, T.length, ⟨l1, B.known, .slice none 0 0, .slice none 0 0, [], []⟩, v, K', _, he, by simp, rfl, rfl, Or.inr ⟨rfl, fun x hx => by
      obtain ⟨n, hn⟩ := List.mem_iff_getElem?.1 hx
      exact hno n x (List.getElem?_eq_some_iff.1 hn).1 hn⟩, ⟨m.below h.bel (fun x hx => by rw [h.kz x hx]; simp), fun x hx => (m.same x (Nat.lt_of_lt_of_le hx h.bel.size)).trans (h.kz x hx), hp, h.lq0.kp m (by simp), h.lq1.kp m (by simp), h.sent.kept m (by simp), fun e he => (h.bod e he).kp m (by simp), h.ss0.kp m (by simp) (by simp) (fun j => by simp), hs, h.tab⟩, m⟩
/-- Hear. -/
theorem hear_pm1 (h : Pm w wr K pb W M l0 l1 b0 b1 sv s0 s1 A B ra rb S T es) (hd : Sok 5 0 B l1 k T) (hk : k ≤ 20000) (mine yours seq ack n c : Nat) (sp : Option Addr) (body : List Nat) (hn : body.length = n) (hby : By4 wr K sp body) (hsp : ∀ a, sp = some a → K a.block = (4, 0)) (hfit : (⟨0, 5, mine, yours, seq, ack, body⟩ : Fr).fit) :
    Calls Tryd.prog 44 #[.pointer (some ⟨b1, 0, none⟩), .agg #[.int .i64 0, .int .i64 5, .int .u64 (mine : Int), .int .u64 (yours : Int), .int .u64 (seq : Int), .int .u64 (ack : Int), .slice sp n c]] wr fun e w' =>
      ∃ (a : Option Addr) (m cc : Nat) (r' : Value), e = .returned (.agg #[.slice a m cc, .bool (hdN B mine yours seq ack), .bool (decide (B.known < mine)), .bool (riN B mine yours)]) ∧ (upB B mine yours seq ack body).length = m ∧ By4 w' (ext K wr.heap.size (4, 0)) a (upB B mine yours seq ack body) ∧ Pm w w' (ext K wr.heap.size (4, 0)) pb W M l0 l1 b0 b1 sv s0 s1 A (hearN B mine yours seq ack) ra r' S T es ∧ Kp (fun q => q = (1, 1)) K (ext K wr.heap.size (4, 0)) wr w' := by
  have h1 := hd.rn.row
  have h2 := hd.rn.hand
  by_cases hle : B.known ≤ mine
  · have hr : rcv B B.other B.me mine yours seq ack body := ⟨by rw [hd.other, hd.me]; exact hfit, rfl, rfl, hle⟩
    have hc := hear_any wr b1 B rb h.lq1.lw mine yours seq ack n c sp body hn hby.by_ (fun a ha => ⟨fun e => (by have := hsp a ha; rw [e, h.lq1.kb] at this; cases this), fun e => (by have := hsp a ha; rw [h.lq1.kr _ e.symm] at this; cases this)⟩) hr (by omega) (by omega)
    rw [hd.other, hd.me] at hc
    refine hc.mono ?_
    rintro e w' ⟨a, m, cc, r', he, hp⟩
    have e1 : hdN B mine yours seq ack = hrH B mine yours seq ack := by unfold hdN; rw [decide_eq_true hle]; rfl
    have e2 : riN B mine yours = decide (yours = B.life) := by unfold riN; rw [decide_eq_true hle]; rfl
    have e4 : upB B mine yours seq ack body = if hrH B mine yours seq ack = true then body else [] := by unfold upB; rw [e1]
    have e5 : hearN B mine yours seq ack = hrL B mine yours seq ack := by unfold hearN; rw [if_pos hle]
    have hsm : ∀ x ∈ (if hrH B mine yours seq ack = true then body else []), x < 256 := fun x hx => by
      split at hx
      · exact hby.by_.small x hx
      · cases hx
    rw [e1, e2, e4, e5]
    refine ⟨a, m, cc, r', he, by rw [hp.len]; split <;> rfl, By4.new (owns_bytes hp.row hsm) (fun p hpp => ?_), h.turn1 hp.lw hp.tw (fun x hx => ext_old _ _ hx) (fun g hg => ?_), (h.lq1.turn hp.lw hp.tw (fun x hx => ext_old _ _ hx) (fun g hg => ?_)).2⟩
    · rcases hp.row.2 with ⟨q, _⟩ | ⟨g, cap, cur, q, q2, _⟩
      · cases q; cases hpp
      · cases q; cases hpp; exact q2
    · rcases hp.rb with q | q
      · exact Or.inl (q.symm.trans hg)
      · rw [q] at hg; cases hg
    · rcases hp.rb with q | q
      · exact Or.inl (q.symm.trans hg)
      · rw [q] at hg; cases hg
  · refine (hear_no wr b1 B rb h.lq1.lw.lb 0 5 mine yours seq ack n c sp body hn (fun q => hle q.2.2.2)).mono ?_
    rintro e w' ⟨he, hbw⟩
    have e1 : hdN B mine yours seq ack = false := by unfold hdN; rw [decide_eq_false hle]; rfl
    have e2 : riN B mine yours = false := by unfold riN; rw [decide_eq_false hle]; rfl
    have e3 : decide (B.known < mine) = false := decide_eq_false (by omega)
    have e4 : upB B mine yours seq ack body = [] := by unfold upB; rw [e1]; rfl
    have e5 : hearN B mine yours seq ack = B := by unfold hearN; rw [if_neg hle]
    rw [e1, e2, e3, e4, e5]
    exact ⟨none, 0, 0, rb, he, rfl, ⟨⟨fun x hx => (by cases hx), Or.inl rfl⟩, Or.inl rfl⟩, h.below hbw (4, 0), kp_below hbw _ _ _⟩
/-- A list more in a session's row. -/
theorem Pm.up1 {wg : World} {v' : Value} {p : List Nat} {a : Option Addr} {c n g cg : Nat} {vs : List Value} {x : Sm} (h : Pm w wr K pb W M l0 l1 b0 b1 sv s0 s1 A B ra rb S T es) (hx : T[n]? = some x) (hrk : Rk wr K (7, 2 * n + 1) 29 1 x.uv x.up.length vs) (hel : ∀ (i : Nat) (p : List Nat), x.up[i]? = some p → ∃ (sp : Option Addr) (c : Nat), vs[i]? = some (Value.slice sp p.length c) ∧ By4 wr K sp p) (hg : wr.grownBy wg x.uv.ownBlock) (ho : wg.ownsRow 0 29 1 v' (x.up.length + 1) (vs ++ [.slice a p.length c])) (hat : v'.ownBlock = x.uv.ownBlock ∨ ∃ g, v'.ownBlock = some g ∧ wr.heap.size ≤ g) (hby : By4 wr K a p) (hpl : p.length ≤ 2048) (hv : s1 = .slice (some ⟨g, 0, none⟩) T.length cg) :
    Pm w (wg.setCell ⟨g, n * 4 + 3, none⟩ v') (ext K wr.heap.size (7, 2 * n + 1)) pb W M l0 l1 b0 b1 sv s0 s1 A B ra rb S (T.set n { x with uv := v', up := x.up ++ [p] }) es ∧ Kp (fun q => q = (7, 2 * n + 1) ∨ q = (5, 1)) K (ext K wr.heap.size (7, 2 * n + 1)) wr (wg.setCell ⟨g, n * 4 + 3, none⟩ v') := by
  obtain ⟨hs, m⟩ := h.ss1.put_up hx (by simp) (by simp) (by simp) hrk hel hg ho hat hby hpl hv
  exact ⟨⟨m.below h.bel (fun x hx => by rw [h.kz x hx]; simp), fun x hx => (m.same x (Nat.lt_of_lt_of_le hx h.bel.size)).trans (h.kz x hx), h.pk.kp m (by simp), h.lq0.kp m (by simp), h.lq1.kp m (by simp), h.sent.kept m (by simp), fun e he => (h.bod e he).kp m (by simp), h.ss0.kp m (by simp) (by simp) (fun j => by simp), hs, h.tab⟩, m⟩
/-- A list more in a session's row. -/
theorem Pm.inn1 {wg : World} {v' : Value} {p : List Nat} {a : Option Addr} {c n g cg : Nat} {vs : List Value} {x : Sm} (h : Pm w wr K pb W M l0 l1 b0 b1 sv s0 s1 A B ra rb S T es) (hx : T[n]? = some x) (hrk : Rk wr K (7, 2 * n) 29 1 x.iv x.inn.length vs) (hel : ∀ (i : Nat) (p : List Nat), x.inn[i]? = some p → ∃ (sp : Option Addr) (c : Nat), vs[i]? = some (Value.slice sp p.length c) ∧ By4 wr K sp p) (hg : wr.grownBy wg x.iv.ownBlock) (ho : wg.ownsRow 0 29 1 v' (x.inn.length + 1) (vs ++ [.slice a p.length c])) (hat : v'.ownBlock = x.iv.ownBlock ∨ ∃ g, v'.ownBlock = some g ∧ wr.heap.size ≤ g) (hby : By4 wr K a p) (hpl : p.length ≤ 2048) (hv : s1 = .slice (some ⟨g, 0, none⟩) T.length cg) :
    Pm w (wg.setCell ⟨g, n * 4 + 2, none⟩ v') (ext K wr.heap.size (7, 2 * n)) pb W M l0 l1 b0 b1 sv s0 s1 A B ra rb S (T.set n { x with iv := v', inn := x.inn ++ [p] }) es ∧ Kp (fun q => q = (7, 2 * n) ∨ q = (5, 1)) K (ext K wr.heap.size (7, 2 * n)) wr (wg.setCell ⟨g, n * 4 + 2, none⟩ v') := by
  obtain ⟨hs, m⟩ := h.ss1.put_inn hx (by simp) (by simp) (by simp) hrk hel hg ho hat hby hpl hv
  exact ⟨⟨m.below h.bel (fun x hx => by rw [h.kz x hx]; simp), fun x hx => (m.same x (Nat.lt_of_lt_of_le hx h.bel.size)).trans (h.kz x hx), h.pk.kp m (by simp), h.lq0.kp m (by simp), h.lq1.kp m (by simp), h.sent.kept m (by simp), fun e he => (h.bod e he).kp m (by simp), h.ss0.kp m (by simp) (by simp) (fun j => by simp), hs, h.tab⟩, m⟩
end
end Go.Proofs.YtbcpoejpbhpcbaaDoor
namespace Go.Proofs.YtbcpoejpbhpcbaaDoor
open Go.RowKit

theorem Grow.trans {S T U : List Sm} (h : Grow S T) (k : Grow T U) : Grow S U := fun x hx => by
  obtain ⟨y, hy, a1, a2, a3⟩ := h x hx
  obtain ⟨z, hz, c1, c2, c3⟩ := k y hy
  exact ⟨z, hz, c1.trans a1, c2.trans a2, fun n b q => c3 n b (a3 n b q)⟩
theorem hear1_same (L : Lk) (mine : Nat) (h : L.known ≤ mine) : (hear1 L mine).known = mine ∧ (hear1 L mine).window = L.window ∧ (hear1 L mine).life = L.life := by
  unfold hear1
  split
  · exact ⟨rfl, rfl, rfl⟩
  · exact ⟨by omega, rfl, rfl⟩
theorem ackL_same (L : Lk) (a : Nat) : (ackL L a).known = L.known ∧ (ackL L a).window = L.window ∧ (ackL L a).life = L.life ∧ (ackL L a).handed = L.handed := by
  unfold ackL
  split <;> exact ⟨rfl, rfl, rfl, rfl⟩
theorem bodyL_same (L : Lk) (seq : Nat) : (bodyL L seq).known = L.known ∧ (bodyL L seq).window = L.window ∧ (bodyL L seq).life = L.life := by
  unfold bodyL
  split
  · exact ⟨rfl, rfl, rfl⟩
  · split <;> exact ⟨rfl, rfl, rfl⟩
theorem hearN_same (L : Lk) (mine yours seq ack : Nat) : (hearN L mine yours seq ack).window = L.window := by
  unfold hearN
  split
  · rename_i hle
    unfold hrL
    have h1 := hear1_same L mine hle
    split
    · rw [(bodyL_same _ _).2.1, (ackL_same _ _).2.1]; exact h1.2.1
    · exact h1.2.1
  · rfl
def hA (L : Lk) (mine ack : Nat) : Lk := ackL { hear1 L mine with paced := false } ack
theorem hA_known (L : Lk) (mine ack : Nat) (h : L.known ≤ mine) : (hA L mine ack).known = mine := by
  unfold hA
  rw [(ackL_same _ _).1]
  exact (hear1_same L mine h).1
section
variable {me other : Int} {L : Lk} {life k mine yours seq ack : Nat} {S : List Sm}
theorem hd_true (hf : hdN L mine yours seq ack = true) : L.known ≤ mine ∧ yours = L.life ∧ handN (hA L mine ack) seq = true ∧ hearN L mine yours seq ack = bodyL (hA L mine ack) seq := by
  unfold hdN hrH at hf
  simp only [Bool.and_eq_true, decide_eq_true_eq] at hf
  refine ⟨hf.1, hf.2.1, hf.2.2, ?_⟩
  unfold hearN hrL
  rw [if_pos hf.1, if_pos hf.2.1]
  rfl
theorem Sok.heardS (h : Sok me other L life k S) (hf : hdN L mine yours seq ack = false) (hm : mine ≤ 1099511627776) : Sok me other (hearN L mine yours seq ack) life (k + 1) S := by
  unfold hearN
  by_cases hle : L.known ≤ mine
  · rw [if_pos hle]
    unfold hrL
    by_cases hy : yours = L.life
    · rw [if_pos hy]
      refine ((h.hear1 mine hm).ackd false ack).passed seq ?_
      unfold hdN hrH at hf
      rw [decide_eq_true hle, decide_eq_true hy] at hf
      simpa using hf
    · rw [if_neg hy]
      exact ((h.hear1 mine hm).pacedS true).up
  · rw [if_neg hle]
    exact h.up
theorem Sok.handedS {S' : List Sm} {n : Nat} {x : Sm} (h : Sok me other L life k S) (hf : hdN L mine yours seq ack = true) (hm : mine ≤ 1099511627776) (hm1 : 1 ≤ mine) (hs : NowS S S' life (hearN L mine yours seq ack).known) (hx : S'[n]? = some x) (q1 : x.mine = life) (q2 : x.yours = (hearN L mine yours seq ack).known) (uv : Value) (b : List Nat) :
    Sok me other (hearN L mine yours seq ack) life (k + 1) (S'.set n { x with uv := uv, up := x.up ++ [b] }) ∧ x.up.length + 1 = seq ∧ x.yours = mine ∧ yours = L.life ∧ seq ≠ 0 := by
  obtain ⟨hle, hy, hh, he⟩ := hd_true hf
  rw [he] at hs q2 ⊢
  rw [(bodyL_same _ _).1] at hs q2
  have hkn : (hA L mine ack).known = mine := hA_known L mine ack hle
  have h00 : Sok me other (hA L mine ack) life k S := (h.hear1 mine hm).ackd false ack
  have h1 : Sok me other (hA L mine ack) life k S' := h00.nowS (by rw [hkn]; omega) hs
  have hseq : seq = (hA L mine ack).handed + 1 := by unfold handN at hh; simpa using hh
  have hup := (h1.cur (by rw [hkn]; omega) x (List.mem_of_getElem? hx) q1 q2).2.1
  have h0 : seq ≠ 0 := by omega
  exact ⟨h1.handed (by rw [hkn]; omega) hx q1 q2 seq h0 hh uv b, by omega, q2.trans hkn, hy, h0⟩
end
section
variable {W M l0 l1 mine yours seq ack : Nat} {A B : Lk} {S T : List Sm} {es : List Fe} {k : Nat}
theorem Pd.heard0 (h : Pd W M l0 l1 A B S T es k) (hf : hdN A mine yours seq ack = false) (hm : mine ≤ 1099511627776) : Pd W M l0 l1 (hearN A mine yours seq ack) B S T es (k + 1) :=
  ⟨h.a.heardS hf hm, h.b.up, (hearN_same _ _ _ _ _).trans h.wa, h.wb, h.fok, by have := h.el; omega, by have := h.sl; omega, by have := h.tl; omega, h.w1, h.m1⟩
theorem Pd.handed0 {S' : List Sm} {n : Nat} {x : Sm} (h : Pd W M l0 l1 A B S T es k) (hf : hdN A mine yours seq ack = true) (hm : mine ≤ 1099511627776) (hm1 : 1 ≤ mine) (hs : NowS S S' l0 (hearN A mine yours seq ack).known) (hx : S'[n]? = some x) (q1 : x.mine = l0) (q2 : x.yours = (hearN A mine yours seq ack).known) (uv : Value) (b : List Nat) :
    Pd W M l0 l1 (hearN A mine yours seq ack) B (S'.set n { x with uv := uv, up := x.up ++ [b] }) T es (k + 1) ∧ x.up.length + 1 = seq ∧ x.yours = mine ∧ yours = l0 ∧ seq ≠ 0 := by
  obtain ⟨hk, r1, r2, r3, r4⟩ := h.a.handedS hf hm hm1 hs hx q1 q2 uv b
  obtain ⟨hg1, hl⟩ := hs.grow
  have hg : Grow S (S'.set n { x with uv := uv, up := x.up ++ [b] }) := hg1.trans (grow_set hx rfl rfl (fun _ _ q => q))
  exact ⟨⟨hk, h.b.up, (hearN_same _ _ _ _ _).trans h.wa, h.wb, fun e he => (h.fok e he).imp (fun q => q.grow (Nat.le_refl _) hg) id, by have := h.el; omega, by have := h.sl; rw [List.length_set]; omega, by have := h.tl; omega, h.w1, h.m1⟩, r1, r2, r3.trans h.a.lf, r4⟩
theorem Pd.heard1 (h : Pd W M l0 l1 A B S T es k) (hf : hdN B mine yours seq ack = false) (hm : mine ≤ 1099511627776) : Pd W M l0 l1 A (hearN B mine yours seq ack) S T es (k + 1) :=
  ⟨h.a.up, h.b.heardS hf hm, h.wa, (hearN_same _ _ _ _ _).trans h.wb, h.fok, by have := h.el; omega, by have := h.sl; omega, by have := h.tl; omega, h.w1, h.m1⟩
theorem Pd.handed1 {S' : List Sm} {n : Nat} {x : Sm} (h : Pd W M l0 l1 A B S T es k) (hf : hdN B mine yours seq ack = true) (hm : mine ≤ 1099511627776) (hm1 : 1 ≤ mine) (hs : NowS T S' l1 (hearN B mine yours seq ack).known) (hx : S'[n]? = some x) (q1 : x.mine = l1) (q2 : x.yours = (hearN B mine yours seq ack).known) (uv : Value) (b : List Nat) :
    Pd W M l0 l1 A (hearN B mine yours seq ack) S (S'.set n { x with uv := uv, up := x.up ++ [b] }) es (k + 1) ∧ x.up.length + 1 = seq ∧ x.yours = mine ∧ yours = l1 ∧ seq ≠ 0 := by
  obtain ⟨hk, r1, r2, r3, r4⟩ := h.b.handedS hf hm hm1 hs hx q1 q2 uv b
  obtain ⟨hg1, hl⟩ := hs.grow
  have hg : Grow T (S'.set n { x with uv := uv, up := x.up ++ [b] }) := hg1.trans (grow_set hx rfl rfl (fun _ _ q => q))
  exact ⟨⟨h.a.up, hk, h.wa, (hearN_same _ _ _ _ _).trans h.wb, fun e he => (h.fok e he).imp id (fun q => q.grow (Nat.le_refl _) hg), by have := h.el; omega, by have := h.sl; omega, by have := h.tl; rw [List.length_set]; omega, h.w1, h.m1⟩, r1, r2, r3.trans h.b.lf, r4⟩
end
/-- What was handed up is the next of what the other was handed in. -/
theorem fok_next {me other : Int} {L : Lk} {life k mine yours seq ack m : Nat} {T : List Sm} {bo : List Nat} {y : Sm} (hd : Sok me other L life k T) (hf : Fok me other life T ⟨me, other, mine, yours, seq, ack, bo⟩) (h0 : seq ≠ 0) (hy : T[m]? = some y) (e1 : y.mine = mine) (e2 : y.yours = yours) : y.inn[seq - 1]? = some bo := by
  obtain ⟨z, hz, r1, r2, r3⟩ := hf.seq h0
  obtain ⟨j, hj⟩ := List.mem_iff_getElem?.1 hz
  have := hd.uniq m j y z hy hj (e1.trans r1.symm) (e2.trans r2.symm)
  subst this
  rw [hy] at hj
  cases hj
  exact r3
theorem fok_some {me other : Int} {life mine yours seq ack : Nat} {T : List Sm} {bo : List Nat} (hf : Fok me other life T ⟨me, other, mine, yours, seq, ack, bo⟩) (h0 : seq ≠ 0) (hno : NoSes T T.length mine yours) : False := by
  obtain ⟨z, hz, r1, r2, _⟩ := hf.seq h0
  obtain ⟨j, hj⟩ := List.mem_iff_getElem?.1 hz
  exact hno j z (List.getElem?_eq_some_iff.1 hj).1 hj ⟨r1, r2⟩
end Go.Proofs.YtbcpoejpbhpcbaaDoor
namespace Go.Proofs.YtbcpoejpbhpcbaaDoor
open Go.RowKit

theorem and1 (z : Int) : bits .and .i64 z 1 = 0 ∨ bits .and .i64 z 1 = 1 := by
  have h : bits .and .i64 z 1 = (((BitVec.ofInt 64 z).toNat % 2 : Nat) : Int) := by
    show IntKind.i64.wrap ((BitVec.ofInt 64 z &&& BitVec.ofInt 64 1).toNat : Int) = _
    have h1 : (BitVec.ofInt 64 (1 : Int)).toNat = 2 ^ 1 - 1 := by decide
    rw [BitVec.toNat_and, h1, Nat.and_two_pow_sub_one_eq_mod, IntKind.wrap_i64]
    omega
  rw [h]
  omega
set_option maxRecDepth 100000 in
theorem num_any (w : World) (z : Int) : Calls Tryd.prog 22 #[.int .i64 z] w fun e w' => e = .returned (.int .i64 z) ∧ w' = w := by
  go_enter Tryd.func22, Tryd.ntmps22
  go_wp2
  go_ret
  exact ⟨rfl, rfl⟩
theorem sendN_win (L : Lk) (s : ByteArray) : (sendN L s).window = L.window := by unfold sendN sendL; split <;> rfl
section
variable {W M l0 l1 : Nat} {A B : Lk} {S T : List Sm} {es : List Fe} {k : Nat}
theorem Pd.up (h : Pd W M l0 l1 A B S T es k) : Pd W M l0 l1 A B S T es (k + 1) := ⟨h.a.up, h.b.up, h.wa, h.wb, h.fok, by have := h.el; omega, by have := h.sl; omega, by have := h.tl; omega, h.w1, h.m1⟩
theorem Pd.nowed0 {S' : List Sm} (h : Pd W M l0 l1 A B S T es k) (hk : A.known ≠ 0) (hs : NowS S S' l0 A.known) : Pd W M l0 l1 A B S' T es (k + 1) := by
  obtain ⟨hg, hl⟩ := hs.grow
  exact ⟨(h.a.nowS hk hs).up, h.b.up, h.wa, h.wb, fun e he => (h.fok e he).imp (fun q => q.grow (Nat.le_refl _) hg) id, by have := h.el; omega, by have := h.sl; omega, by have := h.tl; omega, h.w1, h.m1⟩
theorem Pd.sentz0 (h : Pd W M l0 l1 A B S T es k) (hk : A.known = 0) (s : ByteArray) (hs : s.size ≤ 2048) : Pd W M l0 l1 (sendN A s) B S T es (k + 1) :=
  ⟨h.a.send0 hk s hs, h.b.up, (sendN_win _ _).trans h.wa, h.wb, h.fok, by have := h.el; omega, by have := h.sl; omega, by have := h.tl; omega, h.w1, h.m1⟩
theorem Pd.sent0 {S' : List Sm} {n : Nat} {x : Sm} (h : Pd W M l0 l1 A B S T es k) (hk : A.known ≠ 0) (hs : NowS S S' l0 A.known) (hx : S'[n]? = some x) (q1 : x.mine = l0) (q2 : x.yours = A.known) (s : ByteArray) (hs2 : s.size ≤ 2048) (iv : Value) : Pd W M l0 l1 (sendN A s) B (S'.set n { x with iv := iv, inn := x.inn ++ [nums s] }) T es (k + 1) := by
  obtain ⟨hg1, hl⟩ := hs.grow
  have hg : Grow S (S'.set n { x with iv := iv, inn := x.inn ++ [nums s] }) := hg1.trans (grow_set hx rfl rfl (fun m b q => by
    show (x.inn ++ [nums s])[m]? = some b
    rw [List.getElem?_append_left (List.getElem?_eq_some_iff.1 q).1]
    exact q))
  exact ⟨(h.a.nowS hk hs).send hk hx q1 q2 s hs2 iv, h.b.up, (sendN_win _ _).trans h.wa, h.wb, fun e he => (h.fok e he).imp (fun q => q.grow (Nat.le_refl _) hg) id, by have := h.el; omega, by have := h.sl; rw [List.length_set]; omega, by have := h.tl; omega, h.w1, h.m1⟩
theorem Pd.nowed1 {S' : List Sm} (h : Pd W M l0 l1 A B S T es k) (hk : B.known ≠ 0) (hs : NowS T S' l1 B.known) : Pd W M l0 l1 A B S S' es (k + 1) := by
  obtain ⟨hg, hl⟩ := hs.grow
  exact ⟨h.a.up, (h.b.nowS hk hs).up, h.wa, h.wb, fun e he => (h.fok e he).imp id (fun q => q.grow (Nat.le_refl _) hg), by have := h.el; omega, by have := h.sl; omega, by have := h.tl; omega, h.w1, h.m1⟩
theorem Pd.sentz1 (h : Pd W M l0 l1 A B S T es k) (hk : B.known = 0) (s : ByteArray) (hs : s.size ≤ 2048) : Pd W M l0 l1 A (sendN B s) S T es (k + 1) :=
  ⟨h.a.up, h.b.send0 hk s hs, h.wa, (sendN_win _ _).trans h.wb, h.fok, by have := h.el; omega, by have := h.sl; omega, by have := h.tl; omega, h.w1, h.m1⟩
theorem Pd.sent1 {S' : List Sm} {n : Nat} {x : Sm} (h : Pd W M l0 l1 A B S T es k) (hk : B.known ≠ 0) (hs : NowS T S' l1 B.known) (hx : S'[n]? = some x) (q1 : x.mine = l1) (q2 : x.yours = B.known) (s : ByteArray) (hs2 : s.size ≤ 2048) (iv : Value) : Pd W M l0 l1 A (sendN B s) S (S'.set n { x with iv := iv, inn := x.inn ++ [nums s] }) es (k + 1) := by
  obtain ⟨hg1, hl⟩ := hs.grow
  have hg : Grow T (S'.set n { x with iv := iv, inn := x.inn ++ [nums s] }) := hg1.trans (grow_set hx rfl rfl (fun m b q => by
    show (x.inn ++ [nums s])[m]? = some b
    rw [List.getElem?_append_left (List.getElem?_eq_some_iff.1 q).1]
    exact q))
  exact ⟨h.a.up, (h.b.nowS hk hs).send hk hx q1 q2 s hs2 iv, h.wa, (sendN_win _ _).trans h.wb, fun e he => (h.fok e he).imp id (fun q => q.grow (Nat.le_refl _) hg), by have := h.el; omega, by have := h.sl; omega, by have := h.tl; rw [List.length_set]; omega, h.w1, h.m1⟩
end
/-- One of the frames that were sent. -/
theorem sent_at {w : World} {K : Knd} {k : Nat × Nat} {v : Value} {es : List Fe} {n : Nat} {e : Fe} (h : Rk w K k 54 7 v es.length (sentC es)) (he : es[n]? = some e) :
    ∃ g c, v = .slice (some ⟨g, 0, none⟩) es.length c ∧ ∀ (j : Nat) (u : Value), (feC e)[j]? = some u → w.cell? ⟨g, n * 7 + j, none⟩ = some u := by
  have hn := (List.getElem?_eq_some_iff.1 he).1
  rcases h.own.2 with ⟨_, h1⟩ | ⟨g, c, cur, h1, h2, h3, h4, h5, h6, h7⟩
  · omega
  · refine ⟨g, c, h1, fun j u hu => ?_⟩
    have hj : j < 7 := by
      have := (List.getElem?_eq_some_iff.1 hu).1
      simpa [feC] using this
    have e1 : (sentC es)[n * 7 + j]? = some u := by
      have hs : es = es.take n ++ (e :: es.drop (n + 1)) := by
        have h8 := List.getElem?_eq_some_iff.1 he
        obtain ⟨h9, h10⟩ := h8
        rw [← h10, List.getElem_cons_drop, List.take_append_drop]
      have hl : (sentC (es.take n)).length = n * 7 := by rw [sentC_len, List.length_take, Nat.min_eq_left (by omega)]
      rw [hs]
      unfold sentC at hl ⊢
      rw [List.flatMap_append, List.getElem?_append_right (by omega), hl, List.flatMap_cons, show n * 7 + j - n * 7 = j by omega, List.getElem?_append_left (List.getElem?_eq_some_iff.1 hu).1]
      exact hu
    rw [← h7, List.getElem?_take, if_pos (by omega)] at e1
    simp only [World.cell?, h3]
    simpa using e1
end Go.Proofs.YtbcpoejpbhpcbaaDoor
namespace Go.Proofs.YtbcpoejpbhpcbaaDoor
open Go.RowKit

theorem sblk5 {w : World} {b : Nat} {x0 x1 x2 x3 x4 : Value} {t : TypeId} (h : w.heap[b]? = some (.cells #[x0, x1, x2, x3, x4] t (0, 0))) :
    w.cell? ⟨b, 0, none⟩ = some x0 ∧ w.cell? ⟨b, 1, none⟩ = some x1 ∧ w.cell? ⟨b, 2, none⟩ = some x2 ∧ w.cell? ⟨b, 3, none⟩ = some x3 ∧ w.cell? ⟨b, 4, none⟩ = some x4 ∧ (∀ o, w.frozen? ⟨b, o, none⟩ = false) :=
  ⟨by simp [World.cell?, h], by simp [World.cell?, h], by simp [World.cell?, h], by simp [World.cell?, h], by simp [World.cell?, h], fun o => by simp [World.frozen?, h]⟩
/-- The pair, behind k steps. -/
def Ps (w wr : World) (pb W M k : Nat) : Prop := ∃ K l0 l1 b0 b1 sv s0 s1 A B ra rb S T es, Pm w wr K pb W M l0 l1 b0 b1 sv s0 s1 A B ra rb S T es ∧ Pd W M l0 l1 A B S T es k
set_option maxRecDepth 100000 in
set_option maxHeartbeats 4000000 in
set_option linter.unusedVariables false in
theorem step_tick0 (w wr : World) (K : Knd) (pb W M l0 l1 b0 b1 : Nat) (sv s0 s1 : Value) (A B : Lk) (ra rb : Value) (S T : List Sm) (es : List Fe) (k : Nat) (h : Pm w wr K pb W M l0 l1 b0 b1 sv s0 s1 A B ra rb S T es) (hd : Pd W M l0 l1 A B S T es k) (hk : k ≤ 19999) (on pick more : Int) (bp : Option Addr) (nb bc : Nat) (hon : bits .and .i64 on 1 = 0) :
    Calls Tryd.prog 7 #[.pointer (some ⟨pb, 0, none⟩), .agg #[.int .i64 2, .int .i64 on, .slice bp nb bc, .int .i64 pick, .int .i64 more]] wr fun e w' => e = .returned (.bool true) ∧ Ps w w' pb W M (k + 1) := by
  obtain ⟨w1, hw1⟩ : ∃ w1, wr.alloc (.cells #[.int .i64 2, .int .i64 on, .slice bp nb bc, .int .i64 pick, .int .i64 more] 31) = w1 := ⟨_, rfl⟩
  have hb1 : Below wr.heap.size wr w1 := by rw [← hw1]; exact (Below.refl _ _).alloc (Nat.le_refl _) _
  have hk1 : w1.heap[wr.heap.size]? = some (.cells #[.int .i64 2, .int .i64 on, .slice bp nb bc, .int .i64 pick, .int .i64 more] 31 (0, 0)) := by rw [← hw1]; exact heap_alloc_new _ _
  have HP1 := hide (h.below hb1 (9, 9))
  have HKx : Hid (ext K wr.heap.size (9, 9) wr.heap.size = (9, 9)) := ext_new _ _ (Nat.le_refl _)
  generalize ext K wr.heap.size (9, 9) = K1 at *
  obtain ⟨x0, x1, x2, x3, x4, xf⟩ := sblk5 hk1
  have hob := C.lt_of_block hk1
  have HX1 := hide hk1
  have HW1 := hide hw1
  have HB1 := hide hb1
  have HD := hide hd
  obtain ⟨p0, p1, p2, p3, p4, p5, p6, p7, p8, pf, hpb⟩ := HP1.out.pk.cells
  clear hk1 hw1 hb1 h hd
  have HT := hide (tickP0 w w1 K1 pb W M l0 l1 b0 b1 sv s0 s1 A B ra rb S T es k HP1.out HD.out (by omega))
  go_enter Tryd.func7, Tryd.ntmps7
  go_upto_region 1 with (fail)
  rw [HW1.out]
  go_wp2_with fail
  refine HT.out.mono ?_
  rintro e w2 ⟨rfl, sv', K', fs, hfs, hpm⟩
  have HPm := hide hpm
  have HPd := hide (HD.out.tick0 (by omega) hfs)
  clear hpm hfs HT
  go_wp2
  go_ret
  exact ⟨rfl, _, _, _, _, _, _, _, _, _, _, _, _, _, _, _, HPm.out, HPd.out⟩
set_option maxRecDepth 100000 in
set_option maxHeartbeats 4000000 in
set_option linter.unusedVariables false in
theorem step_tick1 (w wr : World) (K : Knd) (pb W M l0 l1 b0 b1 : Nat) (sv s0 s1 : Value) (A B : Lk) (ra rb : Value) (S T : List Sm) (es : List Fe) (k : Nat) (h : Pm w wr K pb W M l0 l1 b0 b1 sv s0 s1 A B ra rb S T es) (hd : Pd W M l0 l1 A B S T es k) (hk : k ≤ 19999) (on pick more : Int) (bp : Option Addr) (nb bc : Nat) (hon : bits .and .i64 on 1 = 1) :
    Calls Tryd.prog 7 #[.pointer (some ⟨pb, 0, none⟩), .agg #[.int .i64 2, .int .i64 on, .slice bp nb bc, .int .i64 pick, .int .i64 more]] wr fun e w' => e = .returned (.bool true) ∧ Ps w w' pb W M (k + 1) := by
  obtain ⟨w1, hw1⟩ : ∃ w1, wr.alloc (.cells #[.int .i64 2, .int .i64 on, .slice bp nb bc, .int .i64 pick, .int .i64 more] 31) = w1 := ⟨_, rfl⟩
  have hb1 : Below wr.heap.size wr w1 := by rw [← hw1]; exact (Below.refl _ _).alloc (Nat.le_refl _) _
  have hk1 : w1.heap[wr.heap.size]? = some (.cells #[.int .i64 2, .int .i64 on, .slice bp nb bc, .int .i64 pick, .int .i64 more] 31 (0, 0)) := by rw [← hw1]; exact heap_alloc_new _ _
  have HP1 := hide (h.below hb1 (9, 9))
  have HKx : Hid (ext K wr.heap.size (9, 9) wr.heap.size = (9, 9)) := ext_new _ _ (Nat.le_refl _)
  generalize ext K wr.heap.size (9, 9) = K1 at *
  obtain ⟨x0, x1, x2, x3, x4, xf⟩ := sblk5 hk1
  have hob := C.lt_of_block hk1
  have HX1 := hide hk1
  have HW1 := hide hw1
  have HB1 := hide hb1
  have HD := hide hd
  obtain ⟨p0, p1, p2, p3, p4, p5, p6, p7, p8, pf, hpb⟩ := HP1.out.pk.cells
  clear hk1 hw1 hb1 h hd
  have HT := hide (tickP1 w w1 K1 pb W M l0 l1 b0 b1 sv s0 s1 A B ra rb S T es k HP1.out HD.out (by omega))
  go_enter Tryd.func7, Tryd.ntmps7
  go_upto_region 1 with (fail)
  rw [HW1.out]
  go_wp2_with fail
  refine HT.out.mono ?_
  rintro e w2 ⟨rfl, sv', K', fs, hfs, hpm⟩
  have HPm := hide hpm
  have HPd := hide (HD.out.tick1 (by omega) hfs)
  clear hpm hfs HT
  go_wp2
  go_ret
  exact ⟨rfl, _, _, _, _, _, _, _, _, _, _, _, _, _, _, _, HPm.out, HPd.out⟩
set_option maxRecDepth 100000 in
set_option maxHeartbeats 4000000 in
set_option linter.unusedVariables false in
theorem step_owe0 (w wr : World) (K : Knd) (pb W M l0 l1 b0 b1 : Nat) (sv s0 s1 : Value) (A B : Lk) (ra rb : Value) (S T : List Sm) (es : List Fe) (k : Nat) (h : Pm w wr K pb W M l0 l1 b0 b1 sv s0 s1 A B ra rb S T es) (hd : Pd W M l0 l1 A B S T es k) (hk : k ≤ 19999) (on pick more : Int) (bp : Option Addr) (nb bc : Nat) (hon : bits .and .i64 on 1 = 0) :
    Calls Tryd.prog 7 #[.pointer (some ⟨pb, 0, none⟩), .agg #[.int .i64 6, .int .i64 on, .slice bp nb bc, .int .i64 pick, .int .i64 more]] wr fun e w' => e = .returned (.bool true) ∧ Ps w w' pb W M (k + 1) := by
  obtain ⟨w1, hw1⟩ : ∃ w1, wr.alloc (.cells #[.int .i64 6, .int .i64 on, .slice bp nb bc, .int .i64 pick, .int .i64 more] 31) = w1 := ⟨_, rfl⟩
  have hb1 : Below wr.heap.size wr w1 := by rw [← hw1]; exact (Below.refl _ _).alloc (Nat.le_refl _) _
  have hk1 : w1.heap[wr.heap.size]? = some (.cells #[.int .i64 6, .int .i64 on, .slice bp nb bc, .int .i64 pick, .int .i64 more] 31 (0, 0)) := by rw [← hw1]; exact heap_alloc_new _ _
  have HP1 := hide (h.below hb1 (9, 9))
  have HKx : Hid (ext K wr.heap.size (9, 9) wr.heap.size = (9, 9)) := ext_new _ _ (Nat.le_refl _)
  generalize ext K wr.heap.size (9, 9) = K1 at *
  obtain ⟨x0, x1, x2, x3, x4, xf⟩ := sblk5 hk1
  have hob := C.lt_of_block hk1
  have HX1 := hide hk1
  have HW1 := hide hw1
  have HB1 := hide hb1
  have HD := hide hd
  obtain ⟨p0, p1, p2, p3, p4, p5, p6, p7, p8, pf, hpb⟩ := HP1.out.pk.cells
  clear hk1 hw1 hb1 h hd
  have HO := hide (owe_any w1 b0 A ra HP1.out.lq0.lw.lb)
  go_enter Tryd.func7, Tryd.ntmps7
  go_upto_region 1 with (fail)
  rw [HW1.out]
  go_wp2_with fail
  refine HO.out.mono ?_
  rintro e w2 ⟨rfl, hl, honl⟩
  have HPm := hide (HP1.out.turn0 (K' := K1) (HP1.out.lq0.lw.but honl.but hl rfl) (Tw.of honl.but) (fun _ _ => rfl) (fun g hg => Or.inl hg))
  have HPd := hide HD.out.owe0
  clear hl honl HO
  go_wp2
  go_ret
  exact ⟨rfl, _, _, _, _, _, _, _, _, _, _, _, _, _, _, _, HPm.out, HPd.out⟩
set_option maxRecDepth 100000 in
set_option maxHeartbeats 4000000 in
set_option linter.unusedVariables false in
theorem step_owe1 (w wr : World) (K : Knd) (pb W M l0 l1 b0 b1 : Nat) (sv s0 s1 : Value) (A B : Lk) (ra rb : Value) (S T : List Sm) (es : List Fe) (k : Nat) (h : Pm w wr K pb W M l0 l1 b0 b1 sv s0 s1 A B ra rb S T es) (hd : Pd W M l0 l1 A B S T es k) (hk : k ≤ 19999) (on pick more : Int) (bp : Option Addr) (nb bc : Nat) (hon : bits .and .i64 on 1 = 1) :
    Calls Tryd.prog 7 #[.pointer (some ⟨pb, 0, none⟩), .agg #[.int .i64 6, .int .i64 on, .slice bp nb bc, .int .i64 pick, .int .i64 more]] wr fun e w' => e = .returned (.bool true) ∧ Ps w w' pb W M (k + 1) := by
  obtain ⟨w1, hw1⟩ : ∃ w1, wr.alloc (.cells #[.int .i64 6, .int .i64 on, .slice bp nb bc, .int .i64 pick, .int .i64 more] 31) = w1 := ⟨_, rfl⟩
  have hb1 : Below wr.heap.size wr w1 := by rw [← hw1]; exact (Below.refl _ _).alloc (Nat.le_refl _) _
  have hk1 : w1.heap[wr.heap.size]? = some (.cells #[.int .i64 6, .int .i64 on, .slice bp nb bc, .int .i64 pick, .int .i64 more] 31 (0, 0)) := by rw [← hw1]; exact heap_alloc_new _ _
  have HP1 := hide (h.below hb1 (9, 9))
  have HKx : Hid (ext K wr.heap.size (9, 9) wr.heap.size = (9, 9)) := ext_new _ _ (Nat.le_refl _)
  generalize ext K wr.heap.size (9, 9) = K1 at *
  obtain ⟨x0, x1, x2, x3, x4, xf⟩ := sblk5 hk1
  have hob := C.lt_of_block hk1
  have HX1 := hide hk1
  have HW1 := hide hw1
  have HB1 := hide hb1
  have HD := hide hd
  obtain ⟨p0, p1, p2, p3, p4, p5, p6, p7, p8, pf, hpb⟩ := HP1.out.pk.cells
  clear hk1 hw1 hb1 h hd
  have HO := hide (owe_any w1 b1 B rb HP1.out.lq1.lw.lb)
  go_enter Tryd.func7, Tryd.ntmps7
  go_upto_region 1 with (fail)
  rw [HW1.out]
  go_wp2_with fail
  refine HO.out.mono ?_
  rintro e w2 ⟨rfl, hl, honl⟩
  have HPm := hide (HP1.out.turn1 (K' := K1) (HP1.out.lq1.lw.but honl.but hl rfl) (Tw.of honl.but) (fun _ _ => rfl) (fun g hg => Or.inl hg))
  have HPd := hide HD.out.owe1
  clear hl honl HO
  go_wp2
  go_ret
  exact ⟨rfl, _, _, _, _, _, _, _, _, _, _, _, _, _, _, _, HPm.out, HPd.out⟩
set_option maxRecDepth 100000 in
set_option maxHeartbeats 4000000 in
set_option linter.unusedVariables false in
theorem step_life0 (w wr : World) (K : Knd) (pb W M l0 l1 b0 b1 : Nat) (sv s0 s1 : Value) (A B : Lk) (ra rb : Value) (S T : List Sm) (es : List Fe) (k : Nat) (h : Pm w wr K pb W M l0 l1 b0 b1 sv s0 s1 A B ra rb S T es) (hd : Pd W M l0 l1 A B S T es k) (hk : k ≤ 19999) (on pick more : Int) (bp : Option Addr) (nb bc : Nat) (hon : bits .and .i64 on 1 = 0) :
    Calls Tryd.prog 7 #[.pointer (some ⟨pb, 0, none⟩), .agg #[.int .i64 5, .int .i64 on, .slice bp nb bc, .int .i64 pick, .int .i64 more]] wr fun e w' => e = .returned (.bool true) ∧ Ps w w' pb W M (k + 1) := by
  obtain ⟨w1, hw1⟩ : ∃ w1, wr.alloc (.cells #[.int .i64 5, .int .i64 on, .slice bp nb bc, .int .i64 pick, .int .i64 more] 31) = w1 := ⟨_, rfl⟩
  have hb1 : Below wr.heap.size wr w1 := by rw [← hw1]; exact (Below.refl _ _).alloc (Nat.le_refl _) _
  have hk1 : w1.heap[wr.heap.size]? = some (.cells #[.int .i64 5, .int .i64 on, .slice bp nb bc, .int .i64 pick, .int .i64 more] 31 (0, 0)) := by rw [← hw1]; exact heap_alloc_new _ _
  have HP1 := hide (h.below hb1 (9, 9))
  have HKx : Hid (ext K wr.heap.size (9, 9) wr.heap.size = (9, 9)) := ext_new _ _ (Nat.le_refl _)
  generalize ext K wr.heap.size (9, 9) = K1 at *
  obtain ⟨x0, x1, x2, x3, x4, xf⟩ := sblk5 hk1
  have hob := C.lt_of_block hk1
  have HX1 := hide hk1
  have HW1 := hide hw1
  have HB1 := hide hb1
  have HD := hide hd
  obtain ⟨p0, p1, p2, p3, p4, p5, p6, p7, p8, pf, hpb⟩ := HP1.out.pk.cells
  clear hk1 hw1 hb1 h hd
  have HWi := hide (fun w => within_any w more 3 (by omega) (by omega))
  obtain ⟨r, hr⟩ : ∃ r : Nat, (more % ((3 : Nat) : Int)).toNat = r := ⟨_, rfl⟩
  have hr3 : r < 3 := by omega
  rw [hr] at HWi
  have e3 : ((3 : Nat) : Int) = 3 := rfl
  rw [e3] at HWi
  have hl := HD.out.a.l2
  have hl1 := HD.out.a.l1
  have HPd := hide (HD.out.lives0 (l0 + 1 + r) (by omega) (by omega))
  have HLv := hide (lives_pm0 (HP1.out.below ((Below.refl w1.heap.size w1).drew) (9, 9)) (l0 + 1 + r))
  have hN : ((l0 + 1 + r : Nat) : Int) = (l0 : Int) + 1 + (r : Int) := by omega
  rw [hN] at HLv
  have z1 : IntKind.u64.wrap ((l0 : Int) + 1) = (l0 : Int) + 1 := by rw [IntKind.wrap_u64]; omega
  have z2 : IntKind.u64.wrap (r : Int) = (r : Int) := by rw [IntKind.wrap_u64]; omega
  have z3 : IntKind.u64.wrap ((l0 : Int) + 1 + (r : Int)) = (l0 : Int) + 1 + (r : Int) := by rw [IntKind.wrap_u64]; omega
  have HZ := hide (And.intro z1 (And.intro z2 z3))
  clear hr e3 hN z1 z2 z3
  go_enter Tryd.func7, Tryd.ntmps7
  go_upto_region 1 with (fail)
  rw [HW1.out]
  go_upto_region 24 with (fail)
  go_region_law (first | (go_simp; go_at_call 14; refine (HWi.out _).mono ?_; rintro e w2 ⟨rfl, hw2⟩; rw [hw2]; clear hw2) | (go_simp; go_at_call 15; (try rw [HZ.out.1]); (try rw [HZ.out.2.1]); (try rw [HZ.out.2.2]); refine HLv.out.mono ?_; rintro e w2 ⟨rfl, bl, K', hpm⟩; have HPm := hide hpm; clear hpm))
  all_goals (go_wp2; go_ret; exact ⟨rfl, _, _, _, _, _, _, _, _, _, _, _, _, _, _, _, HPm.out, HPd.out⟩)
set_option maxRecDepth 100000 in
set_option maxHeartbeats 4000000 in
set_option linter.unusedVariables false in
theorem step_life1 (w wr : World) (K : Knd) (pb W M l0 l1 b0 b1 : Nat) (sv s0 s1 : Value) (A B : Lk) (ra rb : Value) (S T : List Sm) (es : List Fe) (k : Nat) (h : Pm w wr K pb W M l0 l1 b0 b1 sv s0 s1 A B ra rb S T es) (hd : Pd W M l0 l1 A B S T es k) (hk : k ≤ 19999) (on pick more : Int) (bp : Option Addr) (nb bc : Nat) (hon : bits .and .i64 on 1 = 1) :
    Calls Tryd.prog 7 #[.pointer (some ⟨pb, 0, none⟩), .agg #[.int .i64 5, .int .i64 on, .slice bp nb bc, .int .i64 pick, .int .i64 more]] wr fun e w' => e = .returned (.bool true) ∧ Ps w w' pb W M (k + 1) := by
  obtain ⟨w1, hw1⟩ : ∃ w1, wr.alloc (.cells #[.int .i64 5, .int .i64 on, .slice bp nb bc, .int .i64 pick, .int .i64 more] 31) = w1 := ⟨_, rfl⟩
  have hb1 : Below wr.heap.size wr w1 := by rw [← hw1]; exact (Below.refl _ _).alloc (Nat.le_refl _) _
  have hk1 : w1.heap[wr.heap.size]? = some (.cells #[.int .i64 5, .int .i64 on, .slice bp nb bc, .int .i64 pick, .int .i64 more] 31 (0, 0)) := by rw [← hw1]; exact heap_alloc_new _ _
  have HP1 := hide (h.below hb1 (9, 9))
  have HKx : Hid (ext K wr.heap.size (9, 9) wr.heap.size = (9, 9)) := ext_new _ _ (Nat.le_refl _)
  generalize ext K wr.heap.size (9, 9) = K1 at *
  obtain ⟨x0, x1, x2, x3, x4, xf⟩ := sblk5 hk1
  have hob := C.lt_of_block hk1
  have HX1 := hide hk1
  have HW1 := hide hw1
  have HB1 := hide hb1
  have HD := hide hd
  obtain ⟨p0, p1, p2, p3, p4, p5, p6, p7, p8, pf, hpb⟩ := HP1.out.pk.cells
  clear hk1 hw1 hb1 h hd
  have HWi := hide (fun w => within_any w more 3 (by omega) (by omega))
  obtain ⟨r, hr⟩ : ∃ r : Nat, (more % ((3 : Nat) : Int)).toNat = r := ⟨_, rfl⟩
  have hr3 : r < 3 := by omega
  rw [hr] at HWi
  have e3 : ((3 : Nat) : Int) = 3 := rfl
  rw [e3] at HWi
  have hl := HD.out.b.l2
  have hl1 := HD.out.b.l1
  have HPd := hide (HD.out.lives1 (l1 + 1 + r) (by omega) (by omega))
  have HLv := hide (lives_pm1 (HP1.out.below ((Below.refl w1.heap.size w1).drew) (9, 9)) (l1 + 1 + r))
  have hN : ((l1 + 1 + r : Nat) : Int) = (l1 : Int) + 1 + (r : Int) := by omega
  rw [hN] at HLv
  have z1 : IntKind.u64.wrap ((l1 : Int) + 1) = (l1 : Int) + 1 := by rw [IntKind.wrap_u64]; omega
  have z2 : IntKind.u64.wrap (r : Int) = (r : Int) := by rw [IntKind.wrap_u64]; omega
  have z3 : IntKind.u64.wrap ((l1 : Int) + 1 + (r : Int)) = (l1 : Int) + 1 + (r : Int) := by rw [IntKind.wrap_u64]; omega
  have HZ := hide (And.intro z1 (And.intro z2 z3))
  clear hr e3 hN z1 z2 z3
  go_enter Tryd.func7, Tryd.ntmps7
  go_upto_region 1 with (fail)
  rw [HW1.out]
  go_upto_region 24 with (fail)
  go_region_law (first | (go_simp; go_at_call 14; refine (HWi.out _).mono ?_; rintro e w2 ⟨rfl, hw2⟩; rw [hw2]; clear hw2) | (go_simp; go_at_call 15; (try rw [HZ.out.1]); (try rw [HZ.out.2.1]); (try rw [HZ.out.2.2]); refine HLv.out.mono ?_; rintro e w2 ⟨rfl, bl, K', hpm⟩; have HPm := hide hpm; clear hpm))
  all_goals (go_wp2; go_ret; exact ⟨rfl, _, _, _, _, _, _, _, _, _, _, _, _, _, _, _, HPm.out, HPd.out⟩)
set_option maxRecDepth 100000 in
set_option maxHeartbeats 4000000 in
set_option linter.unusedVariables false in
theorem step_other (w wr : World) (K : Knd) (pb W M l0 l1 b0 b1 : Nat) (sv s0 s1 : Value) (A B : Lk) (ra rb : Value) (S T : List Sm) (es : List Fe) (k : Nat) (h : Pm w wr K pb W M l0 l1 b0 b1 sv s0 s1 A B ra rb S T es) (hd : Pd W M l0 l1 A B S T es k) (hk : k ≤ 19999) (kind : Int) (on pick more : Int) (bp : Option Addr) (nb bc : Nat) (k1 : ¬ kind = 1) (k2 : ¬ kind = 2) (k3 : ¬ kind = 3) (k4 : ¬ kind = 4) (k5 : ¬ kind = 5) (k6 : ¬ kind = 6) :
    Calls Tryd.prog 7 #[.pointer (some ⟨pb, 0, none⟩), .agg #[.int .i64 kind, .int .i64 on, .slice bp nb bc, .int .i64 pick, .int .i64 more]] wr fun e w' => e = .returned (.bool true) ∧ Ps w w' pb W M (k + 1) := by
  obtain ⟨w1, hw1⟩ : ∃ w1, wr.alloc (.cells #[.int .i64 kind, .int .i64 on, .slice bp nb bc, .int .i64 pick, .int .i64 more] 31) = w1 := ⟨_, rfl⟩
  have hb1 : Below wr.heap.size wr w1 := by rw [← hw1]; exact (Below.refl _ _).alloc (Nat.le_refl _) _
  have hk1 : w1.heap[wr.heap.size]? = some (.cells #[.int .i64 kind, .int .i64 on, .slice bp nb bc, .int .i64 pick, .int .i64 more] 31 (0, 0)) := by rw [← hw1]; exact heap_alloc_new _ _
  have HP1 := hide (h.below hb1 (9, 9))
  have HKx : Hid (ext K wr.heap.size (9, 9) wr.heap.size = (9, 9)) := ext_new _ _ (Nat.le_refl _)
  generalize ext K wr.heap.size (9, 9) = K1 at *
  obtain ⟨x0, x1, x2, x3, x4, xf⟩ := sblk5 hk1
  have hob := C.lt_of_block hk1
  have HX1 := hide hk1
  have HW1 := hide hw1
  have HB1 := hide hb1
  have HD := hide hd
  obtain ⟨p0, p1, p2, p3, p4, p5, p6, p7, p8, pf, hpb⟩ := HP1.out.pk.cells
  clear hk1 hw1 hb1 h hd
  have q1 : (kind == 1) = false := by simpa using k1
  have q2 : (kind == 2) = false := by simpa using k2
  have q3 : (kind == 3) = false := by simpa using k3
  have q4 : (kind == 4) = false := by simpa using k4
  have q5 : (kind == 5) = false := by simpa using k5
  have q6 : (kind == 6) = false := by simpa using k6
  have HPd := hide HD.out.up
  clear k1 k2 k3 k4 k5 k6
  obtain ⟨o1, ho1⟩ : ∃ o1, bits .and .i64 on 1 = o1 := ⟨_, rfl⟩
  go_enter Tryd.func7, Tryd.ntmps7
  go_upto_region 1 with (fail)
  rw [HW1.out]
  go_wp2
  go_ret
  exact ⟨rfl, _, _, _, _, _, _, _, _, _, _, _, _, _, _, _, HP1.out, HPd.out⟩
end Go.Proofs.YtbcpoejpbhpcbaaDoor
