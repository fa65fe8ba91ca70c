import Derived.Test.YtbcpoejpbhpcbaaDoorRnA
import Derived.Test.YtbcpoejpbhpcbaaDoorSeB
namespace Go.Proofs.YtbcpoejpbhpcbaaDoor
open Go.RowKit

/-! Two links over a bad net: why what is handed up is a beginning of what was handed in -/
/-- A side: its link, its life, its sessions; k: how many steps there were. -/
structure Sok (me other : Int) (L : Lk) (life k : Nat) (S : List Sm) : Prop where
  me : L.me = me
  other : L.other = other
  lf : L.life = life
  l1 : 1 ≤ life
  l2 : life ≤ 3 * k + 1
  rn : Rn L k
  kb : L.known ≤ 1099511627776
  wn : 1 ≤ L.window
  row : ∀ m ∈ L.row, 1 ≤ m.1 ∧ m.1 ≤ L.numbered ∧ m.2.size ≤ 2048
  uniq : ∀ (m n : Nat) (x y : Sm), S[m]? = some x → S[n]? = some y → x.mine = y.mine → x.yours = y.yours → m = n
  old : ∀ x ∈ S, x.mine < life ∨ (x.mine = life ∧ x.yours ≤ L.known)
  cur : L.known ≠ 0 → ∀ x ∈ S, x.mine = life → x.yours = L.known → x.inn.length = L.numbered ∧ x.up.length = L.handed ∧ ∀ m ∈ L.row, x.inn[m.1 - 1]? = some (nums m.2)
  non : L.known ≠ 0 → (∀ x ∈ S, ¬ (x.mine = life ∧ x.yours = L.known)) → L.numbered = 0 ∧ L.handed = 0 ∧ L.row = []
/-- A frame that a side has sent. -/
structure Fok (me other : Int) (life : Nat) (S : List Sm) (f : Fr) : Prop where
  fr : f.fr = me
  tt : f.tt = other
  fit : f.fit
  small : f.small
  mine : f.mine ≤ life
  seq : f.seq ≠ 0 → ∃ x ∈ S, x.mine = f.mine ∧ x.yours = f.yours ∧ x.inn[f.seq - 1]? = some f.body
/-- The sessions have grown. -/
def Grow (S T : List Sm) : Prop := ∀ x ∈ S, ∃ y ∈ T, y.mine = x.mine ∧ y.yours = x.yours ∧ ∀ (n : Nat) (b : List Nat), x.inn[n]? = some b → y.inn[n]? = some b
theorem Grow.refl (S : List Sm) : Grow S S := fun x hx => ⟨x, hx, rfl, rfl, fun _ _ h => h⟩
theorem Fok.grow {me other : Int} {life life' : Nat} {S T : List Sm} {f : Fr} (h : Fok me other life S f) (hl : life ≤ life') (hg : Grow S T) : Fok me other life' T f := by
  refine ⟨h.fr, h.tt, h.fit, h.small, Nat.le_trans h.mine hl, fun hs => ?_⟩
  obtain ⟨x, hx, e1, e2, e3⟩ := h.seq hs
  obtain ⟨y, hy, q1, q2, q3⟩ := hg x hx
  exact ⟨y, hy, q1.trans e1, q2.trans e2, q3 _ _ e3⟩
theorem grow_add (S : List Sm) (x : Sm) : Grow S (S ++ [x]) := fun y hy => ⟨y, List.mem_append.2 (Or.inl hy), rfl, rfl, fun _ _ h => h⟩
theorem grow_set {S : List Sm} {n : Nat} {x y : Sm} (hx : S[n]? = some x) (h1 : y.mine = x.mine) (h2 : y.yours = x.yours) (h3 : ∀ (n : Nat) (b : List Nat), x.inn[n]? = some b → y.inn[n]? = some b) : Grow S (S.set n y) := fun z hz => by
  obtain ⟨m, hm⟩ := List.mem_iff_getElem?.1 hz
  have hn := (List.getElem?_eq_some_iff.1 hx).1
  by_cases e : m = n
  · subst e
    rw [hx] at hm
    cases hm
    exact ⟨y, List.mem_of_getElem? (by rw [List.getElem?_set_self hn]), h1, h2, h3⟩
  · exact ⟨z, List.mem_of_getElem? (i := m) (by rw [List.getElem?_set_ne (Ne.symm e)]; exact hm), rfl, rfl, fun _ _ h => h⟩
section
variable {me other : Int} {L : Lk} {life k : Nat} {S : List Sm}
theorem Sok.up (h : Sok me other L life k S) : Sok me other L life (k + 1) S := ⟨h.me, h.other, h.lf, h.l1, by have := h.l2; omega, h.rn.up, h.kb, h.wn, h.row, h.uniq, h.old, h.cur, h.non⟩
/-- A session is written down. -/
theorem Sok.now (h : Sok me other L life k S) (hk : L.known ≠ 0) (hn : ∀ x ∈ S, ¬ (x.mine = life ∧ x.yours = L.known)) (iv uv : Value) : Sok me other L life k (S ++ [⟨life, L.known, iv, uv, [], []⟩]) := by
  obtain ⟨e1, e2, e3⟩ := h.non hk hn
  refine ⟨h.me, h.other, h.lf, h.l1, h.l2, h.rn, h.kb, h.wn, h.row, fun m n x y hx hy q1 q2 => ?_, fun x hx => ?_, fun _ x hx q1 q2 => ?_, fun _ hno => ?_⟩
  · have hm := (List.getElem?_eq_some_iff.1 hx).1
    have hn2 := (List.getElem?_eq_some_iff.1 hy).1
    simp at hm hn2
    by_cases hm' : m < S.length
    · rw [List.getElem?_append_left hm'] at hx
      by_cases hn' : n < S.length
      · rw [List.getElem?_append_left hn'] at hy
        exact h.uniq m n x y hx hy q1 q2
      · obtain rfl : n = S.length := by omega
        simp at hy
        subst hy
        exact absurd ⟨q1, q2⟩ (hn x (List.mem_of_getElem? hx))
    · obtain rfl : m = S.length := by omega
      simp at hx
      subst hx
      by_cases hn' : n < S.length
      · rw [List.getElem?_append_left hn'] at hy
        exact absurd ⟨q1.symm, q2.symm⟩ (hn y (List.mem_of_getElem? hy))
      · omega
  · rcases List.mem_append.1 hx with q | q
    · exact h.old x q
    · simp at q; subst q; exact Or.inr ⟨rfl, Nat.le_refl _⟩
  · rcases List.mem_append.1 hx with q | q
    · exact absurd ⟨q1, q2⟩ (hn x q)
    · simp at q; subst q
      exact ⟨e1.symm, e2.symm, fun m hm => by rw [e3] at hm; cases hm⟩
  · exact absurd ⟨rfl, rfl⟩ (hno ⟨life, L.known, iv, uv, [], []⟩ (by simp))
/-- A body is handed in, while the other's life is known. -/
theorem Sok.send (h : Sok me other L life k S) (hk : L.known ≠ 0) {n : Nat} {x : Sm} (hx : S[n]? = some x) (q1 : x.mine = life) (q2 : x.yours = L.known) (s : ByteArray) (hs : s.size ≤ 2048) (iv : Value) : Sok me other (sendN L s) life (k + 1) (S.set n { x with iv := iv, inn := x.inn ++ [nums s] }) := by
  have hxm := List.mem_of_getElem? hx
  obtain ⟨c1, c2, c3⟩ := h.cur hk x hxm q1 q2
  have hn := (List.getElem?_eq_some_iff.1 hx).1
  have hsame : (sendN L s).me = L.me ∧ (sendN L s).other = L.other ∧ (sendN L s).life = L.life ∧ (sendN L s).known = L.known ∧ (sendN L s).handed = L.handed := by
    unfold sendN sendL
    split <;> exact ⟨rfl, rfl, rfl, rfl, rfl⟩
  have hwin : (sendN L s).window = L.window := by unfold sendN sendL; split <;> rfl
  have hnum : (sendN L s).numbered = L.numbered + 1 := rfl
  have hrow : (sendN L s).row = L.row ++ [(L.numbered + 1, s)] := rfl
  have hmem : ∀ y ∈ S.set n { x with iv := iv, inn := x.inn ++ [nums s] }, (∃ m, m ≠ n ∧ S[m]? = some y) ∨ y = { x with iv := iv, inn := x.inn ++ [nums s] } := fun y hy => by
    obtain ⟨m, hm⟩ := List.mem_iff_getElem?.1 hy
    by_cases e : m = n
    · subst e
      rw [List.getElem?_set_self hn] at hm
      cases hm
      exact Or.inr rfl
    · rw [List.getElem?_set_ne (Ne.symm e)] at hm
      exact Or.inl ⟨m, e, hm⟩
  refine ⟨hsame.1.trans h.me, hsame.2.1.trans h.other, hsame.2.2.1.trans h.lf, h.l1, by have := h.l2; omega, h.rn.send s, by rw [hsame.2.2.2.1]; exact h.kb, by rw [hwin]; exact h.wn, fun m hm => ?_, fun m m2 y z hy hz e1 e2 => ?_, fun y hy => ?_, fun _ y hy e1 e2 => ?_, fun _ hno => ?_⟩
  · rw [hrow] at hm
    rw [hnum]
    rcases List.mem_append.1 hm with q | q
    · have := h.row m q
      omega
    · simp at q; subst q
      simp only
      omega
  · by_cases a1 : m = n
    · by_cases a2 : m2 = n
      · omega
      · rw [a1, List.getElem?_set_self hn] at hy
        rw [List.getElem?_set_ne (Ne.symm a2)] at hz
        cases hy
        exact a1.trans (h.uniq n m2 x z hx hz e1 e2)
    · rw [List.getElem?_set_ne (Ne.symm a1)] at hy
      by_cases a2 : m2 = n
      · rw [a2, List.getElem?_set_self hn] at hz
        cases hz
        exact (h.uniq m n y x hy hx e1 e2).trans a2.symm
      · rw [List.getElem?_set_ne (Ne.symm a2)] at hz
        exact h.uniq m m2 y z hy hz e1 e2
  · rw [hsame.2.2.2.1]
    rcases hmem y hy with ⟨m, _, q⟩ | q
    · exact h.old y (List.mem_of_getElem? q)
    · subst q; exact h.old x hxm
  · rw [hsame.2.2.2.1] at e2
    rcases hmem y hy with ⟨m, q, q3⟩ | q
    · exact absurd (h.uniq m n y x q3 hx (e1.trans q1.symm) (e2.trans q2.symm)) q
    · subst q
      rw [hnum, hsame.2.2.2.2, hrow]
      refine ⟨by simp; exact c1, c2, fun m hm => ?_⟩
      rcases List.mem_append.1 hm with q | q
      · have h5 := c3 m q
        have h6 := (List.getElem?_eq_some_iff.1 h5).1
        show (x.inn ++ [nums s])[m.1 - 1]? = _
        rw [List.getElem?_append_left h6]
        exact h5
      · simp at q; subst q
        show (x.inn ++ [nums s])[L.numbered + 1 - 1]? = _
        rw [Nat.add_sub_cancel, ← c1]
        simp
  · exfalso
    refine hno { x with iv := iv, inn := x.inn ++ [nums s] } (List.mem_of_getElem? (i := n) (by rw [List.getElem?_set_self hn])) ⟨q1, ?_⟩
    rw [hsame.2.2.2.1]
    exact q2
/-- .. while it is not known. -/
theorem Sok.send0 (h : Sok me other L life k S) (hk : L.known = 0) (s : ByteArray) (hs : s.size ≤ 2048) : Sok me other (sendN L s) life (k + 1) S := by
  have hsame : (sendN L s).me = L.me ∧ (sendN L s).other = L.other ∧ (sendN L s).life = L.life ∧ (sendN L s).known = L.known ∧ (sendN L s).window = L.window := by
    unfold sendN sendL
    split <;> exact ⟨rfl, rfl, rfl, rfl, rfl⟩
  have hnum : (sendN L s).numbered = L.numbered + 1 := rfl
  have hrow : (sendN L s).row = L.row ++ [(L.numbered + 1, s)] := rfl
  refine ⟨hsame.1.trans h.me, hsame.2.1.trans h.other, hsame.2.2.1.trans h.lf, h.l1, by have := h.l2; omega, h.rn.send s, by rw [hsame.2.2.2.1]; exact h.kb, by rw [hsame.2.2.2.2]; exact h.wn, fun m hm => ?_, h.uniq, fun x hx => by rw [hsame.2.2.2.1]; exact h.old x hx, fun q => absurd (hsame.2.2.2.1.trans hk) q, fun q => absurd (hsame.2.2.2.1.trans hk) q⟩
  rw [hrow] at hm
  rw [hnum]
  rcases List.mem_append.1 hm with q | q
  · have := h.row m q
    omega
  · simp at q; subst q
    simp only
    omega
/-- Another link that is like this one but for its pace, its flags and what has gone out. -/
theorem Sok.like (h : Sok me other L life k S) {L' : Lk} (e1 : L'.me = L.me) (e2 : L'.other = L.other) (e3 : L'.life = L.life) (e4 : L'.known = L.known) (e5 : L'.window = L.window) (e6 : L'.numbered = L.numbered) (e7 : L'.handed = L.handed) (e8 : ∀ m ∈ L'.row, m ∈ L.row) (e9 : Rn L' k) : Sok me other L' life k S := by
  refine ⟨e1.trans h.me, e2.trans h.other, e3.trans h.lf, h.l1, h.l2, e9, by rw [e4]; exact h.kb, by rw [e5]; exact h.wn, fun m hm => by rw [e6]; exact h.row m (e8 m hm), h.uniq, fun x hx => by rw [e4]; exact h.old x hx, fun q x hx q1 q2 => ?_, fun q hno => ?_⟩
  · rw [e4] at q q2
    obtain ⟨c1, c2, c3⟩ := h.cur q x hx q1 q2
    exact ⟨by rw [e6]; exact c1, by rw [e7]; exact c2, fun m hm => c3 m (e8 m hm)⟩
  · rw [e4] at q hno
    obtain ⟨c1, c2, c3⟩ := h.non q hno
    refine ⟨e6.trans c1, e7.trans c2, ?_⟩
    match hr : L'.row with
    | [] => rfl
    | m :: r => have := e8 m (by rw [hr]; simp); rw [c3] at this; cases this
/-! What goes out -/
def bodF (L : Lk) : List Fr := ((inWin L).filter (goN (tmL L) L.gone)).map fun m => lfr L m.1 m.2
def outF (L : Lk) : List Fr := if bodF L = [] then (if sayL L = true then [lfr L 0 ⟨#[]⟩] else []) else bodF L
theorem bod_map (L : Lk) : bodO L = (bodF L).map encB := by unfold bodO outs bodF; rw [List.map_map]; rfl
theorem mid_map (L : Lk) : midO L = (outF L).map encB := by
  have h := bod_map L
  unfold midO outF
  by_cases e : bodF L = []
  · have e2 : bodO L = [] := by rw [h, e]; rfl
    rw [if_pos e2, if_pos e]
    split <;> rfl
  · have e2 : ¬ bodO L = [] := fun q => e (by rw [h] at q; exact List.map_eq_nil_iff.1 q)
    rw [if_neg e2, if_neg e, h]
theorem out_len (L : Lk) (hw : 1 ≤ L.window) : ((outF L).length : Int) ≤ L.window := by
  have hb : ((bodF L).length : Int) ≤ L.window := by
    unfold bodF
    rw [List.length_map]
    have h1 := List.length_filter_le (goN (tmL L) L.gone) (inWin L)
    have h2 : (inWin L).length ≤ L.window.toNat := by
      unfold inWin
      split
      · simp
      · simp; omega
    omega
  unfold outF
  split
  · split
    · simp; omega
    · simp; omega
  · exact hb
theorem Sok.outs (h : Sok me other L life k S) (hk : k ≤ 20000) (hm : 0 ≤ me ∧ me ≤ 8) (ho : 0 ≤ other ∧ other ≤ 8) : ∀ f ∈ outF L, Fok me other life S f ∧ f.yours = L.known ∧ f.mine = life := by
  have hl1 := h.l1
  have hl2 := h.l2
  have hkb := h.kb
  have hnm := h.rn.num
  have hhd := h.rn.hand
  have key : ∀ (n : Nat) (s : ByteArray), n ≤ L.numbered → s.size ≤ 2048 → (n = 0 → s.size = 0) → (lfr L n s).fit := fun n s hn hs h0 => by
    unfold Fr.fit lfr
    simp only [h.me, h.other, h.lf, nums_len]
    refine ⟨hm, ho, ⟨hl1, by omega⟩, hkb, by omega, by omega, hs, h0⟩
  have word : Fok me other life S (lfr L 0 ⟨#[]⟩) ∧ (lfr L 0 ⟨#[]⟩).yours = L.known ∧ (lfr L 0 ⟨#[]⟩).mine = life :=
    ⟨⟨h.me, h.other, key 0 ⟨#[]⟩ (Nat.zero_le _) (by show 0 ≤ 2048; omega) (fun _ => rfl), fun x hx => nums_small _ x hx, by show L.life ≤ life; rw [h.lf]; exact Nat.le_refl _, fun q => absurd rfl q⟩, rfl, h.lf⟩
  intro f hf
  unfold outF at hf
  split at hf
  · split at hf
    · simp at hf; subst hf; exact word
    · cases hf
  · unfold bodF at hf
    simp only [List.mem_map, List.mem_filter] at hf
    obtain ⟨m, ⟨hm1, _⟩, rfl⟩ := hf
    have hkn : L.known ≠ 0 := fun e => by unfold inWin at hm1; rw [if_pos e] at hm1; cases hm1
    have hmr : m ∈ L.row := by unfold inWin at hm1; rw [if_neg hkn] at hm1; exact List.mem_of_mem_take hm1
    obtain ⟨r1, r2, r3⟩ := h.row m hmr
    refine ⟨⟨h.me, h.other, key m.1 m.2 r2 r3 (fun e => by omega), fun x hx => nums_small _ x hx, by show L.life ≤ life; rw [h.lf]; exact Nat.le_refl _, fun _ => ?_⟩, rfl, h.lf⟩
    have hex : ∃ x ∈ S, x.mine = life ∧ x.yours = L.known := by
      refine Classical.byContradiction fun hno => ?_
      have := (h.non hkn (fun x hx q => hno ⟨x, hx, q.1, q.2⟩)).2.2
      rw [this] at hmr
      cases hmr
    obtain ⟨x, hx, q1, q2⟩ := hex
    exact ⟨x, hx, by show x.mine = L.life; rw [q1, h.lf], q2, (h.cur hkn x hx q1 q2).2.2 m hmr⟩
theorem Sok.tick (h : Sok me other L life k S) : Sok me other (tickL L) life (k + 1) S := by
  have h1 := bodL_same L
  have h2 := tkR_same L
  have e0 : ∀ (P : Lk → Prop), P (bodL L) → P { bodL L with ack := false, asked := false } → P (tickL L) := fun P a b => by unfold tickL; split <;> assumption
  have hl : ∀ L' : Lk, (L' = bodL L ∨ L' = { bodL L with ack := false, asked := false }) → L'.me = L.me ∧ L'.other = L.other ∧ L'.life = L.life ∧ L'.known = L.known ∧ L'.window = L.window ∧ L'.numbered = L.numbered ∧ L'.handed = L.handed ∧ L'.row = L.row := fun L' hL => by
    have hb : (bodL L).me = L.me ∧ (bodL L).other = L.other ∧ (bodL L).life = L.life ∧ (bodL L).known = L.known ∧ (bodL L).window = L.window ∧ (bodL L).numbered = L.numbered ∧ (bodL L).handed = L.handed ∧ (bodL L).row = L.row := by
      unfold bodL gonL tkR ltick
      split
      · split <;> exact ⟨rfl, rfl, rfl, rfl, rfl, rfl, rfl, rfl⟩
      · exact ⟨rfl, rfl, rfl, rfl, rfl, rfl, rfl, rfl⟩
    rcases hL with q | q
    · rw [q]; exact hb
    · rw [q]; exact hb
  have ht : tickL L = bodL L ∨ tickL L = { bodL L with ack := false, asked := false } := by unfold tickL; split; exact Or.inl rfl; exact Or.inr rfl
  obtain ⟨a1, a2, a3, a4, a5, a6, a7, a8⟩ := hl _ ht
  exact (h.like a1 a2 a3 a4 a5 a6 a7 (fun m hm => by rw [a8] at hm; exact hm) h.rn.tick).up
theorem Sok.owe (h : Sok me other L life k S) : Sok me other { L with asked := true } life (k + 1) S := (h.like (L' := { L with asked := true }) rfl rfl rfl rfl rfl rfl rfl (fun _ hm => hm) h.rn.owe).up
/-- A greater life of this side. -/
theorem Sok.newLife (h : Sok me other L life k S) (n : Nat) (hn : life < n) (hn2 : n ≤ life + 3) (W M : Nat) (hW : 1 ≤ W) : Sok me other (Lk.new me other n W M) n (k + 1) S := by
  have hr := rn_new me other n W M
  refine ⟨rfl, rfl, rfl, by omega, by have := h.l2; omega, ⟨Nat.le_trans hr.row (Nat.zero_le _), Nat.le_trans hr.num (Nat.zero_le _), Nat.le_trans hr.hand (Nat.zero_le _), hr.pok, hr.win⟩, Nat.zero_le _, by show (1 : Int) ≤ max (W : Int) 0; omega, fun m hm => (by cases hm), h.uniq, fun x hx => ?_, fun q => absurd rfl q, fun q => absurd rfl q⟩
  rcases h.old x hx with q | q <;> (left; omega)
/-- A frame is heard, up to its body. -/
theorem Sok.hear1 (h : Sok me other L life k S) (mine : Nat) (hm2 : mine ≤ 1099511627776) : Sok me other (hear1 L mine) life k S := by
  by_cases e : L.known < mine
  · have he : Go.Proofs.YtbcpoejpbhpcbaaDoor.hear1 L mine = lreset (lanew L mine) := by unfold Go.Proofs.YtbcpoejpbhpcbaaDoor.hear1; rw [if_pos e]
    have hrn := h.rn.hear1 mine
    rw [he] at hrn ⊢
    refine ⟨h.me, h.other, h.lf, h.l1, h.l2, hrn, hm2, h.wn, fun m hm => (by cases hm), h.uniq, fun x hx => ?_, fun _ x hx q1 q2 => ?_, fun _ _ => ⟨rfl, rfl, rfl⟩⟩
    · rcases h.old x hx with q | q
      · exact Or.inl q
      · exact Or.inr ⟨q.1, by show x.yours ≤ mine; omega⟩
    · exfalso
      have q3 : x.yours = mine := q2
      rcases h.old x hx with q | q <;> omega
  · have he : Go.Proofs.YtbcpoejpbhpcbaaDoor.hear1 L mine = L := by unfold Go.Proofs.YtbcpoejpbhpcbaaDoor.hear1; rw [if_neg e]
    rw [he]
    exact h
theorem Sok.ackd (h : Sok me other L life k S) (p : Bool) (a : Nat) : Sok me other (ackL { L with paced := p } a) life k S := by
  have hrn : Rn (ackL { L with paced := p } a) k := (h.rn.paced p).ack a
  have hs : (ackL { L with paced := p } a).me = L.me ∧ (ackL { L with paced := p } a).other = L.other ∧ (ackL { L with paced := p } a).life = L.life ∧ (ackL { L with paced := p } a).known = L.known ∧ (ackL { L with paced := p } a).window = L.window ∧ (ackL { L with paced := p } a).numbered = L.numbered ∧ (ackL { L with paced := p } a).handed = L.handed ∧ ∀ m ∈ (ackL { L with paced := p } a).row, m ∈ L.row := by
    unfold ackL
    split
    · exact ⟨rfl, rfl, rfl, rfl, rfl, rfl, rfl, fun m hm => List.mem_of_mem_drop hm⟩
    · exact ⟨rfl, rfl, rfl, rfl, rfl, rfl, rfl, fun m hm => hm⟩
  exact h.like hs.1 hs.2.1 hs.2.2.1 hs.2.2.2.1 hs.2.2.2.2.1 hs.2.2.2.2.2.1 hs.2.2.2.2.2.2.1 hs.2.2.2.2.2.2.2 hrn
theorem Sok.pacedS (h : Sok me other L life k S) (p : Bool) : Sok me other { L with paced := p } life k S := h.like (L' := { L with paced := p }) rfl rfl rfl rfl rfl rfl rfl (fun _ hm => hm) (h.rn.paced p)
/-- A body that is not handed up. -/
theorem Sok.passed (h : Sok me other L life k S) (seq : Nat) (hs : handN L seq = false) : Sok me other (bodyL L seq) life (k + 1) S := by
  have hne : ¬ seq = L.handed + 1 := fun e => by unfold handN at hs; simp [e] at hs
  have hl : bodyL L seq = L ∨ bodyL L seq = { L with ack := true } := by
    unfold bodyL
    by_cases h0 : seq = 0
    · rw [if_pos h0]; exact Or.inl rfl
    · rw [if_neg h0, if_neg hne]; exact Or.inr rfl
  rcases hl with q | q
  · rw [q]; exact h.up
  · rw [q]; exact (h.like (L' := { L with ack := true }) rfl rfl rfl rfl rfl rfl rfl (fun _ hm => hm) ⟨h.rn.row, h.rn.num, h.rn.hand, ⟨h.rn.pok.l, h.rn.pok.g, h.rn.pok.m⟩, h.rn.win⟩).up
/-- A body that is handed up, and written down. -/
theorem Sok.handed (h : Sok me other L life k S) (hk : L.known ≠ 0) {n : Nat} {x : Sm} (hx : S[n]? = some x) (q1 : x.mine = life) (q2 : x.yours = L.known) (seq : Nat) (h0 : seq ≠ 0) (hs : handN L seq = true) (uv : Value) (b : List Nat) : Sok me other (bodyL L seq) life (k + 1) (S.set n { x with uv := uv, up := x.up ++ [b] }) := by
  have hseq : seq = L.handed + 1 := by unfold handN at hs; simpa using hs
  have hl : bodyL L seq = { L with ack := true, handed := L.handed + 1 } := by unfold bodyL; rw [if_neg h0, if_pos hseq]
  have hxm := List.mem_of_getElem? hx
  obtain ⟨c1, c2, c3⟩ := h.cur hk x hxm q1 q2
  have hn := (List.getElem?_eq_some_iff.1 hx).1
  have hrn := h.rn.body seq
  rw [hl] at hrn ⊢
  have hmem : ∀ y ∈ S.set n { x with uv := uv, up := x.up ++ [b] }, (∃ m, m ≠ n ∧ S[m]? = some y) ∨ y = { x with uv := uv, up := x.up ++ [b] } := fun y hy => by
    obtain ⟨m, hm⟩ := List.mem_iff_getElem?.1 hy
    by_cases e : m = n
    · subst e
      rw [List.getElem?_set_self hn] at hm
      cases hm
      exact Or.inr rfl
    · rw [List.getElem?_set_ne (Ne.symm e)] at hm
      exact Or.inl ⟨m, e, hm⟩
  refine ⟨h.me, h.other, h.lf, h.l1, by have := h.l2; omega, hrn, h.kb, h.wn, h.row, fun m m2 y z hy hz e1 e2 => ?_, fun y hy => ?_, fun _ y hy e1 e2 => ?_, fun _ hno => ?_⟩
  · by_cases a1 : m = n
    · by_cases a2 : m2 = n
      · omega
      · rw [a1, List.getElem?_set_self hn] at hy
        rw [List.getElem?_set_ne (Ne.symm a2)] at hz
        cases hy
        exact a1.trans (h.uniq n m2 x z hx hz e1 e2)
    · rw [List.getElem?_set_ne (Ne.symm a1)] at hy
      by_cases a2 : m2 = n
      · rw [a2, List.getElem?_set_self hn] at hz
        cases hz
        exact (h.uniq m n y x hy hx e1 e2).trans a2.symm
      · rw [List.getElem?_set_ne (Ne.symm a2)] at hz
        exact h.uniq m m2 y z hy hz e1 e2
  · rcases hmem y hy with ⟨m, _, q⟩ | q
    · exact h.old y (List.mem_of_getElem? q)
    · subst q; exact h.old x hxm
  · rcases hmem y hy with ⟨m, q, q3⟩ | q
    · exact absurd (h.uniq m n y x q3 hx (e1.trans q1.symm) (e2.trans q2.symm)) q
    · subst q
      exact ⟨c1, by simp; exact c2, c3⟩
  · exfalso
    exact hno { x with uv := uv, up := x.up ++ [b] } (List.mem_of_getElem? (i := n) (by rw [List.getElem?_set_self hn])) ⟨q1, q2⟩
end
end Go.Proofs.YtbcpoejpbhpcbaaDoor
