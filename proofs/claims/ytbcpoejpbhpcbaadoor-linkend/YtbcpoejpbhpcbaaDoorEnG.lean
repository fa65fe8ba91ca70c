import Derived.Test.YtbcpoejpbhpcbaaDoorEnC
import Derived.Test.YtbcpoejpbhpcbaaDoorSeM
namespace Go.Proofs.YtbcpoejpbhpcbaaDoor
open Go.RowKit

theorem sendN_lg (X : Lk) (lx : Nat) (s : ByteArray) : LGrow X lx (sendN X s) lx := by
  refine Or.inr ⟨rfl, Or.inr ?_⟩
  unfold sendN sendL
  split <;> exact ⟨rfl, Nat.le_refl _⟩
theorem outs_fr {X : Lk} (f : Fr) (h : f ∈ outF X) : f.fr = X.me := by
  unfold outF at h
  split at h
  · split at h
    · simp at h; subst h; rfl
    · cases h
  · unfold bodF at h
    obtain ⟨m, _, rfl⟩ := List.mem_map.1 h
    rfl
section
variable {W M l0 l1 : Nat} {A B : Lk} {S T : List Sm} {es : List Fe} {k : Nat}
theorem Pe.act0 {X' : Lk} {l' : Nat} {S' : List Sm} (h : Pe W M l0 l1 A B S T es) (fl : Flow W M X' l' S' l1 T) (gr : Flow W M B l1 T l' S') (lg : LGrow A l0 X' l') (gw : GrowU S S') : Pe W M l' l1 X' B S' T es :=
  ⟨fl, gr, fun e he => ⟨fun q => ((h.e e he).1 q).grow lg gw, (h.e e he).2⟩⟩
theorem Pe.lives0 (h : Pe W M l0 l1 A B S T es) (hM : 1 ≤ M ∧ M ≤ 64) (n : Nat) (hn : l0 < n) : Pe W M n l1 (Lk.new 0 5 n (W : Int) (M : Int)) B S T es :=
  h.act0 (h.f0.new 0 5 n hM) (h.f1.recv (Nat.le_of_lt hn) (GrowU.refl _) (NoUp.refl _)) (Or.inl hn) (GrowU.refl _)
theorem Pe.owe0 (h : Pe W M l0 l1 A B S T es) : Pe W M l0 l1 { A with asked := true } B S T es :=
  h.act0 (h.f0.like (X' := { A with asked := true }) rfl (Or.inl rfl) rfl rfl rfl rfl rfl rfl) h.f1 (Or.inr ⟨rfl, Or.inr ⟨rfl, Nat.le_refl _⟩⟩) (GrowU.refl _)
theorem Pe.nowed0 {S' : List Sm} (h : Pe W M l0 l1 A B S T es) {kn : Nat} (hs : NowS S S' l0 kn) : Pe W M l0 l1 A B S' T es :=
  h.act0 (h.f0.keys hs.ups.1) (h.f1.recv (Nat.le_refl _) hs.ups.1 hs.ups.2) (LGrow.refl _ _) hs.ups.1
theorem Pe.sentz0 (h : Pe W M l0 l1 A B S T es) (hM : 1 ≤ M) (s : ByteArray) : Pe W M l0 l1 (sendN A s) B S T es :=
  h.act0 (h.f0.sent hM s) h.f1 (sendN_lg A l0 s) (GrowU.refl _)
theorem Pe.sent0 {S' : List Sm} {n : Nat} {x : Sm} (h : Pe W M l0 l1 A B S T es) (hM : 1 ≤ M) {kn : Nat} (hs : NowS S S' l0 kn) (hx : S'[n]? = some x) (s : ByteArray) (iv : Value) (b : List Nat) : Pe W M l0 l1 (sendN A s) B (S'.set n { x with iv := iv, inn := x.inn ++ [b] }) T es := by
  have h1 := h.nowed0 hs
  obtain ⟨g1, g2⟩ := set_in hx iv (x.inn ++ [b])
  exact h1.act0 ((h1.f0.sent hM s).keys g1) (h1.f1.recv (Nat.le_refl _) g1 g2) (sendN_lg A l0 s) g1
theorem Pe.tick0 {fs : List Fe} (h : Pe W M l0 l1 A B S T es) (hd : Pd W M l0 l1 A B S T es k) (hf : fs.map Fe.f = outF A) : Pe W M l0 l1 (tickL A) B S T (es ++ fs) := by
  obtain ⟨fl, lg⟩ := h.f0.tick hd.wa hd.m1.1
  have h1 := h.act0 fl h.f1 lg (GrowU.refl _)
  refine ⟨h1.f0, h1.f1, fun e he => ?_⟩
  rcases List.mem_append.1 he with q | q
  · exact h1.e e q
  · have hm : e.f ∈ outF A := by rw [← hf]; exact List.mem_map_of_mem q
    have hx := h.f0.outs hd.a e.f hm
    have hfr : e.f.fr = 0 := (outs_fr e.f hm).trans hd.a.me
    exact ⟨fun _ => hx, fun q => by rw [hfr] at q; cases q⟩
theorem Pe.hear0 {S' : List Sm} {mine yours seq ack : Nat} {bo : List Nat} (h : Pe W M l0 l1 A B S T es) (hd : Pd W M l0 l1 A B S T es k) (hfo : Fok 5 0 l1 T ⟨5, 0, mine, yours, seq, ack, bo⟩) (hfe : Fex B l1 T ⟨5, 0, mine, yours, seq, ack, bo⟩) (hh : HearS A S S' l0 mine yours seq ack bo) : Pe W M l0 l1 (hearN A mine yours seq ack) B S' T es := by
  have hm := hfo.fit.2.2.1
  have hm1 : 1 ≤ mine := hm.1
  obtain ⟨fl, lg⟩ := h.f0.hearX hd.a hd.m1.1 hfe hfo.mine (fun e => by have e2 : mine = 0 := e; omega)
  obtain ⟨gr, gw⟩ := h.f1.hearY hd.a hfo hfe hh hm.1 hm.2
  exact h.act0 (fl.keys gw) gr lg gw
theorem Pe.act1 {X' : Lk} {l' : Nat} {S' : List Sm} (h : Pe W M l0 l1 A B S T es) (fl : Flow W M X' l' S' l0 S) (gr : Flow W M A l0 S l' S') (lg : LGrow B l1 X' l') (gw : GrowU T S') : Pe W M l0 l' A X' S S' es :=
  ⟨gr, fl, fun e he => ⟨(h.e e he).1, fun q => ((h.e e he).2 q).grow lg gw⟩⟩
theorem Pe.lives1 (h : Pe W M l0 l1 A B S T es) (hM : 1 ≤ M ∧ M ≤ 64) (n : Nat) (hn : l1 < n) : Pe W M l0 n A (Lk.new 5 0 n (W : Int) (M : Int)) S T es :=
  h.act1 (h.f1.new 5 0 n hM) (h.f0.recv (Nat.le_of_lt hn) (GrowU.refl _) (NoUp.refl _)) (Or.inl hn) (GrowU.refl _)
theorem Pe.owe1 (h : Pe W M l0 l1 A B S T es) : Pe W M l0 l1 A { B with asked := true } S T es :=
  h.act1 (h.f1.like (X' := { B with asked := true }) rfl (Or.inl rfl) rfl rfl rfl rfl rfl rfl) h.f0 (Or.inr ⟨rfl, Or.inr ⟨rfl, Nat.le_refl _⟩⟩) (GrowU.refl _)
theorem Pe.nowed1 {S' : List Sm} (h : Pe W M l0 l1 A B S T es) {kn : Nat} (hs : NowS T S' l1 kn) : Pe W M l0 l1 A B S S' es :=
  h.act1 (h.f1.keys hs.ups.1) (h.f0.recv (Nat.le_refl _) hs.ups.1 hs.ups.2) (LGrow.refl _ _) hs.ups.1
theorem Pe.sentz1 (h : Pe W M l0 l1 A B S T es) (hM : 1 ≤ M) (s : ByteArray) : Pe W M l0 l1 A (sendN B s) S T es :=
  h.act1 (h.f1.sent hM s) h.f0 (sendN_lg B l1 s) (GrowU.refl _)
theorem Pe.sent1 {S' : List Sm} {n : Nat} {x : Sm} (h : Pe W M l0 l1 A B S T es) (hM : 1 ≤ M) {kn : Nat} (hs : NowS T S' l1 kn) (hx : S'[n]? = some x) (s : ByteArray) (iv : Value) (b : List Nat) : Pe W M l0 l1 A (sendN B s) S (S'.set n { x with iv := iv, inn := x.inn ++ [b] }) es := by
  have h1 := h.nowed1 hs
  obtain ⟨g1, g2⟩ := set_in hx iv (x.inn ++ [b])
  exact h1.act1 ((h1.f1.sent hM s).keys g1) (h1.f0.recv (Nat.le_refl _) g1 g2) (sendN_lg B l1 s) g1
theorem Pe.tick1 {fs : List Fe} (h : Pe W M l0 l1 A B S T es) (hd : Pd W M l0 l1 A B S T es k) (hf : fs.map Fe.f = outF B) : Pe W M l0 l1 A (tickL B) S T (es ++ fs) := by
  obtain ⟨fl, lg⟩ := h.f1.tick hd.wb hd.m1.1
  have h1 := h.act1 fl h.f0 lg (GrowU.refl _)
  refine ⟨h1.f0, h1.f1, fun e he => ?_⟩
  rcases List.mem_append.1 he with q | q
  · exact h1.e e q
  · have hm : e.f ∈ outF B := by rw [← hf]; exact List.mem_map_of_mem q
    have hx := h.f1.outs hd.b e.f hm
    have hfr : e.f.fr = 5 := (outs_fr e.f hm).trans hd.b.me
    exact ⟨fun q => (by rw [hfr] at q; cases q), fun _ => hx⟩
theorem Pe.hear1 {S' : List Sm} {mine yours seq ack : Nat} {bo : List Nat} (h : Pe W M l0 l1 A B S T es) (hd : Pd W M l0 l1 A B S T es k) (hfo : Fok 0 5 l0 S ⟨0, 5, mine, yours, seq, ack, bo⟩) (hfe : Fex A l0 S ⟨0, 5, mine, yours, seq, ack, bo⟩) (hh : HearS B T S' l1 mine yours seq ack bo) : Pe W M l0 l1 A (hearN B mine yours seq ack) S S' es := by
  have hm := hfo.fit.2.2.1
  have hm1 : 1 ≤ mine := hm.1
  obtain ⟨fl, lg⟩ := h.f1.hearX hd.b hd.m1.1 hfe hfo.mine (fun e => by have e2 : mine = 0 := e; omega)
  obtain ⟨gr, gw⟩ := h.f0.hearY hd.b hfo hfe hh hm.1 hm.2
  exact h.act1 (fl.keys gw) gr lg gw
end
end Go.Proofs.YtbcpoejpbhpcbaaDoor
namespace Go.Proofs.YtbcpoejpbhpcbaaDoor
open Go.RowKit

/-! All frames of one tick, heard one behind the other -/
def hearAll (Y : Lk) (fs : List Fr) : Lk := fs.foldl (fun Y f => hearN Y f.mine f.yours f.seq f.ack) Y
/-- What the numbers do to what was handed up. -/
def handF (h : Nat) (qs : List Nat) : Nat := qs.foldl (fun h q => if q = h + 1 then h + 1 else h) h
theorem cnt_drop (a : Nat) : ∀ ms : List (Nat × ByteArray), cnt a (ms.drop (cnt a ms)) = 0
  | [] => rfl
  | m :: ms => by
    by_cases h : m.1 ≤ a
    · have e : cnt a (m :: ms) = cnt a ms + 1 := by show (if m.1 ≤ a then cnt a ms + 1 else 0) = _; rw [if_pos h]
      rw [e, List.drop_succ_cons]
      exact cnt_drop a ms
    · have e : cnt a (m :: ms) = 0 := by show (if m.1 ≤ a then cnt a ms + 1 else 0) = _; rw [if_neg h]
      rw [e, List.drop_zero]
      exact e
/-- A link that has heard. -/
structure Hrd (Y Z : Lk) (a : Nat) (qs : List Nat) : Prop where
  me : Z.me = Y.me
  other : Z.other = Y.other
  life : Z.life = Y.life
  known : Z.known = Y.known
  window : Z.window = Y.window
  numbered : Z.numbered = Y.numbered
  gone : Z.gone = Y.gone
  left : Z.left = Y.left
  asked : Z.asked = Y.asked
  row : Z.row = if qs = [] then Y.row else Y.row.drop (cnt a Y.row)
  handed : Z.handed = handF Y.handed qs
  ack : Z.ack = (Y.ack || qs.any (fun q => decide (q ≠ 0)))
theorem rc_one (Y : Lk) (a q : Nat) (ha : a ≤ Y.gone) : Hrd Y (bodyL (ackL { Y with paced := false } a) q) a [q] := by
  have e : ackL { Y with paced := false } a = { Y with paced := false, row := Y.row.drop (cnt a Y.row) } := by
    unfold ackL
    rw [if_pos (show a ≤ ({ Y with paced := false } : Lk).gone from ha)]
    rfl
  rw [e]
  unfold bodyL
  by_cases h0 : q = 0
  · rw [if_pos h0]
    refine ⟨rfl, rfl, rfl, rfl, rfl, rfl, rfl, rfl, rfl, by rw [if_neg (by simp)], ?_, ?_⟩
    · show Y.handed = if q = Y.handed + 1 then Y.handed + 1 else Y.handed
      rw [if_neg (by omega)]
    · show Y.ack = (Y.ack || ([q].any fun q => decide (q ≠ 0)))
      simp [h0]
  · rw [if_neg h0]
    by_cases h1 : q = Y.handed + 1
    · rw [if_pos (show q = ({ Y with paced := false, row := Y.row.drop (cnt a Y.row) } : Lk).handed + 1 from h1)]
      refine ⟨rfl, rfl, rfl, rfl, rfl, rfl, rfl, rfl, rfl, by rw [if_neg (by simp)], ?_, ?_⟩
      · show Y.handed + 1 = if q = Y.handed + 1 then Y.handed + 1 else Y.handed
        rw [if_pos h1]
      · show true = (Y.ack || ([q].any fun q => decide (q ≠ 0)))
        simp [h0]
    · rw [if_neg (show ¬ q = ({ Y with paced := false, row := Y.row.drop (cnt a Y.row) } : Lk).handed + 1 from h1)]
      refine ⟨rfl, rfl, rfl, rfl, rfl, rfl, rfl, rfl, rfl, by rw [if_neg (by simp)], ?_, ?_⟩
      · show Y.handed = if q = Y.handed + 1 then Y.handed + 1 else Y.handed
        rw [if_neg h1]
      · show true = (Y.ack || ([q].any fun q => decide (q ≠ 0)))
        simp [h0]
theorem Hrd.trans {Y Z U : Lk} {a : Nat} {qs ps : List Nat} (h : Hrd Y Z a qs) (k : Hrd Z U a ps) : Hrd Y U a (qs ++ ps) := by
  refine ⟨k.me.trans h.me, k.other.trans h.other, k.life.trans h.life, k.known.trans h.known, k.window.trans h.window, k.numbered.trans h.numbered, k.gone.trans h.gone, k.left.trans h.left, k.asked.trans h.asked, ?_, ?_, ?_⟩
  · rw [k.row, h.row]
    by_cases h1 : qs = []
    · subst h1
      by_cases h2 : ps = []
      · subst h2; simp
      · simp [h2]
    · by_cases h2 : ps = []
      · subst h2; simp [h1]
      · rw [if_neg h2, if_neg h1, if_neg (by simp [h1]), cnt_drop, List.drop_zero]
  · rw [k.handed, h.handed]
    unfold handF
    rw [List.foldl_append]
  · rw [k.ack, h.ack, List.any_append, Bool.or_assoc]
theorem Hrd.refl (Y : Lk) (a : Nat) : Hrd Y Y a [] := ⟨rfl, rfl, rfl, rfl, rfl, rfl, rfl, rfl, rfl, by rw [if_pos rfl], rfl, by simp⟩
/-- Frames of the session, whatever their numbers. -/
theorem hear_all (a : Nat) : ∀ (fs : List Fr) (Y : Lk), a ≤ Y.gone → (∀ f ∈ fs, f.mine = Y.known ∧ f.yours = Y.life ∧ f.ack = a) → Hrd Y (hearAll Y fs) a (fs.map (fun f => f.seq))
  | [], Y, _, _ => Hrd.refl Y a
  | f :: fs, Y, ha, h => by
    obtain ⟨h1, h2, h3⟩ := h f (by simp)
    have e : hearN Y f.mine f.yours f.seq f.ack = bodyL (ackL { Y with paced := false } a) f.seq := by
      have e1 : hear1 Y f.mine = Y := by unfold hear1; rw [if_neg (by omega)]
      unfold hearN hrL
      rw [if_pos (by omega), if_pos h2, e1, h3]
    have h4 := rc_one Y a f.seq ha
    rw [← e] at h4
    have h5 := hear_all a fs (hearN Y f.mine f.yours f.seq f.ack) (by rw [h4.gone]; exact ha) (fun g hg => by
      rw [h4.known, h4.life]
      exact h g (List.mem_cons_of_mem _ hg))
    exact h4.trans h5
theorem handF_range : ∀ (n p h : Nat), p ≤ h → h ≤ p + n → handF h (List.range' (p + 1) n) = p + n
  | 0, p, h, h1, h2 => by show h = p + 0; omega
  | n + 1, p, h, h1, h2 => by
    show handF (if p + 1 = h + 1 then h + 1 else h) (List.range' (p + 1 + 1) n) = _
    by_cases e : p = h
    · rw [if_pos (by omega), handF_range n (p + 1) (h + 1) (by omega) (by omega)]; omega
    · rw [if_neg (by omega), handF_range n (p + 1) h (by omega) (by omega)]; omega
theorem handF_past : ∀ (n p h : Nat), h < p → handF h (List.range' (p + 1) n) = h
  | 0, p, h, _ => rfl
  | n + 1, p, h, h1 => by
    show handF (if p + 1 = h + 1 then h + 1 else h) (List.range' (p + 1 + 1) n) = _
    rw [if_neg (by omega)]
    exact handF_past n (p + 1) h (by omega)
theorem filter_range (g : Nat) : ∀ (n a : Nat), a ≤ g + 1 → (List.range' a n).filter (fun q => decide (g < q)) = List.range' (g + 1) (a + n - (g + 1))
  | 0, a, h => by
    have e : a + 0 - (g + 1) = 0 := by omega
    rw [e]; rfl
  | n + 1, a, h => by
    rw [List.range'_succ, List.filter_cons]
    by_cases e : g < a
    · rw [if_pos (by simpa using e)]
      obtain rfl : a = g + 1 := by omega
      have e2 : g + 1 + (n + 1) - (g + 1) = n + 1 := by omega
      rw [e2, List.range'_succ]
      congr 1
      rw [List.filter_eq_self]
      intro q hq
      have := (List.mem_range'_1.1 hq).1
      simp; omega
    · rw [if_neg (by simpa using e), filter_range g n (a + 1) (by omega)]
      congr 1
      omega
end Go.Proofs.YtbcpoejpbhpcbaaDoor
namespace Go.Proofs.YtbcpoejpbhpcbaaDoor
open Go.RowKit

/-! A side speaks: what it sends at a tick is heard -/
structure Dr (W : Nat) (X Y : Lk) : Prop where
  kx : X.known = Y.life
  ky : Y.known = X.life
  k0 : X.known ≠ 0
  wn : X.window = (W : Int)
  a1 : X.numbered ≤ X.row.length + Y.handed
  a2 : Y.handed ≤ X.gone
  p3 : X.gone + X.row.length ≤ X.numbered + W
  p4 : ∀ j m, X.row[j]? = some m → m.1 + X.row.length = X.numbered + j + 1
  p5 : X.row.length ≤ X.numbered
  gn : X.gone ≤ X.numbered
def Sy (X Y : Lk) : Prop := X.numbered = X.row.length + Y.handed ∧ X.gone = Y.handed
def Se (W : Nat) (X Y : Lk) : Prop := X.gone = Y.handed ∧ X.gone + X.row.length = X.numbered + min W X.row.length ∧ (X.row.length = 0 ∨ Y.ack = true)
section
variable {W : Nat} {X Y : Lk}
theorem Dr.wins (d : Dr W X Y) : (inWin X).map (fun m => m.1) = List.range' (X.numbered - X.row.length + 1) (min W X.row.length) := by
  have hW : X.window.toNat = W := by have := d.wn; omega
  have p5 := d.p5
  unfold inWin
  rw [if_neg d.k0, hW]
  apply List.ext_getElem?
  intro j
  rw [List.getElem?_map, List.getElem?_take]
  by_cases hj : j < W ∧ j < X.row.length
  · obtain ⟨m, hm⟩ : ∃ m, X.row[j]? = some m := ⟨_, List.getElem?_eq_getElem hj.2⟩
    rw [if_pos hj.1, hm, List.getElem?_range' (by omega)]
    have := d.p4 j m hm
    simp only [Option.map_some]
    congr 1
    omega
  · have e : (List.range' (X.numbered - X.row.length + 1) (min W X.row.length))[j]? = none := List.getElem?_eq_none (by simp; omega)
    rw [e]
    by_cases h1 : j < W
    · rw [if_pos h1, List.getElem?_eq_none (by omega)]; rfl
    · rw [if_neg h1]; rfl
def bseq (X : Lk) : List Nat := (bodF X).map (fun f => f.seq)
theorem bseq_eq (X : Lk) : bseq X = ((inWin X).map (fun m => m.1)).filter (fun q => tmL X || decide (X.gone < q)) := by
  unfold bseq bodF
  rw [List.map_map, List.filter_map]
  rfl
theorem Dr.bs (d : Dr W X Y) : (tmL X = true → bseq X = List.range' (X.numbered - X.row.length + 1) (min W X.row.length)) ∧ (tmL X = false → bseq X = List.range' (X.gone + 1) (X.numbered - X.row.length + min W X.row.length - X.gone)) := by
  have a1 := d.a1
  have a2 := d.a2
  have p5 := d.p5
  rw [bseq_eq, d.wins]
  refine ⟨fun h => ?_, fun h => ?_⟩
  · rw [h, List.filter_eq_self]
    intro q _; rfl
  · rw [h]
    have e : (fun q => false || decide (X.gone < q)) = fun q => decide (X.gone < q) := by funext q; simp
    rw [e, filter_range X.gone _ _ (by omega)]
    congr 1
    omega
theorem out_seq (X : Lk) : (outF X).map (fun f => f.seq) = if bseq X = [] then (if sayL X = true then [0] else []) else bseq X := by
  unfold outF
  by_cases h : bodF X = []
  · have hb : bseq X = [] := by unfold bseq; rw [h]; rfl
    rw [if_pos h, if_pos hb]
    split <;> rfl
  · have hb : ¬ bseq X = [] := by unfold bseq; simpa using h
    rw [if_neg h, if_neg hb]
    rfl
theorem out_like (X : Lk) : ∀ f ∈ outF X, f.mine = X.life ∧ f.yours = X.known ∧ f.ack = X.handed := fun f h => by
  unfold outF at h
  split at h
  · split at h
    · simp at h; subst h; exact ⟨rfl, rfl, rfl⟩
    · cases h
  · unfold bodF at h
    obtain ⟨m, _, rfl⟩ := List.mem_map.1 h
    exact ⟨rfl, rfl, rfl⟩
theorem say_out (X : Lk) (h : X.ack = true ∨ X.asked = true) : outF X ≠ [] := by
  have hs : sayL X = true := by unfold sayL; rcases h with q | q <;> simp [q]
  intro e
  have := out_seq X
  rw [e] at this
  simp only [List.map_nil] at this
  by_cases hb : bseq X = []
  · rw [if_pos hb, if_pos hs] at this; cases this
  · rw [if_neg hb] at this; exact hb this.symm
theorem Dr.gone (d : Dr W X Y) : (tickL X).gone = X.numbered - X.row.length + min W X.row.length := by
  obtain ⟨-, -, -, -, -, -, -, -, -, -, e11, -, -⟩ := tick_facts X
  have hg : (tickL X).gone = ((inWin X).filter (goN (tmL X) X.gone)).foldl (fun a m => max a m.1) X.gone := e11
  obtain ⟨g1, g2, g3⟩ := foldl_max_le ((inWin X).filter (goN (tmL X) X.gone)) X.gone
  have hw := d.wins
  have a1 := d.a1
  have a2 := d.a2
  have p3 := d.p3
  have p5 := d.p5
  have gn := d.gn
  have hin : ∀ m ∈ inWin X, m.1 ≤ X.numbered - X.row.length + min W X.row.length := fun m hm => by
    have h1 : m.1 ∈ (inWin X).map (fun m => m.1) := List.mem_map_of_mem hm
    rw [hw] at h1
    have := (List.mem_range'_1.1 h1).2
    omega
  have hup := g3 (X.numbered - X.row.length + min W X.row.length) (by omega) (fun m hm => hin m (List.mem_filter.1 hm).1)
  rw [hg]
  refine Nat.le_antisymm hup ?_
  by_cases h0 : X.numbered - X.row.length + min W X.row.length ≤ X.gone
  · omega
  · have h1 : X.numbered - X.row.length + min W X.row.length ∈ (inWin X).map (fun m => m.1) := by
      rw [hw]
      exact List.mem_range'_1.2 (by omega)
    obtain ⟨m, hm, e⟩ := List.mem_map.1 h1
    have := g2 m (List.mem_filter.2 ⟨hm, by unfold goN; rw [e]; simp; omega⟩)
    omega
theorem handF_zero (h : Nat) : handF h [0] = h := by show (if 0 = h + 1 then h + 1 else h) = h; rw [if_neg (by omega)]
theorem Dr.hand (d : Dr W X Y) : Y.handed ≤ handF Y.handed ((outF X).map (fun f => f.seq)) ∧ handF Y.handed ((outF X).map (fun f => f.seq)) ≤ X.numbered - X.row.length + min W X.row.length ∧ (tmL X = true ∨ X.gone = Y.handed → handF Y.handed ((outF X).map (fun f => f.seq)) = X.numbered - X.row.length + min W X.row.length) := by
  have hb := d.bs
  have a1 := d.a1
  have a2 := d.a2
  have p3 := d.p3
  have p5 := d.p5
  have gn := d.gn
  have hz : handF Y.handed ((outF X).map (fun f => f.seq)) = handF Y.handed (bseq X) := by
    rw [out_seq]
    by_cases h : bseq X = []
    · rw [if_pos h, h]
      split
      · exact handF_zero _
      · rfl
    · rw [if_neg h]
  rw [hz]
  cases ht : tmL X with
  | true =>
    rw [hb.1 ht, handF_range _ _ _ (by omega) (by omega)]
    exact ⟨by omega, Nat.le_refl _, fun _ => rfl⟩
  | false =>
    rw [hb.2 ht]
    by_cases e : X.gone = Y.handed
    · rw [handF_range _ _ _ (by omega) (by omega)]
      exact ⟨by omega, by omega, fun _ => by omega⟩
    · rw [handF_past _ _ _ (by omega)]
      exact ⟨Nat.le_refl _, by omega, fun q => by rcases q with q | q; cases q; exact absurd q e⟩
structure Spoke (W : Nat) (X Y X' Y' : Lk) : Prop where
  dx : Dr W X' Y'
  dy : Dr W Y' X'
  sy : Sy X Y → Se W X' Y'
  se : Se W Y X → Sy Y' X' ∧ Y'.row.length = Y.row.length - min W Y.row.length
  wait : Sy X Y ∨ Se W X' Y' ∨ X'.left + 1 ≤ X.left
  left : Y'.left = Y.left
  less : Y'.row.length ≤ Y.row.length
  row : X'.row.length = X.row.length
theorem speak (dx : Dr W X Y) (dy : Dr W Y X) (hW : 1 ≤ W) : Spoke W X Y (tickL X) (hearAll Y (outF X)) := by
  obtain ⟨-, -, e3, e4, e5, e6, e7, e8, -, -, -, e12, -⟩ := tick_facts X
  have eg := dx.gone
  obtain ⟨q1, q2, q3⟩ := dx.hand
  have H := hear_all X.handed (outF X) Y dy.a2 (fun f hf => by
    obtain ⟨h1, h2, h3⟩ := out_like X f hf
    exact ⟨h1.trans dx.ky.symm, h2.trans dx.kx, h3⟩)
  rw [← H.handed] at q1 q2 q3
  have a1 := dx.a1
  have a2 := dx.a2
  have p3 := dx.p3
  have p5 := dx.p5
  have gn := dx.gn
  have b1 := dy.a1
  have b2 := dy.a2
  have r3 := dy.p3
  have r5 := dy.p5
  have rg := dy.gn
  have hcnt : cnt X.handed Y.row = min Y.row.length (X.handed - (Y.numbered - Y.row.length)) := @cnt_rows X.handed Y.row (Y.numbered - Y.row.length) (fun j m hm => by have := dy.p4 j m hm; omega)
  have hrow : (hearAll Y (outF X)).row = (if (outF X).map (fun f => f.seq) = [] then Y.row else Y.row.drop (cnt X.handed Y.row)) := H.row
  have hnil : (outF X).map (fun f => f.seq) = [] ↔ outF X = [] := List.map_eq_nil_iff
  have hlen : (hearAll Y (outF X)).row.length = if outF X = [] then Y.row.length else Y.numbered - X.handed := by
    rw [hrow]
    by_cases h : outF X = []
    · rw [if_pos (hnil.2 h), if_pos h]
    · rw [if_neg (fun q => h (hnil.1 q)), if_neg h, List.length_drop, hcnt]; omega
  have hle : (hearAll Y (outF X)).row.length ≤ Y.row.length := by rw [hlen]; split <;> omega
  have hack : bseq X ≠ [] → (hearAll Y (outF X)).ack = true := fun hb => by
    have h1 : (outF X).map (fun f => f.seq) = bseq X := by rw [out_seq, if_neg hb]
    have hpos : ∀ q ∈ bseq X, q ≠ 0 := fun q hq => by
      have hbs := dx.bs
      cases ht : tmL X with
      | true => rw [hbs.1 ht] at hq; have := (List.mem_range'_1.1 hq).1; omega
      | false => rw [hbs.2 ht] at hq; have := (List.mem_range'_1.1 hq).1; omega
    rw [H.ack, h1]
    obtain ⟨q, hq⟩ := List.exists_mem_of_ne_nil _ hb
    have h2 : ((bseq X).any fun q => decide (q ≠ 0)) = true := List.any_eq_true.2 ⟨q, hq, by simpa using hpos q hq⟩
    rw [h2, Bool.or_true]
  have dx' : Dr W (tickL X) (hearAll Y (outF X)) := ⟨by rw [e4, H.life]; exact dx.kx, by rw [e3, H.known]; exact dx.ky, by rw [e4]; exact dx.k0, by rw [e5]; exact dx.wn, by rw [e6, e8]; omega, by rw [eg]; exact q2, by rw [eg, e6, e8]; omega, by rw [e6, e8]; exact dx.p4, by rw [e6, e8]; exact dx.p5, by rw [eg, e6]; omega⟩
  have dy' : Dr W (hearAll Y (outF X)) (tickL X) := by
    refine ⟨by rw [e3, H.known]; exact dy.kx, by rw [e4, H.life]; exact dy.ky, by rw [H.known]; exact dy.k0, by rw [H.window]; exact dy.wn, ?_, by rw [e7, H.gone]; exact dy.a2, ?_, fun j m hm => ?_, ?_, by rw [H.gone, H.numbered]; exact dy.gn⟩
    · rw [H.numbered, e7, hlen]; split <;> omega
    · rw [H.gone, H.numbered, hlen]; split <;> omega
    · rw [H.numbered, hlen]
      rw [hrow] at hm
      by_cases h : outF X = []
      · rw [if_pos (hnil.2 h)] at hm
        rw [if_pos h]
        exact dy.p4 j m hm
      · rw [if_neg (fun q => h (hnil.1 q)), List.getElem?_drop] at hm
        rw [if_neg h]
        have h4 := dy.p4 _ m hm
        have hj := (List.getElem?_eq_some_iff.1 hm).1
        omega
    · rw [H.numbered, hlen]; split <;> omega
  have hse : (tmL X = true ∨ X.gone = Y.handed) → (X.row.length = 0 ∨ bseq X ≠ []) → Se W (tickL X) (hearAll Y (outF X)) := fun ht hb => by
    refine ⟨by rw [eg]; exact (q3 ht).symm, by rw [eg, e6, e8]; omega, ?_⟩
    rcases hb with q | q
    · exact Or.inl (by rw [e8]; exact q)
    · exact Or.inr (hack q)
  have hbne : tmL X = true → X.row.length ≠ 0 → bseq X ≠ [] := fun ht hl he => by
    have := congrArg List.length he
    rw [dx.bs.1 ht, List.length_range', List.length_nil] at this
    omega
  refine ⟨dx', dy', fun hs => ?_, fun hs => ?_, ?_, H.left, hle, by rw [e8]⟩
  · refine hse (Or.inr hs.2) ?_
    by_cases h0 : X.row.length = 0
    · exact Or.inl h0
    · right
      cases ht : tmL X with
      | true => exact hbne ht h0
      | false =>
        intro he
        have := congrArg List.length he
        rw [dx.bs.2 ht, List.length_range', List.length_nil] at this
        have h6 := hs.1
        have h7 := hs.2
        omega
  · obtain ⟨s1, s2, s3⟩ := hs
    have hne : Y.row.length = 0 ∨ outF X ≠ [] := s3.imp id (fun q => say_out X (Or.inl q))
    have hl2 : (hearAll Y (outF X)).row.length = Y.row.length - min W Y.row.length := by
      rw [hlen]
      by_cases h : outF X = []
      · rw [if_pos h]
        rcases hne with q | q
        · omega
        · exact absurd h q
      · rw [if_neg h]; omega
    exact ⟨⟨by rw [H.numbered, e7, hl2]; omega, by rw [H.gone, e7]; exact s1⟩, hl2⟩
  · by_cases hs : Sy X Y
    · exact Or.inl hs
    · have hl : X.row.length ≠ 0 := fun h0 => hs ⟨by omega, by omega⟩
      by_cases h1 : X.left ≤ 1
      · have ht : tmL X = true := by unfold tmL lnow; simp [h1]; left; omega
        exact Or.inr (Or.inl (hse (Or.inl ht) (Or.inr (hbne ht hl))))
      · right; right
        rw [e12]
        unfold tkR ltick
        rw [if_pos (by simp; left; omega), if_pos (by omega)]
        show X.left - 1 + 1 ≤ X.left
        omega
end
end Go.Proofs.YtbcpoejpbhpcbaaDoor
namespace Go.Proofs.YtbcpoejpbhpcbaaDoor
open Go.RowKit

/-! Turns -/
def turnB1 (A B : Lk) : Lk := hearAll B (outF A)
def turnB (A B : Lk) : Lk := tickL (turnB1 A B)
def turnA (A B : Lk) : Lk := hearAll (tickL A) (outF (turnB1 A B))
def Bdd (W M n t len : Nat) : Prop := len = 0 ∨ len + W * (t - (M + 1)) ≤ n
structure Tn (W M n t : Nat) (A B : Lk) : Prop where
  d0 : Dr W A B
  d1 : Dr W B A
  la : A.row.length ≤ n
  lb : B.row.length ≤ n
  pa : (Sy A B ∧ Bdd W M n t A.row.length) ∨ A.left + t ≤ M
  pb : (Se W B A ∧ Bdd W M n t B.row.length) ∨ B.left + t ≤ M
theorem bd_step {W M n t len : Nat} (h : Bdd W M n t len) : Bdd W M n (t + 1) (len - min W len) := by
  rcases h with q | q
  · left; omega
  · by_cases e : len ≤ W
    · left; omega
    · right
      have h1 : W * (t + 1 - (M + 1)) ≤ W * (t - (M + 1)) + W := by
        have : W * (t + 1 - (M + 1)) ≤ W * (t - (M + 1) + 1) := Nat.mul_le_mul_left W (by omega)
        rw [Nat.mul_add, Nat.mul_one] at this
        exact this
      have h2 : min W len = W := by omega
      rw [h2]
      omega
theorem bd_wait {W M n t len : Nat} (ht : t ≤ M) (hl : len ≤ n) : Bdd W M n (t + 1) len := by
  right
  have e : t + 1 - (M + 1) = 0 := by omega
  rw [e]
  omega
theorem Tn.turn {W M n t : Nat} {A B : Lk} (h : Tn W M n t A B) (hW : 1 ≤ W) : Tn W M n (t + 1) (turnA A B) (turnB A B) := by
  have s1 := speak h.d0 h.d1 hW
  have s2 := speak s1.dy s1.dx hW
  have la := h.la
  have lb := h.lb
  have q1 := s1.less
  have q2 := s2.less
  have q3 := s1.row
  have q4 := s2.row
  have hs2 : Spoke W (turnB1 A B) (tickL A) (turnB A B) (turnA A B) := s2
  refine ⟨hs2.dy, hs2.dx, ?_, ?_, ?_, ?_⟩
  · show (hearAll (tickL A) (outF (hearAll B (outF A)))).row.length ≤ n; omega
  · show (tickL (hearAll B (outF A))).row.length ≤ n; omega
  · have key : Se W (tickL A) (turnB1 A B) → Sy (turnA A B) (turnB A B) ∧ (turnA A B).row.length = A.row.length - min W A.row.length := fun q => by
      have := hs2.se q
      rw [q3] at this
      exact this
    rcases h.pa with ⟨q, b⟩ | q
    · obtain ⟨k1, k2⟩ := key (s1.sy q)
      exact Or.inl ⟨k1, by rw [k2]; exact bd_step b⟩
    · rcases s1.wait with r | r | r
      · obtain ⟨k1, k2⟩ := key (s1.sy r)
        exact Or.inl ⟨k1, bd_wait (by omega) (by omega)⟩
      · obtain ⟨k1, k2⟩ := key r
        exact Or.inl ⟨k1, bd_wait (by omega) (by omega)⟩
      · right
        have := hs2.left
        omega
  · have hr : (turnB A B).row.length = (turnB1 A B).row.length := hs2.row
    rcases h.pb with ⟨q, b⟩ | q
    · obtain ⟨k1, k2⟩ := s1.se q
      refine Or.inl ⟨hs2.sy k1, ?_⟩
      rw [hr, show (turnB1 A B).row.length = _ from k2]
      exact bd_step b
    · have hl : (turnB1 A B).left = B.left := s1.left
      have hn : (turnB A B).row.length ≤ n := by rw [hr]; show (hearAll B (outF A)).row.length ≤ n; omega
      rcases hs2.wait with r | r | r
      · exact Or.inl ⟨hs2.sy r, bd_wait (by omega) hn⟩
      · exact Or.inl ⟨r, bd_wait (by omega) hn⟩
      · right; omega
theorem Tn.over {W M n c : Nat} {A B : Lk} (h : Tn W M n (M + 2 + c) A B) (hW : 1 ≤ W) (hc : n ≤ W * c) : A.row.length = 0 ∧ B.row.length = 0 ∧ A.numbered = B.handed ∧ B.numbered = A.handed := by
  have hb : ∀ len, Bdd W M n (M + 2 + c) len → len = 0 := fun len q => by
    rcases q with q | q
    · exact q
    · exfalso
      have e : M + 2 + c - (M + 1) = c + 1 := by omega
      rw [e, Nat.mul_add, Nat.mul_one] at q
      omega
  rcases h.pa with ⟨s, b⟩ | q
  · rcases h.pb with ⟨s', b'⟩ | q
    · have e1 := hb _ b
      have e2 := hb _ b'
      obtain ⟨s1, s2⟩ := s
      obtain ⟨t1, t2, _⟩ := s'
      exact ⟨e1, e2, by omega, by omega⟩
    · omega
  · omega
/-! What is known of the other's life -/
theorem hearN_known (Y : Lk) (m y q a : Nat) (h : Y.known ≤ m) : (hearN Y m y q a).known = m ∧ (hearN Y m y q a).asked = Y.asked ∧ (hearN Y m y q a).life = Y.life := by
  have h1 : (hear1 Y m).known = m ∧ (hear1 Y m).asked = Y.asked ∧ (hear1 Y m).life = Y.life := by
    unfold hear1
    split
    · exact ⟨rfl, rfl, rfl⟩
    · exact ⟨by omega, rfl, rfl⟩
  have ha : ∀ L : Lk, (ackL L a).known = L.known ∧ (ackL L a).asked = L.asked ∧ (ackL L a).life = L.life := fun L => by
    unfold ackL
    split <;> exact ⟨rfl, rfl, rfl⟩
  have hb : ∀ L : Lk, (bodyL L q).known = L.known ∧ (bodyL L q).asked = L.asked ∧ (bodyL L q).life = L.life := fun L => by
    unfold bodyL
    split
    · exact ⟨rfl, rfl, rfl⟩
    · split <;> exact ⟨rfl, rfl, rfl⟩
  unfold hearN hrL
  rw [if_pos h]
  split
  · rw [(hb _).1, (hb _).2.1, (hb _).2.2, (ha _).1, (ha _).2.1, (ha _).2.2]
    exact h1
  · exact h1
theorem hearAll_known (m : Nat) : ∀ (fs : List Fr) (Y : Lk), Y.known ≤ m → (∀ f ∈ fs, f.mine = m) → (fs ≠ [] → (hearAll Y fs).known = m) ∧ (hearAll Y fs).asked = Y.asked ∧ (hearAll Y fs).life = Y.life
  | [], Y, _, _ => ⟨fun h => absurd rfl h, rfl, rfl⟩
  | f :: fs, Y, hy, h => by
    have e := h f (by simp)
    obtain ⟨h1, h2, h3⟩ := hearN_known Y f.mine f.yours f.seq f.ack (by rw [e]; exact hy)
    obtain ⟨k1, k2, k3⟩ := hearAll_known m fs (hearN Y f.mine f.yours f.seq f.ack) (by rw [h1, e]; exact Nat.le_refl _) (fun g hg => h g (List.mem_cons_of_mem _ hg))
    refine ⟨fun _ => ?_, k2.trans h2, k3.trans h3⟩
    by_cases hf : fs = []
    · subst hf; show (hearN Y f.mine f.yours f.seq f.ack).known = m; rw [h1, e]
    · exact k1 hf
/-- Both are asked for a word: behind a turn each knows the other. -/
theorem asked_turn {A B : Lk} (ha : A.known ≤ B.life) (hb : B.known ≤ A.life) (h1 : A.asked = true) (h2 : B.asked = true) : (turnA A B).known = B.life ∧ (turnB A B).known = A.life := by
  have o1 := say_out A (Or.inr h1)
  obtain ⟨k1, k2, k3⟩ := hearAll_known A.life (outF A) B hb (fun f hf => (out_like A f hf).1)
  have o2 := say_out (turnB1 A B) (Or.inr (show (hearAll B (outF A)).asked = true by rw [k2]; exact h2))
  have hl : (turnB1 A B).life = B.life := k3
  obtain ⟨-, -, -, e4, -⟩ := tick_facts A
  obtain ⟨-, -, -, f4, -⟩ := tick_facts (turnB1 A B)
  obtain ⟨j1, -, -⟩ := hearAll_known B.life (outF (turnB1 A B)) (tickL A) (by rw [e4]; exact ha) (fun f hf => (out_like _ f hf).1.trans hl)
  exact ⟨j1 o2, f4.trans (k1 o1)⟩
theorem ceil_le (n W : Nat) (hW : 1 ≤ W) : n ≤ W * ((n + W - 1) / W) := by
  have h1 := Nat.div_add_mod (n + W - 1) W
  have h2 := Nat.mod_lt (n + W - 1) (show W > 0 by omega)
  generalize W * ((n + W - 1) / W) = p at *
  omega
section
variable {W M l0 l1 k : Nat} {A B : Lk} {S T : List Sm} {es : List Fe}
theorem flow_dr {me other me' other' : Int} {lx ly : Nat} {X Y : Lk} (f : Flow W M X lx S ly T) (hx : Sok me other X lx k S) (hy : Sok me' other' Y ly k T) (hw : X.window = (W : Int)) (k1 : X.known = ly) (k2 : Y.known = lx) : Dr W X Y := by
  have l1 := hx.l1
  have l2 := hy.l1
  have hk : X.known ≠ 0 := by omega
  have hk2 : Y.known ≠ 0 := by omega
  refine ⟨k1.trans hy.lf.symm, k2.trans hx.lf.symm, hk, hw, ?_, ?_, f.p3, f.p4, f.p5, f.gn⟩
  · rcases f.p1 hk with q | ⟨y, hyy, a1, a2, a3⟩
    · omega
    · have := (hy.cur hk2 y hyy (a1.trans k1) (a2.trans k2.symm)).2.1
      omega
  · by_cases hex : ∃ y ∈ T, y.mine = ly ∧ y.yours = Y.known
    · obtain ⟨y, hyy, a1, a2⟩ := hex
      have h1 := (hy.cur hk2 y hyy a1 a2).2.1
      have h2 := f.p2 hk y hyy (a1.trans k1.symm) (a2.trans k2)
      omega
    · have := (hy.non hk2 (fun y hyy q => hex ⟨y, hyy, q.1, q.2⟩)).2.1
      omega
theorem tn_start (hd : Pd W M l0 l1 A B S T es k) (he : Pe W M l0 l1 A B S T es) (k1 : A.known = l1) (k2 : B.known = l0) (n : Nat) (ha : A.row.length ≤ n) (hb : B.row.length ≤ n) : Tn W M n 0 A B :=
  ⟨flow_dr he.f0 hd.a hd.b hd.wa k1 k2, flow_dr he.f1 hd.b hd.a hd.wb k2 k1, ha, hb, Or.inr he.f0.left, Or.inr he.f1.left⟩
theorem flow_new (me other : Int) (ly : Nat) (hM : 1 ≤ M ∧ M ≤ 64) : Flow W M (Lk.new me other 1 (W : Int) (M : Int)) 1 [] ly [] := by
  refine ⟨Nat.zero_le _, fun _ => ⟨rfl, rfl⟩, fun hk => absurd rfl hk, fun hk => absurd rfl hk, Nat.zero_le _, fun j m hm => (by cases hm), Nat.le_refl _, Nat.le_refl _, fun y hy => (by cases hy), ?_, ?_, Nat.zero_le _⟩
  · show (if 1 ≤ (M : Int) ∧ (M : Int) ≤ 64 then some (M : Int).toNat else none) = some M
    rw [if_pos (by omega)]; rfl
  · show 1 ≤ (if 1 ≤ (M : Int) ∧ (M : Int) ≤ 64 then 1 else 0) ∧ (if 1 ≤ (M : Int) ∧ (M : Int) ≤ 64 then 1 else 0) ≤ M
    rw [if_pos (by omega)]; omega
theorem pe_new (hM : 1 ≤ M ∧ M ≤ 64) : Pe W M 1 1 (Lk.new 0 5 1 (W : Int) (M : Int)) (Lk.new 5 0 1 (W : Int) (M : Int)) [] [] [] := ⟨flow_new 0 5 1 hM, flow_new 5 0 1 hM, fun e he => (by cases he)⟩
end
end Go.Proofs.YtbcpoejpbhpcbaaDoor
