import Derived.Test.YtllpikijakilnaaRwO
import Derived.Test.YtllpikijakilnaaZLE
import Derived.Deep.RegionHeld3
namespace Go.Proofs.Ytllpikijakilnaa
open Go.RowKit
open Z (Sli SlOk Acd AcdOk)

/-- The lines of an act are numbers that a program has. -/
structure AcWf (a : Acd) : Prop where
  lines : ∀ x ∈ a.lines.xs, LinWf x
  other : ∀ x ∈ a.other.xs, LinWf x
def Sta.fits (s : Sta) (xs : List Lin) : Bool := (needT xs).all (fun x => decide (x.n ≤ s.free x.a x.b))
def Sta.keeps (s : Sta) (t : Int) (xs : List Lin) : Bool := (needT xs).all (fun x => decide (x.n ≤ s.held t x.a x.b))
def Sta.opens (s : Sta) (xs : List Tri) : Bool := xs.all (fun x => s.isOpen x.a)
def Sta.guards (s : Sta) (xs : List Tri) : Bool := xs.all (fun x => s.guard x.a x.b x.n)
def Sta.hasAll (s : Sta) (t : Int) (xs : List Tri) : Bool := xs.all (fun x => decide (x.n ≤ s.held t x.a x.b))
def clampT (s : Sta) (a : Acd) : Int × List Lin × List Tri :=
  if (cutT s (a.lines.xs.map triOf)).2.length + (a.sets.xs.filter s.want).length = 0 then (3, [], []) else (2, (cutT s (a.lines.xs.map triOf)).2, (a.sets.xs.filter s.want).map s.raise)
/-- What rule.merge tells. -/
def mergeT (s : Sta) (a : Acd) : Int × List Lin × List Tri :=
  if a.mg = 1 then clampT s a
  else if a.mg = 2 then (if s.fits a.other.xs then (2, a.other.xs, []) else (3, [], []))
  else if a.mg = 3 then (if s.fits a.lines.xs && s.opens a.sets.xs then (2, a.lines.xs, a.sets.xs.map s.raise) else (3, [], []))
  else (3, [], [])
/-- What rule.judgeWrite tells. -/
def writeT (s : Sta) (a : Acd) : Int × List Lin × List Tri :=
  if a.sure then (if s.keeps a.till a.lines.xs then (1, a.lines.xs, []) else (3, [], []))
  else if s.guards a.guards.xs && s.fits a.lines.xs && s.opens a.sets.xs then (1, a.lines.xs, a.sets.xs.map s.raise) else mergeT s a
def doneT (b : Bool) : Int := if b then 5 else 3
/-- What rule.Judge tells. -/
def judgeT (s : Sta) (a : Acd) : Int × List Lin × List Tri × Int :=
  if a.kind = 1 then ((writeT s a).1, (writeT s a).2.1, (writeT s a).2.2, 0)
  else if a.kind = 2 then (4, [], [], min a.rd (min (s.free a.ra a.rb) (wrap64 (18014398509481984 - s.held a.till a.ra a.rb))))
  else if a.kind = 3 then (doneT (decide (a.rd ≤ s.held a.till a.ra a.rb)), [], [], 0)
  else if a.kind = 4 then (doneT (decide (a.rd ≤ s.held a.till a.ra a.rb) && decide (a.rd ≤ wrap64 (18014398509481984 - s.held a.to a.ra a.rb))), [], [], 0)
  else if a.kind = 5 then (doneT (s.owes a.till a.gen && s.hasAll a.till a.rights.xs), [], [], 0)
  else (0, [], [], 0)
/-- Two rows of one's own: lines and settings. -/
def TwoRows (B : Nat) (w : World) (v u : Value) (L : List Lin) (S : List Tri) : Prop := w.ownsRow B 109 2 v L.length (lcells L) ∧ w.ownsRow B 86 3 u S.length (rcells S)
theorem two_nil (B : Nat) (w : World) : TwoRows B w (.slice none 0 0) (.slice none 0 0) [] [] := ⟨⟨rfl, Or.inl ⟨rfl, rfl⟩⟩, ⟨rfl, Or.inl ⟨rfl, rfl⟩⟩⟩
def MgP (B : Nat) (w0 : World) (r : Int × List Lin × List Tri) (e : Ending) (w : World) : Prop := ∃ v u, e = .returned (.tuple #[.int .i64 r.1, v, u]) ∧ TwoRows B w v u r.2.1 r.2.2 ∧ Below B w0 w
def JgP (B : Nat) (w0 : World) (r : Int × List Lin × List Tri × Int) (e : Ending) (w : World) : Prop := ∃ v u, e = .returned (.tuple #[.int .i64 r.1, v, u, .int .i64 r.2.2.2]) ∧ TwoRows B w v u r.2.1 r.2.2.1 ∧ Below B w0 w
theorem own_form {w : World} {B n s : Nat} {e : TypeId} {v : Value} {xs : List Value} (h : w.ownsRow B e s v n xs) : ∃ a c, v = .slice a n c := by
  rcases h.2 with ⟨rfl, rfl⟩ | ⟨g, cap, cur, rfl, _⟩
  · exact ⟨none, 0, rfl⟩
  · exact ⟨_, _, rfl⟩
theorem own_below {W W' : World} {B s n : Nat} {e : TypeId} {u : Value} {xs : List Value} (hr : W.ownsRow B e s u n xs) (hb : Below W.heap.size W W') : W'.ownsRow B e s u n xs := Z.owns_keep hr hb
theorem own_drew {W : World} {B s n : Nat} {e : TypeId} {u : Value} {xs : List Value} (hr : W.ownsRow B e s u n xs) : W.drew.ownsRow B e s u n xs := own_below hr ⟨rfl, rfl, rfl, Nat.le_refl _, fun _ _ => rfl⟩
theorem rcells_cel {w : World} {B n : Nat} {a : Option Addr} {c : Nat} {e : TypeId} {xs : List Tri} (h : w.ownsRow B e 3 (.slice a n c) n (rcells xs)) (hl : xs.length = n) : Cel w a 3 (xs.map tric) := by
  have hf : rcells xs = Z.flat tric xs := by
    induction xs generalizing n with
    | nil => rfl
    | cons x xs ih => simp [rcells, Z.flat, tric] at *
  rw [hf] at h
  exact Z.cel_row (f := tric) (sz := 3) (fun _ => rfl) h hl
theorem two_boxes (w : World) (A B : Array Value) (t u : TypeId) : ∃ w2, (w.alloc (.cells A t)).alloc (.cells B u) = w2 ∧ Below w.heap.size w w2 ∧ w2.heap[w.heap.size]? = some (.cells A t (0, 0)) ∧ w2.heap[w.heap.size + 1]? = some (.cells B u (0, 0)) := by
  obtain ⟨w2, h1, h2, h3, h4⟩ := box_two w A t u B
  exact ⟨w2, h1, h2, h3, h4⟩
end Go.Proofs.Ytllpikijakilnaa
namespace Go.Proofs.Ytllpikijakilnaa
open Go.RowKit
open Z (Sli SlOk Acd AcdOk)

set_option maxRecDepth 100000 in
set_option maxHeartbeats 4000000 in
theorem merge_1 (w : World) (s : Sta) (hs : StaOk w s) (a : Acd) (ha : AcdOk w a) (hz : AcWf a) (m1 : a.mg = 1) :
    Calls Try.prog 64 #[.agg s.arr, .agg a.arr] w (MgP w.heap.size w (mergeT s a)) := by
  obtain ⟨w2, hw2, hb2, hx2, hy2⟩ := two_boxes w s.arr a.arr 32 45
  have HS2 : Hid (∀ W, Below w2.heap.size w2 W → StaOk W s) := fun W hb => (hs.below hb2).below hb
  have HA2 : Hid (∀ W, Below w2.heap.size w2 W → AcdOk W a) := fun W hb => (ha.below hb2).below hb
  have HX2 : Hid (∀ W, Below w2.heap.size w2 W → W.heap[w.heap.size]? = some (.cells s.arr 32 (0, 0))) := fun W hb => (hb.block _ (ac_lt hx2)).trans hx2
  have HY2 : Hid (∀ W, Below w2.heap.size w2 W → W.heap[w.heap.size + 1]? = some (.cells a.arr 45 (0, 0))) := fun W hb => (hb.block _ (ac_lt hy2)).trans hy2
  have HZ := hide hz
  have HW2 := hide hw2
  have HB2 := hide hb2
  have HE : Hid (∀ W, Below w2.heap.size w2 W → Below w.heap.size w W) := fun W hb => hb2.trans (hb.mono hb2.size)
  have HD : Hid (∀ W, Below w2.heap.size w2 W → Below w2.heap.size w2 W.drew) := fun W hb => ⟨hb.os, hb.tape, hb.output, hb.size, hb.block⟩
  have HR : Hid (Below w2.heap.size w2 w2) := Below.refl _ _
  have HO : Hid (∀ (W W' : World) (B k n : Nat) (t : TypeId) (v : Value) (xs : List Value), Below w2.heap.size w2 W → W.ownsRow W.heap.size t k v n xs → W.ownsRow w.heap.size t k v n xs) := fun W W' B k n t v xs hb h => owns_mono h (Nat.le_trans hb2.size hb.size)
  obtain ⟨c0, c1, c2, c3, c4, c5⟩ := ac6 hx2
  obtain ⟨k0, k1, k2, k3, k4, k5, k6, k7, k8, k9, k10, k11, k12, k13, k14⟩ := ac15 hy2
  have HCt : Hid (∀ W, Below w2.heap.size w2 W → Calls Try.prog 77 #[.agg s.arr, .slice a.lines.p a.lines.n a.lines.c] W fun e w' => ∃ va n c, e = .returned (.slice va n c) ∧ n = (cutT s (a.lines.xs.map triOf)).2.length ∧ n ≤ 4194304 ∧ w'.ownsRow w.heap.size 109 2 (.slice va n c) n (lcells (cutT s (a.lines.xs.map triOf)).2) ∧ Below w2.heap.size w2 w') := fun W hb => (cut_gen W s (HS2.out W hb) a.lines.p a.lines.n a.lines.c a.lines.xs (HA2.out W hb).lines.len (by have := (HA2.out W hb).lines.most; omega) HZ.out.lines (HA2.out W hb).lines.cel).mono fun _ _ ⟨v, he, hr, h⟩ => by
    obtain ⟨va, c, rfl⟩ := own_form hr
    have hl := cutT_len s (a.lines.xs.map triOf)
    rw [List.length_map, (HA2.out W hb).lines.len] at hl
    exact ⟨va, _, c, he, rfl, Nat.le_trans hl (HA2.out W hb).lines.most, owns_mono hr (Nat.le_trans HB2.out.size hb.size), hb.trans (h.mono hb.size)⟩
  have HWa : Hid (∀ W, Below w2.heap.size w2 W → Calls Try.prog 78 #[.agg s.arr, .slice a.sets.p a.sets.n a.sets.c] W fun e w' => ∃ va n c, e = .returned (.slice va n c) ∧ n = (a.sets.xs.filter s.want).length ∧ n ≤ 4194304 ∧ Cel w' va 3 ((a.sets.xs.filter s.want).map tric) ∧ Below w2.heap.size w2 w' ∧ Below W.heap.size W w') := fun W hb => (wanted_gen W s (HS2.out W hb) a.sets.p a.sets.n a.sets.c a.sets.xs (HA2.out W hb).sets.len (by have := (HA2.out W hb).sets.most; omega) (HA2.out W hb).sets.cel).mono fun _ _ ⟨v, he, hr, h⟩ => by
    obtain ⟨va, c, rfl⟩ := own_form hr
    have h1 := List.length_filter_le s.want a.sets.xs
    have h2 := (HA2.out W hb).sets.len
    have h3 := (HA2.out W hb).sets.most
    exact ⟨va, _, c, he, rfl, by omega, rcells_cel hr rfl, hb.trans (h.mono hb.size), h⟩
  have HRw : Hid (∀ W va n c, Below w2.heap.size w2 W → n = (a.sets.xs.filter s.want).length → n ≤ 4194304 → Cel W va 3 ((a.sets.xs.filter s.want).map tric) → Calls Try.prog 63 #[.agg s.arr, .slice va n c] W fun e w' => ∃ ua uc, e = .returned (.slice ua n uc) ∧ w'.ownsRow w.heap.size 86 3 (.slice ua n uc) n (rcells ((a.sets.xs.filter s.want).map s.raise)) ∧ Below w2.heap.size w2 w' ∧ Below W.heap.size W w') := fun W va n c hb hl hn hx => (raised_gen W s (HS2.out W hb) va n c _ hl.symm (by omega) hx).mono fun _ _ ⟨v, he, hr, h⟩ => by
    obtain ⟨ua, uc, rfl⟩ := own_form hr
    exact ⟨ua, uc, he, owns_mono hr (Nat.le_trans HB2.out.size hb.size), hb.trans (h.mono hb.size), h⟩
  have m1' : (a.mg == 1) = true := by simp [m1]
  have HM : mergeT s a = clampT s a := by simp [mergeT, m1]
  rw [HM]
  clear HM
  clear hw2 hb2 hx2 hy2 hs ha hz
  go_enter Try.func64, Try.ntmps64
  go_upto_region 1 with (fail)
  rw [HW2.out]
  go_upto_region 3 with (fail)
  go_region_held3 (fun w' => w'.cell? ⟨w.heap.size, 0, none⟩ = some (.int .u64 s.pos) ∧ w'.cell? ⟨w.heap.size, 1, none⟩ = some (.slice s.pp s.pn s.pc) ∧ w'.cell? ⟨w.heap.size, 2, none⟩ = some (.slice s.rp s.rn s.rc) ∧ w'.cell? ⟨w.heap.size, 3, none⟩ = some (.slice s.lp s.ln s.lc) ∧ w'.cell? ⟨w.heap.size, 4, none⟩ = some (.slice s.gp s.gn s.gc) ∧ w'.cell? ⟨w.heap.size, 5, none⟩ = some (.slice s.op s.on s.oc) ∧ w'.cell? ⟨w.heap.size + 1, 4, none⟩ = some (.slice a.lines.p a.lines.n a.lines.c) ∧ w'.cell? ⟨w.heap.size + 1, 6, none⟩ = some (.slice a.sets.p a.sets.n a.sets.c)) (go_keep) (first | (go_at_call 77; refine (HCt.out _ (by first | exact HR.out | exact HD.out _ HR.out)).mono ?_; rintro e wA ⟨va, na, ca, rfl, hna, hla, hra, hbA⟩; have HNa := hide hna; have HRa := hide hra; clear hna hra; have HwA := hide hbA; obtain ⟨cwA0, cwA1, cwA2, cwA3, cwA4, cwA5⟩ := ac6 (HX2.out _ HwA.out); obtain ⟨kwA0, kwA1, kwA2, kwA3, kwA4, kwA5, kwA6, kwA7, kwA8, kwA9, kwA10, kwA11, kwA12, kwA13, kwA14⟩ := ac15 (HY2.out _ HwA.out); clear hbA) | (go_at_call 78; refine (HWa.out _ (by first | exact HwA.out | exact HD.out _ HwA.out)).mono ?_; rintro e wB ⟨vb, nb, cb, rfl, hnb, hlb, hcb, hbB, hcB⟩; have HCb := hide hcb; have HNb := hide hnb; have HcB := hide hcB; clear hcb hnb hcB; have HwB := hide hbB; obtain ⟨cwB0, cwB1, cwB2, cwB3, cwB4, cwB5⟩ := ac6 (HX2.out _ HwB.out); obtain ⟨kwB0, kwB1, kwB2, kwB3, kwB4, kwB5, kwB6, kwB7, kwB8, kwB9, kwB10, kwB11, kwB12, kwB13, kwB14⟩ := ac15 (HY2.out _ HwB.out); clear hbB) | (go_at_call 63; refine (HRw.out _ vb nb cb (by first | exact HwB.out | exact HD.out _ HwB.out) HNb.out hlb (by first | exact HCb.out)).mono ?_; rintro e wC ⟨vc, cc, rfl, hrc, hbC, hcC⟩; have HRc := hide hrc; have HcC := hide hcC; clear hrc hcC; have HwC := hide hbC; obtain ⟨cwC0, cwC1, cwC2, cwC3, cwC4, cwC5⟩ := ac6 (HX2.out _ HwC.out); obtain ⟨kwC0, kwC1, kwC2, kwC3, kwC4, kwC5, kwC6, kwC7, kwC8, kwC9, kwC10, kwC11, kwC12, kwC13, kwC14⟩ := ac15 (HY2.out _ HwC.out); clear hbC) | fail)
  have HF := hide (HE.out _ HwC.out)
  have HrA : Hid (wC.ownsRow w.heap.size 109 2 (.slice va na ca) na (lcells (cutT s (a.lines.xs.map triOf)).2)) := own_below (own_below HRa.out (by first | exact HcB.out | exact (show Below wA.heap.size wA wB from HcB.out))) HcC.out
  have HrC : Hid (wC.ownsRow w.heap.size 86 3 (.slice vc nb cc) nb (rcells ((a.sets.xs.filter s.want).map s.raise))) := HRc.out
  by_cases hz0 : na + nb = 0
  · have q1 : ¬ (0 : Int) < (na : Int) + (nb : Int) := by omega
    have HC0 : Hid (clampT s a = (3, [], [])) := by show _ = _; unfold clampT; rw [← HNa.out, ← HNb.out, if_pos hz0]
    clear hz0
    go_wp2
    refine bodyPost_ret (v := .tuple #[.int .i64 3, .slice none 0 0, .slice none 0 0]) (by simp [results, Try.results64, go_sem]) rfl ?_
    exact ⟨_, _, by rw [HC0.out], by rw [HC0.out]; exact two_nil _ _, HF.out⟩
  · have q1 : (0 : Int) < (na : Int) + (nb : Int) := by omega
    have HC0 : Hid (clampT s a = (2, (cutT s (a.lines.xs.map triOf)).2, (a.sets.xs.filter s.want).map s.raise)) := by show _ = _; unfold clampT; rw [← HNa.out, ← HNb.out, if_neg hz0]
    clear hz0
    go_wp2
    refine bodyPost_ret (v := .tuple #[.int .i64 2, .slice va na ca, .slice vc nb cc]) (by simp [results, Try.results64, go_sem]) rfl ?_
    exact ⟨_, _, by rw [HC0.out], by rw [HC0.out]; exact ⟨by rw [← HNa.out]; exact HrA.out, by rw [List.length_map, ← HNb.out]; exact HrC.out⟩, HF.out⟩

set_option maxRecDepth 100000 in
set_option maxHeartbeats 4000000 in
theorem merge_2 (w : World) (s : Sta) (hs : StaOk w s) (a : Acd) (ha : AcdOk w a) (hz : AcWf a) (m1 : a.mg = 2) :
    Calls Try.prog 64 #[.agg s.arr, .agg a.arr] w (MgP w.heap.size w (mergeT s a)) := by
  obtain ⟨w2, hw2, hb2, hx2, hy2⟩ := two_boxes w s.arr a.arr 32 45
  have HS2 : Hid (∀ W, Below w2.heap.size w2 W → StaOk W s) := fun W hb => (hs.below hb2).below hb
  have HA2 : Hid (∀ W, Below w2.heap.size w2 W → AcdOk W a) := fun W hb => (ha.below hb2).below hb
  have HX2 : Hid (∀ W, Below w2.heap.size w2 W → W.heap[w.heap.size]? = some (.cells s.arr 32 (0, 0))) := fun W hb => (hb.block _ (ac_lt hx2)).trans hx2
  have HY2 : Hid (∀ W, Below w2.heap.size w2 W → W.heap[w.heap.size + 1]? = some (.cells a.arr 45 (0, 0))) := fun W hb => (hb.block _ (ac_lt hy2)).trans hy2
  have HZ := hide hz
  have HW2 := hide hw2
  have HB2 := hide hb2
  have HE : Hid (∀ W, Below w2.heap.size w2 W → Below w.heap.size w W) := fun W hb => hb2.trans (hb.mono hb2.size)
  have HD : Hid (∀ W, Below w2.heap.size w2 W → Below w2.heap.size w2 W.drew) := fun W hb => ⟨hb.os, hb.tape, hb.output, hb.size, hb.block⟩
  have HR : Hid (Below w2.heap.size w2 w2) := Below.refl _ _
  have HO : Hid (∀ (W W' : World) (B k n : Nat) (t : TypeId) (v : Value) (xs : List Value), Below w2.heap.size w2 W → W.ownsRow W.heap.size t k v n xs → W.ownsRow w.heap.size t k v n xs) := fun W W' B k n t v xs hb h => owns_mono h (Nat.le_trans hb2.size hb.size)
  obtain ⟨c0, c1, c2, c3, c4, c5⟩ := ac6 hx2
  obtain ⟨k0, k1, k2, k3, k4, k5, k6, k7, k8, k9, k10, k11, k12, k13, k14⟩ := ac15 hy2
  obtain ⟨bFo, hFo⟩ : ∃ b, s.fits a.other.xs = b := ⟨_, rfl⟩
  have HEFo := hide hFo
  have HFo : Hid (∀ W, Below w2.heap.size w2 W → Calls Try.prog 7 #[.agg s.arr, .slice a.other.p a.other.n a.other.c] W fun e w' => e = .returned (.bool bFo) ∧ Below w2.heap.size w2 w') := fun W hb => (free_all W s (HS2.out W hb) a.other.p a.other.n a.other.c a.other.xs (HA2.out W hb).other.len (by have := (HA2.out W hb).other.most; omega) HZ.out.other (HA2.out W hb).other.cel).mono fun _ _ ⟨he, h⟩ => ⟨by rw [he, ← HEFo.out]; rfl, hb.trans (h.mono hb.size)⟩
  have HCo : Hid (∀ W, Below w2.heap.size w2 W → Calls Try.prog 62 #[.slice a.other.p a.other.n a.other.c] W fun e w' => ∃ v, e = .returned v ∧ w'.ownsRow w.heap.size 109 2 v a.other.xs.length (lcells a.other.xs) ∧ Below w2.heap.size w2 w') := fun W hb => (clone_gen W a.other.p a.other.n a.other.c a.other.xs (HA2.out W hb).other.len (by have := (HA2.out W hb).other.most; omega) (HA2.out W hb).other.cel).mono fun _ _ ⟨v, he, hr, h⟩ => ⟨v, he, by rw [(HA2.out W hb).other.len]; exact owns_mono hr (Nat.le_trans HB2.out.size hb.size), hb.trans (h.mono hb.size)⟩
  have m1' : (a.mg == 1) = false := by simp [m1]
  have m2' : (a.mg == 2) = true := by simp [m1]
  have HM : Hid (mergeT s a = if bFo = true then (2, a.other.xs, []) else (3, [], [])) := by show _ = _; simp [mergeT, m1, ← hFo]
  clear hw2 hb2 hx2 hy2 hs ha hz hFo m1
  cases bFo with
  | true =>
    go_enter Try.func64, Try.ntmps64
    go_upto_region 1 with (fail)
    rw [HW2.out]
    go_upto_region 8 with (go_at_call 7; refine (HFo.out _ (by first | exact HR.out | exact HD.out _ HR.out)).mono ?_; rintro e w3 ⟨rfl, hbw3⟩; have Hw3 := hide hbw3; clear hbw3; obtain ⟨c0, c1, c2, c3, c4, c5⟩ := ac6 (HX2.out _ Hw3.out); obtain ⟨k0, k1, k2, k3, k4, k5, k6, k7, k8, k9, k10, k11, k12, k13, k14⟩ := ac15 (HY2.out _ Hw3.out))
    go_wp2_with (go_at_call 62; refine (HCo.out _ (by first | exact Hw3.out | exact HD.out _ Hw3.out)).mono ?_; rintro e w4 ⟨v, rfl, hr, hbw4⟩; have Hw4 := hide hbw4; clear hbw4; obtain ⟨c0, c1, c2, c3, c4, c5⟩ := ac6 (HX2.out _ Hw4.out); obtain ⟨k0, k1, k2, k3, k4, k5, k6, k7, k8, k9, k10, k11, k12, k13, k14⟩ := ac15 (HY2.out _ Hw4.out); have Hr := hide hr; clear hr)
    refine bodyPost_ret (v := .tuple #[.int .i64 2, v, .slice none 0 0]) (by simp [results, Try.results64, go_sem]) rfl ?_
    have HM2 : Hid (mergeT s a = (2, a.other.xs, [])) := by show _ = _; exact HM.out.trans rfl
    exact ⟨_, _, by rw [HM2.out], by rw [HM2.out]; exact ⟨Hr.out, (two_nil _ _).2⟩, HE.out _ Hw4.out⟩
  | false =>
    go_enter Try.func64, Try.ntmps64
    go_upto_region 1 with (fail)
    rw [HW2.out]
    go_wp2_with (go_at_call 7; refine (HFo.out _ (by first | exact HR.out | exact HD.out _ HR.out)).mono ?_; rintro e w3 ⟨rfl, hbw3⟩; have Hw3 := hide hbw3; clear hbw3; obtain ⟨c0, c1, c2, c3, c4, c5⟩ := ac6 (HX2.out _ Hw3.out); obtain ⟨k0, k1, k2, k3, k4, k5, k6, k7, k8, k9, k10, k11, k12, k13, k14⟩ := ac15 (HY2.out _ Hw3.out))
    refine bodyPost_ret (v := .tuple #[.int .i64 3, .slice none 0 0, .slice none 0 0]) (by simp [results, Try.results64, go_sem]) rfl ?_
    have HM2 : Hid (mergeT s a = (3, [], [])) := by show _ = _; exact HM.out.trans rfl
    exact ⟨_, _, by rw [HM2.out], by rw [HM2.out]; exact two_nil _ _, HE.out _ Hw3.out⟩

set_option maxRecDepth 100000 in
set_option maxHeartbeats 4000000 in
theorem merge_3 (w : World) (s : Sta) (hs : StaOk w s) (a : Acd) (ha : AcdOk w a) (hz : AcWf a) (m1 : a.mg = 3) :
    Calls Try.prog 64 #[.agg s.arr, .agg a.arr] w (MgP w.heap.size w (mergeT s a)) := by
  obtain ⟨w2, hw2, hb2, hx2, hy2⟩ := two_boxes w s.arr a.arr 32 45
  have HS2 : Hid (∀ W, Below w2.heap.size w2 W → StaOk W s) := fun W hb => (hs.below hb2).below hb
  have HA2 : Hid (∀ W, Below w2.heap.size w2 W → AcdOk W a) := fun W hb => (ha.below hb2).below hb
  have HX2 : Hid (∀ W, Below w2.heap.size w2 W → W.heap[w.heap.size]? = some (.cells s.arr 32 (0, 0))) := fun W hb => (hb.block _ (ac_lt hx2)).trans hx2
  have HY2 : Hid (∀ W, Below w2.heap.size w2 W → W.heap[w.heap.size + 1]? = some (.cells a.arr 45 (0, 0))) := fun W hb => (hb.block _ (ac_lt hy2)).trans hy2
  have HZ := hide hz
  have HW2 := hide hw2
  have HB2 := hide hb2
  have HE : Hid (∀ W, Below w2.heap.size w2 W → Below w.heap.size w W) := fun W hb => hb2.trans (hb.mono hb2.size)
  have HD : Hid (∀ W, Below w2.heap.size w2 W → Below w2.heap.size w2 W.drew) := fun W hb => ⟨hb.os, hb.tape, hb.output, hb.size, hb.block⟩
  have HR : Hid (Below w2.heap.size w2 w2) := Below.refl _ _
  have HO : Hid (∀ (W W' : World) (B k n : Nat) (t : TypeId) (v : Value) (xs : List Value), Below w2.heap.size w2 W → W.ownsRow W.heap.size t k v n xs → W.ownsRow w.heap.size t k v n xs) := fun W W' B k n t v xs hb h => owns_mono h (Nat.le_trans hb2.size hb.size)
  obtain ⟨c0, c1, c2, c3, c4, c5⟩ := ac6 hx2
  obtain ⟨k0, k1, k2, k3, k4, k5, k6, k7, k8, k9, k10, k11, k12, k13, k14⟩ := ac15 hy2
  obtain ⟨bFl, hFl⟩ : ∃ b, s.fits a.lines.xs = b := ⟨_, rfl⟩
  have HEFl := hide hFl
  have HFl : Hid (∀ W, Below w2.heap.size w2 W → Calls Try.prog 7 #[.agg s.arr, .slice a.lines.p a.lines.n a.lines.c] W fun e w' => e = .returned (.bool bFl) ∧ Below w2.heap.size w2 w') := fun W hb => (free_all W s (HS2.out W hb) a.lines.p a.lines.n a.lines.c a.lines.xs (HA2.out W hb).lines.len (by have := (HA2.out W hb).lines.most; omega) HZ.out.lines (HA2.out W hb).lines.cel).mono fun _ _ ⟨he, h⟩ => ⟨by rw [he, ← HEFl.out]; rfl, hb.trans (h.mono hb.size)⟩
  obtain ⟨bOp, hOp⟩ : ∃ b, s.opens a.sets.xs = b := ⟨_, rfl⟩
  have HEOp := hide hOp
  have HOp : Hid (∀ W, Below w2.heap.size w2 W → Calls Try.prog 10 #[.agg s.arr, .slice a.sets.p a.sets.n a.sets.c] W fun e w' => e = .returned (.bool bOp) ∧ Below w2.heap.size w2 w') := fun W hb => (open_gen W s (HS2.out W hb) a.sets.p a.sets.n a.sets.c a.sets.xs (HA2.out W hb).sets.len (by have := (HA2.out W hb).sets.most; omega) (HA2.out W hb).sets.cel).mono fun _ _ ⟨he, h⟩ => ⟨by rw [he, ← HEOp.out]; rfl, hb.trans (h.mono hb.size)⟩
  have HCl : Hid (∀ W, Below w2.heap.size w2 W → Calls Try.prog 62 #[.slice a.lines.p a.lines.n a.lines.c] W fun e w' => ∃ v, e = .returned v ∧ w'.ownsRow w.heap.size 109 2 v a.lines.xs.length (lcells a.lines.xs) ∧ Below w2.heap.size w2 w') := fun W hb => (clone_gen W a.lines.p a.lines.n a.lines.c a.lines.xs (HA2.out W hb).lines.len (by have := (HA2.out W hb).lines.most; omega) (HA2.out W hb).lines.cel).mono fun _ _ ⟨v, he, hr, h⟩ => ⟨v, he, by rw [(HA2.out W hb).lines.len]; exact owns_mono hr (Nat.le_trans HB2.out.size hb.size), hb.trans (h.mono hb.size)⟩
  have HRa : Hid (∀ W, Below w2.heap.size w2 W → Calls Try.prog 63 #[.agg s.arr, .slice a.sets.p a.sets.n a.sets.c] W fun e w' => ∃ v, e = .returned v ∧ w'.ownsRow w.heap.size 86 3 v (a.sets.xs.map s.raise).length (rcells (a.sets.xs.map s.raise)) ∧ Below w2.heap.size w2 w' ∧ Below W.heap.size W w') := fun W hb => (raised_gen W s (HS2.out W hb) a.sets.p a.sets.n a.sets.c a.sets.xs (HA2.out W hb).sets.len (by have := (HA2.out W hb).sets.most; omega) (HA2.out W hb).sets.cel).mono fun _ _ ⟨v, he, hr, h⟩ => ⟨v, he, by rw [List.length_map, (HA2.out W hb).sets.len]; exact owns_mono hr (Nat.le_trans HB2.out.size hb.size), hb.trans (h.mono hb.size), h⟩
  have m1' : (a.mg == 1) = false := by simp [m1]
  have m2' : (a.mg == 2) = false := by simp [m1]
  have m3' : (a.mg == 3) = true := by simp [m1]
  have HM : Hid (mergeT s a = if (bFl && bOp) = true then (2, a.lines.xs, a.sets.xs.map s.raise) else (3, [], [])) := by show _ = _; simp [mergeT, m1, ← hFl, ← hOp]
  clear hw2 hb2 hx2 hy2 hs ha hz hFl hOp m1
  cases bFl with
  | true =>
    cases bOp with
    | true =>
      go_enter Try.func64, Try.ntmps64
      go_upto_region 1 with (fail)
      rw [HW2.out]
      go_upto_region 11 with (first | (go_at_call 10; refine (HOp.out _ (by first | exact Hw3.out | exact HD.out _ Hw3.out)).mono ?_; rintro e w4 ⟨rfl, hbw4⟩; have Hw4 := hide hbw4; clear hbw4; obtain ⟨c0, c1, c2, c3, c4, c5⟩ := ac6 (HX2.out _ Hw4.out); obtain ⟨k0, k1, k2, k3, k4, k5, k6, k7, k8, k9, k10, k11, k12, k13, k14⟩ := ac15 (HY2.out _ Hw4.out)) | (go_at_call 7; refine (HFl.out _ (by first | exact HR.out | exact HD.out _ HR.out)).mono ?_; rintro e w3 ⟨rfl, hbw3⟩; have Hw3 := hide hbw3; clear hbw3; obtain ⟨c0, c1, c2, c3, c4, c5⟩ := ac6 (HX2.out _ Hw3.out); obtain ⟨k0, k1, k2, k3, k4, k5, k6, k7, k8, k9, k10, k11, k12, k13, k14⟩ := ac15 (HY2.out _ Hw3.out)))
      go_upto_region 11 with (fail)
      go_region_held3 (fun w' => w'.cell? ⟨w.heap.size, 0, none⟩ = some (.int .u64 s.pos) ∧ w'.cell? ⟨w.heap.size, 1, none⟩ = some (.slice s.pp s.pn s.pc) ∧ w'.cell? ⟨w.heap.size, 2, none⟩ = some (.slice s.rp s.rn s.rc) ∧ w'.cell? ⟨w.heap.size, 3, none⟩ = some (.slice s.lp s.ln s.lc) ∧ w'.cell? ⟨w.heap.size, 4, none⟩ = some (.slice s.gp s.gn s.gc) ∧ w'.cell? ⟨w.heap.size, 5, none⟩ = some (.slice s.op s.on s.oc) ∧ w'.cell? ⟨w.heap.size + 1, 4, none⟩ = some (.slice a.lines.p a.lines.n a.lines.c) ∧ w'.cell? ⟨w.heap.size + 1, 6, none⟩ = some (.slice a.sets.p a.sets.n a.sets.c)) (go_keep) (first | (go_at_call 62; refine (HCl.out _ (by first | exact Hw4.out | exact HD.out _ Hw4.out)).mono ?_; rintro e wA ⟨va, rfl, hra, hbA⟩; have HRr := hide hra; clear hra; have HwA := hide hbA; obtain ⟨cwA0, cwA1, cwA2, cwA3, cwA4, cwA5⟩ := ac6 (HX2.out _ HwA.out); obtain ⟨kwA0, kwA1, kwA2, kwA3, kwA4, kwA5, kwA6, kwA7, kwA8, kwA9, kwA10, kwA11, kwA12, kwA13, kwA14⟩ := ac15 (HY2.out _ HwA.out); clear hbA) | (go_at_call 63; refine (HRa.out _ (by first | exact HwA.out | exact HD.out _ HwA.out)).mono ?_; rintro e wC ⟨vc, rfl, hrc, hbC, hcC⟩; have HRc := hide hrc; have HcC := hide hcC; clear hrc hcC; have HwC := hide hbC; obtain ⟨cwC0, cwC1, cwC2, cwC3, cwC4, cwC5⟩ := ac6 (HX2.out _ HwC.out); obtain ⟨kwC0, kwC1, kwC2, kwC3, kwC4, kwC5, kwC6, kwC7, kwC8, kwC9, kwC10, kwC11, kwC12, kwC13, kwC14⟩ := ac15 (HY2.out _ HwC.out); clear hbC) | fail)
      have HrA := hide (own_below HRr.out HcC.out)
      go_wp2
      refine bodyPost_ret (v := .tuple #[.int .i64 2, va, vc]) (by simp [results, Try.results64, go_sem]) rfl ?_
      have HM2 : Hid (mergeT s a = (2, a.lines.xs, a.sets.xs.map s.raise)) := by show _ = _; exact HM.out.trans rfl
      exact ⟨_, _, by rw [HM2.out], by rw [HM2.out]; exact ⟨HrA.out, HRc.out⟩, HE.out _ HwC.out⟩
    | false =>
      go_enter Try.func64, Try.ntmps64
      go_upto_region 1 with (fail)
      rw [HW2.out]
      go_wp2_with (first | (go_at_call 10; refine (HOp.out _ (by first | exact Hw3.out | exact HD.out _ Hw3.out)).mono ?_; rintro e w4 ⟨rfl, hbw4⟩; have Hw4 := hide hbw4; clear hbw4; obtain ⟨c0, c1, c2, c3, c4, c5⟩ := ac6 (HX2.out _ Hw4.out); obtain ⟨k0, k1, k2, k3, k4, k5, k6, k7, k8, k9, k10, k11, k12, k13, k14⟩ := ac15 (HY2.out _ Hw4.out)) | (go_at_call 7; refine (HFl.out _ (by first | exact HR.out | exact HD.out _ HR.out)).mono ?_; rintro e w3 ⟨rfl, hbw3⟩; have Hw3 := hide hbw3; clear hbw3; obtain ⟨c0, c1, c2, c3, c4, c5⟩ := ac6 (HX2.out _ Hw3.out); obtain ⟨k0, k1, k2, k3, k4, k5, k6, k7, k8, k9, k10, k11, k12, k13, k14⟩ := ac15 (HY2.out _ Hw3.out)))
      refine bodyPost_ret (v := .tuple #[.int .i64 3, .slice none 0 0, .slice none 0 0]) (by simp [results, Try.results64, go_sem]) rfl ?_
      have HM2 : Hid (mergeT s a = (3, [], [])) := by show _ = _; exact HM.out.trans rfl
      exact ⟨_, _, by rw [HM2.out], by rw [HM2.out]; exact two_nil _ _, HE.out _ Hw4.out⟩
  | false =>
    go_enter Try.func64, Try.ntmps64
    go_upto_region 1 with (fail)
    rw [HW2.out]
    go_wp2_with (go_at_call 7; refine (HFl.out _ (by first | exact HR.out | exact HD.out _ HR.out)).mono ?_; rintro e w3 ⟨rfl, hbw3⟩; have Hw3 := hide hbw3; clear hbw3; obtain ⟨c0, c1, c2, c3, c4, c5⟩ := ac6 (HX2.out _ Hw3.out); obtain ⟨k0, k1, k2, k3, k4, k5, k6, k7, k8, k9, k10, k11, k12, k13, k14⟩ := ac15 (HY2.out _ Hw3.out))
    refine bodyPost_ret (v := .tuple #[.int .i64 3, .slice none 0 0, .slice none 0 0]) (by simp [results, Try.results64, go_sem]) rfl ?_
    have HM2 : Hid (mergeT s a = (3, [], [])) := by show _ = _; exact HM.out.trans rfl
    exact ⟨_, _, by rw [HM2.out], by rw [HM2.out]; exact two_nil _ _, HE.out _ Hw3.out⟩

set_option maxRecDepth 100000 in
set_option maxHeartbeats 4000000 in
theorem merge_0 (w : World) (s : Sta) (hs : StaOk w s) (a : Acd) (ha : AcdOk w a) (hz : AcWf a) (n1 : ¬ a.mg = 1) (n2 : ¬ a.mg = 2) (n3 : ¬ a.mg = 3) :
    Calls Try.prog 64 #[.agg s.arr, .agg a.arr] w (MgP w.heap.size w (mergeT s a)) := by
  obtain ⟨w2, hw2, hb2, hx2, hy2⟩ := two_boxes w s.arr a.arr 32 45
  have HS2 : Hid (∀ W, Below w2.heap.size w2 W → StaOk W s) := fun W hb => (hs.below hb2).below hb
  have HA2 : Hid (∀ W, Below w2.heap.size w2 W → AcdOk W a) := fun W hb => (ha.below hb2).below hb
  have HX2 : Hid (∀ W, Below w2.heap.size w2 W → W.heap[w.heap.size]? = some (.cells s.arr 32 (0, 0))) := fun W hb => (hb.block _ (ac_lt hx2)).trans hx2
  have HY2 : Hid (∀ W, Below w2.heap.size w2 W → W.heap[w.heap.size + 1]? = some (.cells a.arr 45 (0, 0))) := fun W hb => (hb.block _ (ac_lt hy2)).trans hy2
  have HZ := hide hz
  have HW2 := hide hw2
  have HB2 := hide hb2
  have HE : Hid (∀ W, Below w2.heap.size w2 W → Below w.heap.size w W) := fun W hb => hb2.trans (hb.mono hb2.size)
  have HD : Hid (∀ W, Below w2.heap.size w2 W → Below w2.heap.size w2 W.drew) := fun W hb => ⟨hb.os, hb.tape, hb.output, hb.size, hb.block⟩
  have HR : Hid (Below w2.heap.size w2 w2) := Below.refl _ _
  have HO : Hid (∀ (W W' : World) (B k n : Nat) (t : TypeId) (v : Value) (xs : List Value), Below w2.heap.size w2 W → W.ownsRow W.heap.size t k v n xs → W.ownsRow w.heap.size t k v n xs) := fun W W' B k n t v xs hb h => owns_mono h (Nat.le_trans hb2.size hb.size)
  obtain ⟨c0, c1, c2, c3, c4, c5⟩ := ac6 hx2
  obtain ⟨k0, k1, k2, k3, k4, k5, k6, k7, k8, k9, k10, k11, k12, k13, k14⟩ := ac15 hy2
  have m1' : (a.mg == 1) = false := beq_eq_false_iff_ne.2 n1
  have m2' : (a.mg == 2) = false := beq_eq_false_iff_ne.2 n2
  have m3' : (a.mg == 3) = false := beq_eq_false_iff_ne.2 n3
  have HM : Hid (mergeT s a = (3, [], [])) := by show _ = _; simp [mergeT, n1, n2, n3]
  clear hw2 hb2 hx2 hy2 hs ha hz n1 n2 n3
  go_enter Try.func64, Try.ntmps64
  go_upto_region 1 with (fail)
  rw [HW2.out]
  go_wp2
  refine bodyPost_ret (v := .tuple #[.int .i64 3, .slice none 0 0, .slice none 0 0]) (by simp [results, Try.results64, go_sem]) rfl ?_
  have HM2 : Hid (mergeT s a = (3, [], [])) := by show _ = _; exact HM.out.trans rfl
  exact ⟨_, _, by rw [HM2.out], by rw [HM2.out]; exact two_nil _ _, HE.out _ HR.out⟩

theorem merge_any (w : World) (s : Sta) (hs : StaOk w s) (a : Acd) (ha : AcdOk w a) (hz : AcWf a) : Calls Try.prog 64 #[.agg s.arr, .agg a.arr] w (MgP w.heap.size w (mergeT s a)) := by
  by_cases m1 : a.mg = 1
  · exact merge_1 w s hs a ha hz m1
  · by_cases m2 : a.mg = 2
    · exact merge_2 w s hs a ha hz m2
    · by_cases m3 : a.mg = 3
      · exact merge_3 w s hs a ha hz m3
      · exact merge_0 w s hs a ha hz m1 m2 m3
end Go.Proofs.Ytllpikijakilnaa
namespace Go.Proofs.Ytllpikijakilnaa
open Go.RowKit
open Z (Sli SlOk Acd AcdOk)

set_option maxRecDepth 100000 in
set_option maxHeartbeats 4000000 in
theorem write_sure (w : World) (s : Sta) (hs : StaOk w s) (a : Acd) (ha : AcdOk w a) (hz : AcWf a) (hsu : a.sure = true) :
    Calls Try.prog 34 #[.agg s.arr, .agg a.arr] w (MgP w.heap.size w (writeT s a)) := by
  obtain ⟨w2, hw2, hb2, hx2, hy2⟩ := two_boxes w s.arr a.arr 32 45
  have HS2 : Hid (∀ W, Below w2.heap.size w2 W → StaOk W s) := fun W hb => (hs.below hb2).below hb
  have HA2 : Hid (∀ W, Below w2.heap.size w2 W → AcdOk W a) := fun W hb => (ha.below hb2).below hb
  have HX2 : Hid (∀ W, Below w2.heap.size w2 W → W.heap[w.heap.size]? = some (.cells s.arr 32 (0, 0))) := fun W hb => (hb.block _ (ac_lt hx2)).trans hx2
  have HY2 : Hid (∀ W, Below w2.heap.size w2 W → W.heap[w.heap.size + 1]? = some (.cells a.arr 45 (0, 0))) := fun W hb => (hb.block _ (ac_lt hy2)).trans hy2
  have HZ := hide hz
  have HW2 := hide hw2
  have HB2 := hide hb2
  have HE : Hid (∀ W, Below w2.heap.size w2 W → Below w.heap.size w W) := fun W hb => hb2.trans (hb.mono hb2.size)
  have HD : Hid (∀ W, Below w2.heap.size w2 W → Below w2.heap.size w2 W.drew) := fun W hb => ⟨hb.os, hb.tape, hb.output, hb.size, hb.block⟩
  have HR : Hid (Below w2.heap.size w2 w2) := Below.refl _ _
  have HO : Hid (∀ (W W' : World) (B k n : Nat) (t : TypeId) (v : Value) (xs : List Value), Below w2.heap.size w2 W → W.ownsRow W.heap.size t k v n xs → W.ownsRow w.heap.size t k v n xs) := fun W W' B k n t v xs hb h => owns_mono h (Nat.le_trans hb2.size hb.size)
  obtain ⟨c0, c1, c2, c3, c4, c5⟩ := ac6 hx2
  obtain ⟨k0, k1, k2, k3, k4, k5, k6, k7, k8, k9, k10, k11, k12, k13, k14⟩ := ac15 hy2
  obtain ⟨bHo, hHo⟩ : ∃ b, s.keeps a.till a.lines.xs = b := ⟨_, rfl⟩
  have HEHo := hide hHo
  have HHo : Hid (∀ W, Below w2.heap.size w2 W → Calls Try.prog 8 #[.agg s.arr, .int .i64 a.till, .slice a.lines.p a.lines.n a.lines.c] W fun e w' => e = .returned (.bool bHo) ∧ Below w2.heap.size w2 w') := fun W hb => (holds_all W s (HS2.out W hb) a.till a.lines.p a.lines.n a.lines.c a.lines.xs (HA2.out W hb).lines.len (by have := (HA2.out W hb).lines.most; omega) HZ.out.lines (HA2.out W hb).lines.cel).mono fun _ _ ⟨he, h⟩ => ⟨by rw [he, ← HEHo.out]; rfl, hb.trans (h.mono hb.size)⟩
  have HCl : Hid (∀ W, Below w2.heap.size w2 W → Calls Try.prog 62 #[.slice a.lines.p a.lines.n a.lines.c] W fun e w' => ∃ v, e = .returned v ∧ w'.ownsRow w.heap.size 109 2 v a.lines.xs.length (lcells a.lines.xs) ∧ Below w2.heap.size w2 w') := fun W hb => (clone_gen W a.lines.p a.lines.n a.lines.c a.lines.xs (HA2.out W hb).lines.len (by have := (HA2.out W hb).lines.most; omega) (HA2.out W hb).lines.cel).mono fun _ _ ⟨v, he, hr, h⟩ => ⟨v, he, by rw [(HA2.out W hb).lines.len]; exact owns_mono hr (Nat.le_trans HB2.out.size hb.size), hb.trans (h.mono hb.size)⟩
  have HM : Hid (writeT s a = if bHo = true then (1, a.lines.xs, []) else (3, [], [])) := by show _ = _; simp [writeT, hsu, ← hHo]
  clear hw2 hb2 hx2 hy2 hs ha hz hHo
  cases bHo with
  | true =>
    go_enter Try.func34, Try.ntmps34
    go_upto_region 1 with (fail)
    rw [HW2.out]
    go_upto_region 2 with (go_at_call 8; refine (HHo.out _ (by first | exact HR.out | exact HD.out _ HR.out)).mono ?_; rintro e w3 ⟨rfl, hbw3⟩; have Hw3 := hide hbw3; clear hbw3; obtain ⟨c0, c1, c2, c3, c4, c5⟩ := ac6 (HX2.out _ Hw3.out); obtain ⟨k0, k1, k2, k3, k4, k5, k6, k7, k8, k9, k10, k11, k12, k13, k14⟩ := ac15 (HY2.out _ Hw3.out))
    go_wp2_with (go_at_call 62; refine (HCl.out _ (by first | exact Hw3.out | exact HD.out _ Hw3.out)).mono ?_; rintro e w4 ⟨v, rfl, hr, hbw4⟩; have Hw4 := hide hbw4; clear hbw4; obtain ⟨c0, c1, c2, c3, c4, c5⟩ := ac6 (HX2.out _ Hw4.out); obtain ⟨k0, k1, k2, k3, k4, k5, k6, k7, k8, k9, k10, k11, k12, k13, k14⟩ := ac15 (HY2.out _ Hw4.out); have Hr := hide hr; clear hr)
    refine bodyPost_ret (v := .tuple #[.int .i64 1, v, .slice none 0 0]) (by simp [results, Try.results34, go_sem]) rfl ?_
    have HM2 : Hid (writeT s a = (1, a.lines.xs, [])) := by show _ = _; exact HM.out.trans rfl
    exact ⟨_, _, by rw [HM2.out], by rw [HM2.out]; exact ⟨Hr.out, (two_nil _ _).2⟩, HE.out _ Hw4.out⟩
  | false =>
    go_enter Try.func34, Try.ntmps34
    go_upto_region 1 with (fail)
    rw [HW2.out]
    go_wp2_with (go_at_call 8; refine (HHo.out _ (by first | exact HR.out | exact HD.out _ HR.out)).mono ?_; rintro e w3 ⟨rfl, hbw3⟩; have Hw3 := hide hbw3; clear hbw3; obtain ⟨c0, c1, c2, c3, c4, c5⟩ := ac6 (HX2.out _ Hw3.out); obtain ⟨k0, k1, k2, k3, k4, k5, k6, k7, k8, k9, k10, k11, k12, k13, k14⟩ := ac15 (HY2.out _ Hw3.out))
    refine bodyPost_ret (v := .tuple #[.int .i64 3, .slice none 0 0, .slice none 0 0]) (by simp [results, Try.results34, go_sem]) rfl ?_
    have HM2 : Hid (writeT s a = (3, [], [])) := by show _ = _; exact HM.out.trans rfl
    exact ⟨_, _, by rw [HM2.out], by rw [HM2.out]; exact two_nil _ _, HE.out _ Hw3.out⟩

set_option maxRecDepth 100000 in
set_option maxHeartbeats 4000000 in
theorem write_plain (w : World) (s : Sta) (hs : StaOk w s) (a : Acd) (ha : AcdOk w a) (hz : AcWf a) (hsu : a.sure = false) :
    Calls Try.prog 34 #[.agg s.arr, .agg a.arr] w (MgP w.heap.size w (writeT s a)) := by
  obtain ⟨w2, hw2, hb2, hx2, hy2⟩ := two_boxes w s.arr a.arr 32 45
  have HS2 : Hid (∀ W, Below w2.heap.size w2 W → StaOk W s) := fun W hb => (hs.below hb2).below hb
  have HA2 : Hid (∀ W, Below w2.heap.size w2 W → AcdOk W a) := fun W hb => (ha.below hb2).below hb
  have HX2 : Hid (∀ W, Below w2.heap.size w2 W → W.heap[w.heap.size]? = some (.cells s.arr 32 (0, 0))) := fun W hb => (hb.block _ (ac_lt hx2)).trans hx2
  have HY2 : Hid (∀ W, Below w2.heap.size w2 W → W.heap[w.heap.size + 1]? = some (.cells a.arr 45 (0, 0))) := fun W hb => (hb.block _ (ac_lt hy2)).trans hy2
  have HZ := hide hz
  have HW2 := hide hw2
  have HB2 := hide hb2
  have HE : Hid (∀ W, Below w2.heap.size w2 W → Below w.heap.size w W) := fun W hb => hb2.trans (hb.mono hb2.size)
  have HD : Hid (∀ W, Below w2.heap.size w2 W → Below w2.heap.size w2 W.drew) := fun W hb => ⟨hb.os, hb.tape, hb.output, hb.size, hb.block⟩
  have HR : Hid (Below w2.heap.size w2 w2) := Below.refl _ _
  have HO : Hid (∀ (W W' : World) (B k n : Nat) (t : TypeId) (v : Value) (xs : List Value), Below w2.heap.size w2 W → W.ownsRow W.heap.size t k v n xs → W.ownsRow w.heap.size t k v n xs) := fun W W' B k n t v xs hb h => owns_mono h (Nat.le_trans hb2.size hb.size)
  obtain ⟨c0, c1, c2, c3, c4, c5⟩ := ac6 hx2
  obtain ⟨k0, k1, k2, k3, k4, k5, k6, k7, k8, k9, k10, k11, k12, k13, k14⟩ := ac15 hy2
  obtain ⟨bGd, hGd⟩ : ∃ b, s.guards a.guards.xs = b := ⟨_, rfl⟩
  have HEGd := hide hGd
  have HGd : Hid (∀ W, Below w2.heap.size w2 W → Calls Try.prog 9 #[.agg s.arr, .slice a.guards.p a.guards.n a.guards.c] W fun e w' => e = .returned (.bool bGd) ∧ Below w2.heap.size w2 w') := fun W hb => (guarded_gen W s (HS2.out W hb) a.guards.p a.guards.n a.guards.c a.guards.xs (HA2.out W hb).guards.len (by have := (HA2.out W hb).guards.most; omega) (HA2.out W hb).guards.cel).mono fun _ _ ⟨he, h⟩ => ⟨by rw [he, ← HEGd.out]; rfl, hb.trans (h.mono hb.size)⟩
  obtain ⟨bFl, hFl⟩ : ∃ b, s.fits a.lines.xs = b := ⟨_, rfl⟩
  have HEFl := hide hFl
  have HFl : Hid (∀ W, Below w2.heap.size w2 W → Calls Try.prog 7 #[.agg s.arr, .slice a.lines.p a.lines.n a.lines.c] W fun e w' => e = .returned (.bool bFl) ∧ Below w2.heap.size w2 w') := fun W hb => (free_all W s (HS2.out W hb) a.lines.p a.lines.n a.lines.c a.lines.xs (HA2.out W hb).lines.len (by have := (HA2.out W hb).lines.most; omega) HZ.out.lines (HA2.out W hb).lines.cel).mono fun _ _ ⟨he, h⟩ => ⟨by rw [he, ← HEFl.out]; rfl, hb.trans (h.mono hb.size)⟩
  obtain ⟨bOp, hOp⟩ : ∃ b, s.opens a.sets.xs = b := ⟨_, rfl⟩
  have HEOp := hide hOp
  have HOp : Hid (∀ W, Below w2.heap.size w2 W → Calls Try.prog 10 #[.agg s.arr, .slice a.sets.p a.sets.n a.sets.c] W fun e w' => e = .returned (.bool bOp) ∧ Below w2.heap.size w2 w') := fun W hb => (open_gen W s (HS2.out W hb) a.sets.p a.sets.n a.sets.c a.sets.xs (HA2.out W hb).sets.len (by have := (HA2.out W hb).sets.most; omega) (HA2.out W hb).sets.cel).mono fun _ _ ⟨he, h⟩ => ⟨by rw [he, ← HEOp.out]; rfl, hb.trans (h.mono hb.size)⟩
  have HCl : Hid (∀ W, Below w2.heap.size w2 W → Calls Try.prog 62 #[.slice a.lines.p a.lines.n a.lines.c] W fun e w' => ∃ v, e = .returned v ∧ w'.ownsRow w.heap.size 109 2 v a.lines.xs.length (lcells a.lines.xs) ∧ Below w2.heap.size w2 w') := fun W hb => (clone_gen W a.lines.p a.lines.n a.lines.c a.lines.xs (HA2.out W hb).lines.len (by have := (HA2.out W hb).lines.most; omega) (HA2.out W hb).lines.cel).mono fun _ _ ⟨v, he, hr, h⟩ => ⟨v, he, by rw [(HA2.out W hb).lines.len]; exact owns_mono hr (Nat.le_trans HB2.out.size hb.size), hb.trans (h.mono hb.size)⟩
  have HRa : Hid (∀ W, Below w2.heap.size w2 W → Calls Try.prog 63 #[.agg s.arr, .slice a.sets.p a.sets.n a.sets.c] W fun e w' => ∃ v, e = .returned v ∧ w'.ownsRow w.heap.size 86 3 v (a.sets.xs.map s.raise).length (rcells (a.sets.xs.map s.raise)) ∧ Below w2.heap.size w2 w' ∧ Below W.heap.size W w') := fun W hb => (raised_gen W s (HS2.out W hb) a.sets.p a.sets.n a.sets.c a.sets.xs (HA2.out W hb).sets.len (by have := (HA2.out W hb).sets.most; omega) (HA2.out W hb).sets.cel).mono fun _ _ ⟨v, he, hr, h⟩ => ⟨v, he, by rw [List.length_map, (HA2.out W hb).sets.len]; exact owns_mono hr (Nat.le_trans HB2.out.size hb.size), hb.trans (h.mono hb.size), h⟩
  have HMg : Hid (∀ W, Below w2.heap.size w2 W → Calls Try.prog 64 #[.agg s.arr, .agg #[.int .i64 a.till, .int .u64 a.num, .int .i64 a.kind, .bool false, .slice a.lines.p a.lines.n a.lines.c, .slice a.guards.p a.guards.n a.guards.c, .slice a.sets.p a.sets.n a.sets.c, .int .i64 a.mg, .slice a.other.p a.other.n a.other.c, .int .i64 a.ra, .int .i64 a.rb, .int .i64 a.rd, .int .i64 a.to, .int .u64 a.gen, .slice a.rights.p a.rights.n a.rights.c]] W (fun e w' => ∃ v u, e = .returned (.tuple #[.int .i64 (mergeT s a).1, v, u]) ∧ TwoRows w.heap.size w' v u (mergeT s a).2.1 (mergeT s a).2.2 ∧ Below w2.heap.size w2 w')) := fun W hb => by rw [show #[.int .i64 a.till, .int .u64 a.num, .int .i64 a.kind, .bool false, .slice a.lines.p a.lines.n a.lines.c, .slice a.guards.p a.guards.n a.guards.c, .slice a.sets.p a.sets.n a.sets.c, .int .i64 a.mg, .slice a.other.p a.other.n a.other.c, .int .i64 a.ra, .int .i64 a.rb, .int .i64 a.rd, .int .i64 a.to, .int .u64 a.gen, .slice a.rights.p a.rights.n a.rights.c] = a.arr by simp only [Acd.arr, hsu]]; exact (merge_any W s (HS2.out W hb) a (HA2.out W hb) HZ.out).mono fun _ _ ⟨v, u, he, ⟨hr1, hr2⟩, h⟩ => ⟨v, u, he, ⟨owns_mono hr1 (Nat.le_trans HB2.out.size hb.size), owns_mono hr2 (Nat.le_trans HB2.out.size hb.size)⟩, hb.trans (h.mono hb.size)⟩
  obtain ⟨mo, hmo⟩ : ∃ x, (mergeT s a).1 = x := ⟨_, rfl⟩
  rw [hmo] at HMg
  have HMo := hide hmo
  have HM : Hid (writeT s a = if (bGd && bFl && bOp) = true then (1, a.lines.xs, a.sets.xs.map s.raise) else mergeT s a) := by show _ = _; simp [writeT, hsu, ← hGd, ← hFl, ← hOp]
  clear hw2 hb2 hx2 hy2 hs ha hz hGd hFl hOp hmo
  cases bGd with
  | true =>
    cases bFl with
    | true =>
      cases bOp with
      | true =>
        go_enter Try.func34, Try.ntmps34
        go_upto_region 1 with (fail)
        rw [HW2.out]
        go_upto_region 6 with (first | (go_at_call 10; refine (HOp.out _ (by first | exact Hw4.out | exact HD.out _ Hw4.out)).mono ?_; rintro e w5 ⟨rfl, hbw5⟩; have Hw5 := hide hbw5; clear hbw5; obtain ⟨c0, c1, c2, c3, c4, c5⟩ := ac6 (HX2.out _ Hw5.out); obtain ⟨k0, k1, k2, k3, k4, k5, k6, k7, k8, k9, k10, k11, k12, k13, k14⟩ := ac15 (HY2.out _ Hw5.out)) | (go_at_call 7; refine (HFl.out _ (by first | exact Hw3.out | exact HD.out _ Hw3.out)).mono ?_; rintro e w4 ⟨rfl, hbw4⟩; have Hw4 := hide hbw4; clear hbw4; obtain ⟨c0, c1, c2, c3, c4, c5⟩ := ac6 (HX2.out _ Hw4.out); obtain ⟨k0, k1, k2, k3, k4, k5, k6, k7, k8, k9, k10, k11, k12, k13, k14⟩ := ac15 (HY2.out _ Hw4.out)) | (go_at_call 9; refine (HGd.out _ (by first | exact HR.out | exact HD.out _ HR.out)).mono ?_; rintro e w3 ⟨rfl, hbw3⟩; have Hw3 := hide hbw3; clear hbw3; obtain ⟨c0, c1, c2, c3, c4, c5⟩ := ac6 (HX2.out _ Hw3.out); obtain ⟨k0, k1, k2, k3, k4, k5, k6, k7, k8, k9, k10, k11, k12, k13, k14⟩ := ac15 (HY2.out _ Hw3.out)))
        go_upto_region 6 with (fail)
        go_region_held3 (fun w' => w'.cell? ⟨w.heap.size, 0, none⟩ = some (.int .u64 s.pos) ∧ w'.cell? ⟨w.heap.size, 1, none⟩ = some (.slice s.pp s.pn s.pc) ∧ w'.cell? ⟨w.heap.size, 2, none⟩ = some (.slice s.rp s.rn s.rc) ∧ w'.cell? ⟨w.heap.size, 3, none⟩ = some (.slice s.lp s.ln s.lc) ∧ w'.cell? ⟨w.heap.size, 4, none⟩ = some (.slice s.gp s.gn s.gc) ∧ w'.cell? ⟨w.heap.size, 5, none⟩ = some (.slice s.op s.on s.oc) ∧ w'.cell? ⟨w.heap.size + 1, 4, none⟩ = some (.slice a.lines.p a.lines.n a.lines.c) ∧ w'.cell? ⟨w.heap.size + 1, 6, none⟩ = some (.slice a.sets.p a.sets.n a.sets.c)) (go_keep) (first | (go_at_call 62; refine (HCl.out _ (by first | exact Hw5.out | exact HD.out _ Hw5.out)).mono ?_; rintro e wA ⟨va, rfl, hra, hbA⟩; have HRr := hide hra; clear hra; have HwA := hide hbA; obtain ⟨cwA0, cwA1, cwA2, cwA3, cwA4, cwA5⟩ := ac6 (HX2.out _ HwA.out); obtain ⟨kwA0, kwA1, kwA2, kwA3, kwA4, kwA5, kwA6, kwA7, kwA8, kwA9, kwA10, kwA11, kwA12, kwA13, kwA14⟩ := ac15 (HY2.out _ HwA.out); clear hbA) | (go_at_call 63; refine (HRa.out _ (by first | exact HwA.out | exact HD.out _ HwA.out)).mono ?_; rintro e wC ⟨vc, rfl, hrc, hbC, hcC⟩; have HRc := hide hrc; have HcC := hide hcC; clear hrc hcC; have HwC := hide hbC; obtain ⟨cwC0, cwC1, cwC2, cwC3, cwC4, cwC5⟩ := ac6 (HX2.out _ HwC.out); obtain ⟨kwC0, kwC1, kwC2, kwC3, kwC4, kwC5, kwC6, kwC7, kwC8, kwC9, kwC10, kwC11, kwC12, kwC13, kwC14⟩ := ac15 (HY2.out _ HwC.out); clear hbC) | fail)
        have HrA := hide (own_below HRr.out HcC.out)
        go_wp2
        refine bodyPost_ret (v := .tuple #[.int .i64 1, va, vc]) (by simp [results, Try.results34, go_sem]) rfl ?_
        have HM2 : Hid (writeT s a = (1, a.lines.xs, a.sets.xs.map s.raise)) := by show _ = _; exact HM.out.trans rfl
        exact ⟨_, _, by rw [HM2.out], by rw [HM2.out]; exact ⟨HrA.out, HRc.out⟩, HE.out _ HwC.out⟩
      | false =>
        go_enter Try.func34, Try.ntmps34
        go_upto_region 1 with (fail)
        rw [HW2.out]
        go_wp2_with (first | (go_at_call 64; refine (HMg.out _ (by first | exact Hw5.out | exact HD.out _ Hw5.out)).mono ?_; rintro e w6 ⟨vm, um, rfl, hrm, hbw6⟩; have Hw6 := hide hbw6; clear hbw6; obtain ⟨c0, c1, c2, c3, c4, c5⟩ := ac6 (HX2.out _ Hw6.out); obtain ⟨k0, k1, k2, k3, k4, k5, k6, k7, k8, k9, k10, k11, k12, k13, k14⟩ := ac15 (HY2.out _ Hw6.out); have Hrm := hide hrm; clear hrm) | (go_at_call 10; refine (HOp.out _ (by first | exact Hw4.out | exact HD.out _ Hw4.out)).mono ?_; rintro e w5 ⟨rfl, hbw5⟩; have Hw5 := hide hbw5; clear hbw5; obtain ⟨c0, c1, c2, c3, c4, c5⟩ := ac6 (HX2.out _ Hw5.out); obtain ⟨k0, k1, k2, k3, k4, k5, k6, k7, k8, k9, k10, k11, k12, k13, k14⟩ := ac15 (HY2.out _ Hw5.out)) | (go_at_call 7; refine (HFl.out _ (by first | exact Hw3.out | exact HD.out _ Hw3.out)).mono ?_; rintro e w4 ⟨rfl, hbw4⟩; have Hw4 := hide hbw4; clear hbw4; obtain ⟨c0, c1, c2, c3, c4, c5⟩ := ac6 (HX2.out _ Hw4.out); obtain ⟨k0, k1, k2, k3, k4, k5, k6, k7, k8, k9, k10, k11, k12, k13, k14⟩ := ac15 (HY2.out _ Hw4.out)) | (go_at_call 9; refine (HGd.out _ (by first | exact HR.out | exact HD.out _ HR.out)).mono ?_; rintro e w3 ⟨rfl, hbw3⟩; have Hw3 := hide hbw3; clear hbw3; obtain ⟨c0, c1, c2, c3, c4, c5⟩ := ac6 (HX2.out _ Hw3.out); obtain ⟨k0, k1, k2, k3, k4, k5, k6, k7, k8, k9, k10, k11, k12, k13, k14⟩ := ac15 (HY2.out _ Hw3.out)))
        refine bodyPost_ret (v := .tuple #[.int .i64 mo, vm, um]) (by simp [results, Try.results34, go_sem]) rfl ?_
        have HM2 : Hid (writeT s a = mergeT s a) := by show _ = _; exact HM.out.trans rfl
        exact ⟨_, _, by rw [HM2.out, HMo.out], by rw [HM2.out]; exact Hrm.out, HE.out _ Hw6.out⟩
    | false =>
      go_enter Try.func34, Try.ntmps34
      go_upto_region 1 with (fail)
      rw [HW2.out]
      go_wp2_with (first | (go_at_call 64; refine (HMg.out _ (by first | exact Hw4.out | exact HD.out _ Hw4.out)).mono ?_; rintro e w6 ⟨vm, um, rfl, hrm, hbw6⟩; have Hw6 := hide hbw6; clear hbw6; obtain ⟨c0, c1, c2, c3, c4, c5⟩ := ac6 (HX2.out _ Hw6.out); obtain ⟨k0, k1, k2, k3, k4, k5, k6, k7, k8, k9, k10, k11, k12, k13, k14⟩ := ac15 (HY2.out _ Hw6.out); have Hrm := hide hrm; clear hrm) | (go_at_call 7; refine (HFl.out _ (by first | exact Hw3.out | exact HD.out _ Hw3.out)).mono ?_; rintro e w4 ⟨rfl, hbw4⟩; have Hw4 := hide hbw4; clear hbw4; obtain ⟨c0, c1, c2, c3, c4, c5⟩ := ac6 (HX2.out _ Hw4.out); obtain ⟨k0, k1, k2, k3, k4, k5, k6, k7, k8, k9, k10, k11, k12, k13, k14⟩ := ac15 (HY2.out _ Hw4.out)) | (go_at_call 9; refine (HGd.out _ (by first | exact HR.out | exact HD.out _ HR.out)).mono ?_; rintro e w3 ⟨rfl, hbw3⟩; have Hw3 := hide hbw3; clear hbw3; obtain ⟨c0, c1, c2, c3, c4, c5⟩ := ac6 (HX2.out _ Hw3.out); obtain ⟨k0, k1, k2, k3, k4, k5, k6, k7, k8, k9, k10, k11, k12, k13, k14⟩ := ac15 (HY2.out _ Hw3.out)))
      refine bodyPost_ret (v := .tuple #[.int .i64 mo, vm, um]) (by simp [results, Try.results34, go_sem]) rfl ?_
      have HM2 : Hid (writeT s a = mergeT s a) := by show _ = _; exact HM.out.trans rfl
      exact ⟨_, _, by rw [HM2.out, HMo.out], by rw [HM2.out]; exact Hrm.out, HE.out _ Hw6.out⟩
  | false =>
    go_enter Try.func34, Try.ntmps34
    go_upto_region 1 with (fail)
    rw [HW2.out]
    go_wp2_with (first | (go_at_call 64; refine (HMg.out _ (by first | exact Hw3.out | exact HD.out _ Hw3.out)).mono ?_; rintro e w6 ⟨vm, um, rfl, hrm, hbw6⟩; have Hw6 := hide hbw6; clear hbw6; obtain ⟨c0, c1, c2, c3, c4, c5⟩ := ac6 (HX2.out _ Hw6.out); obtain ⟨k0, k1, k2, k3, k4, k5, k6, k7, k8, k9, k10, k11, k12, k13, k14⟩ := ac15 (HY2.out _ Hw6.out); have Hrm := hide hrm; clear hrm) | (go_at_call 9; refine (HGd.out _ (by first | exact HR.out | exact HD.out _ HR.out)).mono ?_; rintro e w3 ⟨rfl, hbw3⟩; have Hw3 := hide hbw3; clear hbw3; obtain ⟨c0, c1, c2, c3, c4, c5⟩ := ac6 (HX2.out _ Hw3.out); obtain ⟨k0, k1, k2, k3, k4, k5, k6, k7, k8, k9, k10, k11, k12, k13, k14⟩ := ac15 (HY2.out _ Hw3.out)))
    refine bodyPost_ret (v := .tuple #[.int .i64 mo, vm, um]) (by simp [results, Try.results34, go_sem]) rfl ?_
    have HM2 : Hid (writeT s a = mergeT s a) := by show _ = _; exact HM.out.trans rfl
    exact ⟨_, _, by rw [HM2.out, HMo.out], by rw [HM2.out]; exact Hrm.out, HE.out _ Hw6.out⟩

theorem write_any (w : World) (s : Sta) (hs : StaOk w s) (a : Acd) (ha : AcdOk w a) (hz : AcWf a) : Calls Try.prog 34 #[.agg s.arr, .agg a.arr] w (MgP w.heap.size w (writeT s a)) := by
  cases h : a.sure
  · exact write_plain w s hs a ha hz h
  · exact write_sure w s hs a ha hz h
end Go.Proofs.Ytllpikijakilnaa
