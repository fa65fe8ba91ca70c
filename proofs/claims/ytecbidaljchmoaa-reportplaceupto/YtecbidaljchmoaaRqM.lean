import Derived.Test.YtecbidaljchmoaaRqJ
import Derived.Test.YtecbidaljchmoaaRpH
import Derived.Test.YtecbidaljchmoaaRpO
import Derived.Test.YtecbidaljchmoaaRpQ
import Derived.Test.YtecbidaljchmoaaRpR
import Derived.Test.YtecbidaljchmoaaRpU
import Derived.Test.YtecbidaljchmoaaRpV
namespace Go.Proofs.Ytecbidaljchmoaa
open Go.RowKit

theorem fm_d {α β γ : Type} (d : α → γ) (p : α → Bool) (p' : γ → Bool) (f : α → β) (g : γ → β) (hp : ∀ x, p x = p' (d x)) (hf : ∀ x, f x = g (d x)) : ∀ xs : List α, (xs.filter p).map f = ((xs.map d).filter p').map g
  | [] => rfl
  | x :: xs => by
    rw [List.map_cons, List.filter_cons, List.filter_cons, hp x]
    split
    · rw [List.map_cons, List.map_cons, fm_d d p p' f g hp hf xs, hf x]
    · exact fm_d d p p' f g hp hf xs
def ownD (till : Int) (e : EnP) : Bool := !decide (e.ac.kind = 0) && decide (e.ac.till = till)
theorem of_congr {xs ys : List Eda} (h : xs.map Eda.d = ys.map Eda.d) {cs bs : List Acd} (h2 : cs.map Acd.d = bs.map Acd.d) (till : Int) : ofP xs cs till = ofP ys bs till := by
  have f1 := fm_d Eda.d (wrB till) (fun e => ownD till e && decide (e.ac.kind = 1)) itE (fun e => ⟨e.ac.num, e.ac.sure, e.oc, e.made, e.sets⟩) (fun _ => rfl) (fun _ => rfl)
  have f2 := fm_d Acd.d (waB till) (fun a => decide (a.kind = 1) && decide (a.till = till)) itA (fun a => ⟨a.num, a.sure, 0, [], []⟩) (fun _ => rfl) (fun _ => rfl)
  unfold ofP
  rw [f1 xs, f1 ys, f2 cs, f2 bs, h, h2]
theorem cnt_congr {xs ys : List Eda} (h : xs.map Eda.d = ys.map Eda.d) (till : Int) : cntV (xs.filter (ownB till)) = cntV (ys.filter (ownB till)) := by
  have f1 := fm_d Eda.d (ownB till) (ownD till) Eda.oc EnP.oc (fun _ => rfl) (fun _ => rfl)
  have f2 : ∀ (es : List Eda) (k : Int), cnt es k = (es.map Eda.oc).countP (fun o => decide (o = k)) := fun es k => by rw [List.countP_map]; rfl
  unfold cntV
  simp only [f2, f1 xs, f1 ys, h]
theorem lines_congr {xs ys : List Eda} (h : xs.map Eda.d = ys.map Eda.d) : linesP xs = linesP ys := by
  have f2 : ∀ es : List Eda, linesP es = ((es.map Eda.d).map EnP.made).flatten := fun es => by simp [linesP, List.flatMap_def, Function.comp_def, Eda.d]
  rw [f2, f2, h]
theorem linesT_congr {xs ys : List Eda} (h : xs.map Eda.d = ys.map Eda.d) (till : Int) : linesT till xs = linesT till ys := by
  have f1 := fm_d Eda.d (ownB till) (ownD till) (fun e => e.made.xs) EnP.made (fun _ => rfl) (fun _ => rfl)
  unfold linesT linesP
  rw [List.flatMap_def, List.flatMap_def, f1 xs, f1 ys, h]
/-- Behind Entries and behind Acts: the Seat of all, and what lies there. -/
theorem Oute.entered {w w' : World} {K K' : Knd} {b : Nat} {C C' : Array Value} {n : Nat} {ps : List Nat} {ds : List Eda} (h : Oute w K b C) (L : Lp Eda.list 22 82 RE 3 15 w w' K K' b C C' n ps ds) : Oute w' K' b C' := by
  obtain ⟨a, c, r1, r2⟩ := L.row
  exact ⟨L.blk, L.z, L.kb, h.acts.kept L.kp (by rintro (h | ⟨i, h⟩) <;> simp at h <;> omega) (L.oth 13 (by omega) (by omega)), h.each.kept L.kp (by rintro (h | ⟨i, h⟩) <;> simp at h <;> omega) (fun i j => by rintro (h | ⟨i, h⟩) <;> simp at h <;> omega) (L.oth 14 (by omega) (by omega)), ⟨a, n, c, _, r1, r2⟩, ⟨ps, L.ptr, L.few, L.nest⟩⟩
theorem Oute.acted {w w' : World} {K K' : Knd} {b : Nat} {C C' : Array Value} {n : Nat} {ps : List Nat} {ds : List Acd} (h : Oute w K b C) (L : Lp Acd.list 15 80 RA 2 13 w w' K K' b C C' n ps ds) : Oute w' K' b C' := by
  obtain ⟨a, c, r1, r2⟩ := L.row
  exact ⟨L.blk, L.z, L.kb, ⟨a, n, c, _, r1, r2⟩, ⟨ps, L.ptr, L.few, L.nest⟩, h.all.kept L.kp (by rintro (h | ⟨i, h⟩) <;> simp at h <;> omega) (L.oth 15 (by omega) (by omega)), h.every.kept L.kp (by rintro (h | ⟨i, h⟩) <;> simp at h <;> omega) (fun i j => by rintro (h | ⟨i, h⟩) <;> simp at h <;> omega) (L.oth 16 (by omega) (by omega))⟩
theorem ents_of {w : World} {K : Knd} {a : Option Addr} {n c : Nat} {ds : List Eda} {s : Sli Eda} (r : Rk w K (1, 16) 82 22 (.slice a n c) n (flat Eda.list ds)) (hl : ∀ i d, ds[i]? = some d → RE w K (2 * i + 3) d) (hd : ds.map Eda.d = s.xs.map Eda.d) {w0 : World} (hs : Ents w0 s) : Ents w ⟨a, n, c, ds⟩ := by
  have hlen : ds.length = s.xs.length := by have := congrArg List.length hd; simpa using this
  refine ⟨slok_of elt_entry (s := ⟨a, n, c, ds⟩) r (by show ds.length ≤ _; rw [hlen, hs.row.len]; exact hs.row.most), fun e he => ?_⟩
  obtain ⟨i, hi⟩ := List.mem_iff_getElem?.1 he
  have h1 : (ds.map Eda.d)[i]? = some e.d := by simp only at hi; simp [hi]
  rw [hd, List.getElem?_map] at h1
  cases hy : s.xs[i]? with
  | none => rw [hy] at h1; simp at h1
  | some y =>
    rw [hy] at h1
    simp at h1
    exact RE.ok (hl i e hi) h1.symm (hs.each y (List.mem_of_getElem? hy))
theorem acts_of {w : World} {K : Knd} {a : Option Addr} {n c : Nat} {ds : List Acd} {s : Sli Acd} (r : Rk w K (1, 14) 80 15 (.slice a n c) n (flat Acd.list ds)) (hl : ∀ i d, ds[i]? = some d → RA w K (2 * i + 2) d) (hd : ds.map Acd.d = s.xs.map Acd.d) {w0 : World} (hs : Acts w0 s) : Acts w ⟨a, n, c, ds⟩ := by
  have hlen : ds.length = s.xs.length := by have := congrArg List.length hd; simpa using this
  refine ⟨slok_of elt_act (s := ⟨a, n, c, ds⟩) r (by show ds.length ≤ _; rw [hlen, hs.row.len]; exact hs.row.most), fun e he => ?_⟩
  obtain ⟨i, hi⟩ := List.mem_iff_getElem?.1 he
  have h1 : (ds.map Acd.d)[i]? = some e.d := by simp only at hi; simp [hi]
  rw [hd, List.getElem?_map] at h1
  cases hy : s.xs[i]? with
  | none => rw [hy] at h1; simp at h1
  | some y =>
    rw [hy] at h1
    simp at h1
    exact RA.ok (hl i e hi) h1.symm (hs.each y (List.mem_of_getElem? hy))
end Go.Proofs.Ytecbidaljchmoaa
namespace Go.Proofs.Ytecbidaljchmoaa
open Go.RowKit

theorem ofP_small {w : World} {s : Sli Eda} (hs : Ents w s) (bs : List Acd) (till : Int) : ∀ x ∈ ofP s.xs bs till, x.made.length ≤ 4194304 ∧ x.sets.length ≤ 4194304 := fun x hx => by
  rcases List.mem_append.1 hx with h | h
  · obtain ⟨e, he, rfl⟩ := List.mem_map.1 h
    have h1 := hs.each e (List.mem_filter.1 he).1
    exact ⟨by show e.made.xs.length ≤ _; rw [h1.made.len]; exact h1.made.most, by show e.sets.xs.length ≤ _; rw [h1.sets.len]; exact h1.sets.most⟩
  · obtain ⟨e, he, rfl⟩ := List.mem_map.1 h
    exact ⟨Nat.zero_le _, Nat.zero_le _⟩
set_option maxRecDepth 100000 in
theorem eq6 (a b c d e f : Int) (w : World) : (Op.equalIn 10000 66 (.agg #[.int .i64 a, .int .i64 b, .int .i64 c, .int .i64 d, .int .i64 e, .int .i64 f]) (.agg #[.int .i64 a, .int .i64 b, .int .i64 c, .int .i64 d, .int .i64 e, .int .i64 f])).run Try.prog w = .ok true w := by
  have u3 := Try.underlying3
  have a3 := Try.isAgg3
  have z3 := Try.sizeOf3
  rw [show (10000 : Nat) = 9999 + 1 from rfl, Op.equalIn]
  simp only [Sem.run_bind, run_underlying Try.underlying66, Result.andThen_ok]
  simp only [Std.Legacy.Range.forIn_eq_forIn_range', Std.Legacy.Range.size, Nat.sub_zero, Nat.add_sub_cancel, Nat.div_one, List.range'_succ, List.range'_zero, List.forIn_cons, List.forIn_nil]
  go_simp
set_option linter.unusedVariables false in
set_option maxRecDepth 100000 in
set_option maxHeartbeats 8000000 in
theorem told_any (w : World) (K : Knd) (b : Nat) (C : Array Value) (ho : Oute w K b C) (c : Cfg) (hc : c.cl ≤ 64) (s : Sli Eda) (hs : EntsZ w K s) (a : Sli Acd) (ha : ActsZ w K a) (till : Int) (htot : (linesP s.xs).length ≤ 4194304) :
    Calls Try.prog 5 #[.pointer (some ⟨b, 0, none⟩), c.v, .slice s.p s.n s.c, .slice a.p a.n a.c, .int .i64 till] w fun e w' => ∃ (K' : Knd) (C' : Array Value), e = .returned (.bool true) ∧ Oute w' K' b C' ∧ Kp (fun q => 0 < q.1) K K' w w' := by
  obtain ⟨w0, hw0⟩ : ∃ w0, w.alloc (.cells #[.int .i64 c.tills, .slice c.cp c.cl c.cc, .slice c.pp c.pl c.pc, .int .i64 c.lease, .int .i64 c.watch, .int .i64 c.beat, .int .i64 c.window, .int .i64 c.cap, .int .i64 c.flight] 34) = w0 := ⟨_, rfl⟩
  have hb0 : Below w.heap.size w w0 := by rw [← hw0]; exact (Below.refl _ w).alloc (Nat.le_refl _) _
  have hbox : w0.heap[w.heap.size]? = some (.cells c.arr 34 (0, 0)) := by rw [← hw0]; exact heap_alloc_new _ _
  obtain ⟨K0, hK0⟩ : ∃ K0, ext K w.heap.size (0, 0) = K0 := ⟨_, rfl⟩
  have kp0 : Kp (fun _ => False) K K0 w w0 := by rw [← hK0]; exact kp_below hb0 _ K _
  have hkb : K0 w.heap.size = (0, 0) := by rw [← hK0]; exact ext_new _ _ (Nat.le_refl _)
  have ho0 := ho.kept kp0 (fun q h => h.elim)
  have hs0 := hs.kept kp0 (fun q h => h.elim)
  have ha0 := ha.kept kp0 (fun q h => h.elim)
  have t3 : ∀ q, turn 3 15 q → 0 < q.1 := fun q h => by rcases h with h | ⟨i, h⟩ <;> omega
  have t2 : ∀ q, turn 2 13 q → 0 < q.1 := fun q h => by rcases h with h | ⟨i, h⟩ <;> omega
  have HEnt := hide (seatEntries_any w0 K0 b C ho0 s hs0)
  have Hall := hide (And.intro ho0 (And.intro hs0 (And.intro ha0 (And.intro kp0 (And.intro hbox hkb)))))
  have HW0 := hide hw0
  have Hc := hide hc
  have Htot := hide htot
  have Hraw := hide (And.intro hs.ok ha.ok)
  obtain ⟨sp, sn, sc, xs⟩ := s
  obtain ⟨ap, an, ac, as_⟩ := a
  have hsn : sn ≤ 4194304 := hs.row.ok.most
  have han : an ≤ 4194304 := ha.row.ok.most
  clear ho hs ha hw0 hb0 hbox kp0 ho0 hs0 ha0 hK0 hkb hc htot
  unfold Cfg.v
  simp only at HEnt Hall Htot Hraw
  go_enter Try.func5, Try.ntmps5
  go_upto_region 1 with (fail)
  rw [HW0.out]
  go_upto_region 2 with (go_at_call 11; refine HEnt.out.mono ?_; rintro r w1 ⟨K1, C1, ai, ci, ps1, ds, rfl, hC1, L1, hd1⟩; have H1 := hide (And.intro hC1 (And.intro L1 hd1)); have ho1 := Hall.out.1.entered L1; have ha1 := Hall.out.2.2.1.kept L1.kp t3; have HAct := hide (seatActs_any w1 K1 b C1 ho1 ⟨ap, an, ac, as_⟩ ha1); have Ho1 := hide (And.intro ho1 ha1); clear hC1 L1 hd1 ho1 ha1)
  go_upto_region 3 with (
    first
    | (go_at_call 13; refine HAct.out.mono ?_; rintro r w2 ⟨K2, C2, aa, ca, ps2, das, rfl, hC2, L2, hd2⟩; obtain ⟨hC1, L1, hd1⟩ := H1.out; obtain ⟨a1, c1, e1, r1⟩ := L1.row; rw [hC1] at e1; cases e1; obtain ⟨a2, c2, e2, r2⟩ := L2.row; rw [hC2] at e2; cases e2; have Ein := ents_of (r1.kept L2.kp (by rintro (h | ⟨i, h⟩) <;> simp at h <;> omega)) (fun i d h => kept_RE _ _ _ _ _ _ _ (L1.laid i d h) L2.kp (fun l => by rintro (h | ⟨i, h⟩) <;> simp at h <;> omega)) hd1 Hraw.out.1; have Eac := acts_of r2 L2.laid hd2 Hraw.out.2; have Es := ((Hall.out.2.1.kept L1.kp t3).kept L2.kp t2).ok; have Ea := (Ho1.out.2.kept L2.kp t2).ok; have ho2 := Ho1.out.1.acted L2; have hbox2 : w2.heap[w.heap.size]? = some (.cells c.arr 34 (0, 0)) := (by obtain ⟨_, _, _, _, hbox, hkb⟩ := Hall.out; have hl := lt_of_block hbox; have hk1 : K1 w.heap.size = (0, 0) := (L1.kp.same _ hl).trans hkb; have e1 := L1.kp.block _ hl (by rw [hkb]; intro h; have := t3 _ h; simp at this); have hl1 := Nat.lt_of_lt_of_le hl L1.kp.size; exact (L2.kp.block _ hl1 (by rw [hk1]; intro h; have := t2 _ h; simp at this)).trans (e1.trans hbox)); have kp2 : Kp (fun q => 0 < q.1) K K2 w w2 := (((Hall.out.2.2.2.1.mono (fun q h => h.elim)).trans (L1.kp.mono t3)).trans (L2.kp.mono t2)); have HE2 := hide (And.intro Ein (And.intro Eac (And.intro Es Ea))); have HX2 := hide (And.intro ho2 (And.intro hbox2 kp2)); have Hd := hide (And.intro hd1 hd2); have HOf := hide (of_any w2 ⟨ai, sn, ci, ds⟩ ⟨aa, an, ca, das⟩ till Ein Eac); clear hC2 L2 hd2 hC1 L1 hd1 r1 r2 Ein Eac Es Ea ho2 hbox2 kp2)
    | (go_at_call 12; refine HOf.out.mono ?_; rintro r w3 ⟨v3, its3, rfl, hI3, hm3, hl3, hb3⟩; obtain ⟨p3, c3, rfl, _⟩ := slice_form hI3.row; have H3 := hide (And.intro hI3 (And.intro hm3 (And.intro hl3 hb3))); clear hI3 hm3 hl3 hb3))
  clear HEnt HAct HOf H1 Ho1 Hall HW0
  obtain ⟨n0, n1, n2, n3, n4, n5, hX⟩ : ∃ n0 n1 n2 n3 n4 n5 : Int, cntV (xs.filter (ownB till)) = #[.int .i64 n0, .int .i64 n1, .int .i64 n2, .int .i64 n3, .int .i64 n4, .int .i64 n5] := ⟨_, _, _, _, _, _, rfl⟩
  have HX := hide hX
  have HX' : Hid (cntV (ds.filter (ownB till)) = #[.int .i64 n0, .int .i64 n1, .int .i64 n2, .int .i64 n3, .int .i64 n4, .int .i64 n5]) := by show _ = _; rw [cnt_congr Hd.out.1]; exact hX
  have HRof := hide (rof_any w3 ⟨sp, sn, sc, xs⟩ ⟨ap, an, ac, as_⟩ till (HE2.out.2.2.1.below H3.out.2.2.2) (HE2.out.2.2.2.below H3.out.2.2.2))
  clear hX
  go_upto_region 4 with (
    first
    | (go_at_call 15; refine HRof.out.mono ?_; rintro r w4 ⟨v4, its4, rfl, hI4, hm4, hl4, hb4⟩; obtain ⟨p4, c4, rfl, _⟩ := slice_form hI4.row; have hmm : its3.map Itm.d = its4.map Itm.d := (by rw [H3.out.2.1, hm4]; exact of_congr Hd.out.1 Hd.out.2 till); have hll : its4.length = its3.length := (by have := congrArg List.length hmm; simpa using this.symm); have hI4' := hI4; rw [hll] at hI4' ⊢; have HEqI := hide (eqItems_same w4 w2.heap.size w3.heap.size p3 p4 its3.length c3 c4 its3 its4 (H3.out.1.below hb4) hI4' rfl hmm (by have := H3.out.2.2.1; (try simp only at this); omega) (fun x hx => by have h1 : x.d ∈ ofP ds das till := (by rw [← H3.out.2.1]; exact List.mem_map.2 ⟨x, hx, rfl⟩); exact ofP_small HE2.out.1 das till _ h1)); have HB4 := hide hb4; clear hI4 hI4' hm4 hl4 hb4 hmm hll)
    | (go_at_call 14; refine HEqI.out.mono ?_; rintro r w5 ⟨rfl, hb5⟩; have HB5 : Hid (Below w2.heap.size w2 w5) := (H3.out.2.2.2.trans (HB4.out.mono H3.out.2.2.2.size)).trans (hb5.mono (Nat.le_trans H3.out.2.2.2.size HB4.out.size)); have HCn := hide (count_any w5 ⟨ai, sn, ci, ds⟩ till (HE2.out.1.below HB5.out)); clear hb5)
    | (go_at_call 16; refine HCn.out.mono ?_; rintro r w6 ⟨rfl, hb6⟩; simp only [HX'.out]; have HB6 : Hid (Below w2.heap.size w2 w6) := HB5.out.trans (hb6.mono HB5.out.size); have HRn := hide (rcount_any w6 ⟨sp, sn, sc, xs⟩ till (HE2.out.2.2.1.below HB6.out)); clear hb6)
    | (go_at_call 17; refine HRn.out.mono ?_; rintro r w7 ⟨rfl, hb7⟩; simp only [HX.out]; have HB7 : Hid (Below w2.heap.size w2 w7) := HB6.out.trans (hb7.mono HB6.out.size); have q6 := eq6 n0 n1 n2 n3 n4 n5 w7; clear hb7))
  clear HRof HEqI HCn HRn HB4 HB5 HB6 HX HX'
  have hbox7 : w7.heap[w.heap.size]? = some (.cells c.arr 34 (0, 0)) := (HB7.out.block _ (lt_of_block HX2.out.2.1)).trans HX2.out.2.1
  have hS0 : Below w7.heap.size w7 w7.drew ∧ w7.drew.cell? ⟨w.heap.size, 0, none⟩ = some (.int .i64 c.tills) ∧ w7.drew.cell? ⟨w.heap.size, 1, none⟩ = some (.slice c.cp c.cl c.cc) ∧ w7.drew.cell? ⟨w.heap.size, 2, none⟩ = some (.slice c.pp c.pl c.pc) ∧ w7.drew.cell? ⟨w.heap.size, 3, none⟩ = some (.int .i64 c.lease) ∧ w7.drew.cell? ⟨w.heap.size, 4, none⟩ = some (.int .i64 c.watch) ∧ w7.drew.cell? ⟨w.heap.size, 5, none⟩ = some (.int .i64 c.beat) ∧ w7.drew.cell? ⟨w.heap.size, 6, none⟩ = some (.int .i64 c.window) ∧ w7.drew.cell? ⟨w.heap.size, 7, none⟩ = some (.int .i64 c.cap) ∧ w7.drew.cell? ⟨w.heap.size, 8, none⟩ = some (.int .i64 c.flight) := by
    refine ⟨(Below.refl _ w7).drew, ?_, ?_, ?_, ?_, ?_, ?_, ?_, ?_, ?_⟩ <;> (rw [cell_of_row _ _ _ _ _ _ (show w7.drew.heap[w.heap.size]? = _ from hbox7)]; rfl)
  have HKeep : Hid (∀ v u : World, (Below w7.heap.size w7 v ∧ v.cell? ⟨w.heap.size, 0, none⟩ = some (.int .i64 c.tills) ∧ v.cell? ⟨w.heap.size, 1, none⟩ = some (.slice c.cp c.cl c.cc) ∧ v.cell? ⟨w.heap.size, 2, none⟩ = some (.slice c.pp c.pl c.pc) ∧ v.cell? ⟨w.heap.size, 3, none⟩ = some (.int .i64 c.lease) ∧ v.cell? ⟨w.heap.size, 4, none⟩ = some (.int .i64 c.watch) ∧ v.cell? ⟨w.heap.size, 5, none⟩ = some (.int .i64 c.beat) ∧ v.cell? ⟨w.heap.size, 6, none⟩ = some (.int .i64 c.window) ∧ v.cell? ⟨w.heap.size, 7, none⟩ = some (.int .i64 c.cap) ∧ v.cell? ⟨w.heap.size, 8, none⟩ = some (.int .i64 c.flight)) → Below v.heap.size v u → (Below w7.heap.size w7 u ∧ u.cell? ⟨w.heap.size, 0, none⟩ = some (.int .i64 c.tills) ∧ u.cell? ⟨w.heap.size, 1, none⟩ = some (.slice c.cp c.cl c.cc) ∧ u.cell? ⟨w.heap.size, 2, none⟩ = some (.slice c.pp c.pl c.pc) ∧ u.cell? ⟨w.heap.size, 3, none⟩ = some (.int .i64 c.lease) ∧ u.cell? ⟨w.heap.size, 4, none⟩ = some (.int .i64 c.watch) ∧ u.cell? ⟨w.heap.size, 5, none⟩ = some (.int .i64 c.beat) ∧ u.cell? ⟨w.heap.size, 6, none⟩ = some (.int .i64 c.window) ∧ u.cell? ⟨w.heap.size, 7, none⟩ = some (.int .i64 c.cap) ∧ u.cell? ⟨w.heap.size, 8, none⟩ = some (.int .i64 c.flight))) := fun v u h hb => by
    have hl : w.heap.size < v.heap.size := Nat.lt_of_lt_of_le (lt_of_block hbox7) h.1.size
    obtain ⟨h0, h1, h2, h3, h4, h5, h6, h7, h8, h9⟩ := h
    exact ⟨h0.trans (hb.mono h0.size), (hb.cell (p := ⟨w.heap.size, 0, none⟩) hl).trans h1, (hb.cell (p := ⟨w.heap.size, 1, none⟩) hl).trans h2, (hb.cell (p := ⟨w.heap.size, 2, none⟩) hl).trans h3, (hb.cell (p := ⟨w.heap.size, 3, none⟩) hl).trans h4, (hb.cell (p := ⟨w.heap.size, 4, none⟩) hl).trans h5, (hb.cell (p := ⟨w.heap.size, 5, none⟩) hl).trans h6, (hb.cell (p := ⟨w.heap.size, 6, none⟩) hl).trans h7, (hb.cell (p := ⟨w.heap.size, 7, none⟩) hl).trans h8, (hb.cell (p := ⟨w.heap.size, 8, none⟩) hl).trans h9⟩
  have HEin : Hid (∀ v : World, (Below w7.heap.size w7 v ∧ v.cell? ⟨w.heap.size, 0, none⟩ = some (.int .i64 c.tills) ∧ v.cell? ⟨w.heap.size, 1, none⟩ = some (.slice c.cp c.cl c.cc) ∧ v.cell? ⟨w.heap.size, 2, none⟩ = some (.slice c.pp c.pl c.pc) ∧ v.cell? ⟨w.heap.size, 3, none⟩ = some (.int .i64 c.lease) ∧ v.cell? ⟨w.heap.size, 4, none⟩ = some (.int .i64 c.watch) ∧ v.cell? ⟨w.heap.size, 5, none⟩ = some (.int .i64 c.beat) ∧ v.cell? ⟨w.heap.size, 6, none⟩ = some (.int .i64 c.window) ∧ v.cell? ⟨w.heap.size, 7, none⟩ = some (.int .i64 c.cap) ∧ v.cell? ⟨w.heap.size, 8, none⟩ = some (.int .i64 c.flight)) → Ents v ⟨ai, sn, ci, ds⟩) := fun v h => (HE2.out.1.below HB7.out).below h.1
  have HEs : Hid (∀ v : World, (Below w7.heap.size w7 v ∧ v.cell? ⟨w.heap.size, 0, none⟩ = some (.int .i64 c.tills) ∧ v.cell? ⟨w.heap.size, 1, none⟩ = some (.slice c.cp c.cl c.cc) ∧ v.cell? ⟨w.heap.size, 2, none⟩ = some (.slice c.pp c.pl c.pc) ∧ v.cell? ⟨w.heap.size, 3, none⟩ = some (.int .i64 c.lease) ∧ v.cell? ⟨w.heap.size, 4, none⟩ = some (.int .i64 c.watch) ∧ v.cell? ⟨w.heap.size, 5, none⟩ = some (.int .i64 c.beat) ∧ v.cell? ⟨w.heap.size, 6, none⟩ = some (.int .i64 c.window) ∧ v.cell? ⟨w.heap.size, 7, none⟩ = some (.int .i64 c.cap) ∧ v.cell? ⟨w.heap.size, 8, none⟩ = some (.int .i64 c.flight)) → Ents v ⟨sp, sn, sc, xs⟩) := fun v h => (HE2.out.2.2.1.below HB7.out).below h.1
  have Hlin := hide (lines_congr Hd.out.1)
  have HlinT := hide (linesT_congr Hd.out.1 till)
  have Hml : Hid ((movT (linesT till xs)).length ≤ 140737488355328) := by
    have h1 := movT_len (linesT till xs)
    have h2 : (linesT till xs).length ≤ (linesP xs).length := linesP_le xs (ownB till)
    have h3 := Htot.out
    show _ ≤ _
    omega
  clear q6
  go_region_held3 (fun w' => Below w7.heap.size w7 w' ∧ w'.cell? ⟨w.heap.size, 0, none⟩ = some (.int .i64 c.tills) ∧ w'.cell? ⟨w.heap.size, 1, none⟩ = some (.slice c.cp c.cl c.cc) ∧ w'.cell? ⟨w.heap.size, 2, none⟩ = some (.slice c.pp c.pl c.pc) ∧ w'.cell? ⟨w.heap.size, 3, none⟩ = some (.int .i64 c.lease) ∧ w'.cell? ⟨w.heap.size, 4, none⟩ = some (.int .i64 c.watch) ∧ w'.cell? ⟨w.heap.size, 5, none⟩ = some (.int .i64 c.beat) ∧ w'.cell? ⟨w.heap.size, 6, none⟩ = some (.int .i64 c.window) ∧ w'.cell? ⟨w.heap.size, 7, none⟩ = some (.int .i64 c.cap) ∧ w'.cell? ⟨w.heap.size, 8, none⟩ = some (.int .i64 c.flight)) (first | exact hS0 | exact HKeep.out _ _ (by assumption) (by assumption)) (first
    | (go_at_call 19; refine (sums_any _ c ⟨ai, sn, ci, ds⟩ Hc.out (HEin.out _ (by assumption))).mono ?_; rintro e w8 ⟨g8, rfl, ho8, hb8⟩)
    | (go_at_call 20; refine (rsums_any _ c ⟨sp, sn, sc, xs⟩ Hc.out (HEs.out _ (by assumption))).mono ?_; rintro e w9 ⟨g9, rfl, ho9, hb9⟩)
    | (go_at_call 18; refine (sameSums _ _ _ _ _ _ (sumsT c.cl (linesP xs)) (sumsT_len _ _) (by have := Hc.out; omega) (cel_row (f := i64c) (fun _ => rfl) (owns_keep (by rw [Hlin.out] at ho8; exact ho8) hb9) (sumsT_len _ _)) (cel_row (f := i64c) (fun _ => rfl) ho9 (sumsT_len _ _))).mono ?_; rintro e w10 ⟨rfl, hb10⟩)
    | (go_at_call 22; refine (moved_any _ ⟨ai, sn, ci, ds⟩ till (HEin.out _ (by assumption)) (by rw [Hlin.out]; exact Htot.out)).mono ?_; rintro e w11 ⟨v11, rfl, ho11, hb11⟩; obtain ⟨p11, c11, rfl, _⟩ := slice_form ho11; rw [HlinT.out] at ho11; simp only [HlinT.out])
    | (go_at_call 23; refine (rmoved_any _ ⟨sp, sn, sc, xs⟩ till (HEs.out _ (by assumption)) Htot.out).mono ?_; rintro e w12 ⟨v12, rfl, ho12, hb12⟩; obtain ⟨p12, c12, rfl, _⟩ := slice_form ho12)
    | (go_at_call 21; refine (eqLines_any _ _ _ _ _ _ _ (movT (linesT till xs)) (movT (linesT till xs)) rfl rfl Hml.out (cel_row (f := linc) (fun _ => rfl) (owns_keep ho11 hb12) rfl) (cel_row (f := linc) (fun _ => rfl) ho12 rfl) true (by simp)).mono ?_; rintro e w13 ⟨rfl, hb13⟩))
  have hend : Below w7.heap.size w7 w13 ∧ w13.cell? ⟨w.heap.size, 0, none⟩ = some (.int .i64 c.tills) ∧ w13.cell? ⟨w.heap.size, 1, none⟩ = some (.slice c.cp c.cl c.cc) ∧ w13.cell? ⟨w.heap.size, 2, none⟩ = some (.slice c.pp c.pl c.pc) ∧ w13.cell? ⟨w.heap.size, 3, none⟩ = some (.int .i64 c.lease) ∧ w13.cell? ⟨w.heap.size, 4, none⟩ = some (.int .i64 c.watch) ∧ w13.cell? ⟨w.heap.size, 5, none⟩ = some (.int .i64 c.beat) ∧ w13.cell? ⟨w.heap.size, 6, none⟩ = some (.int .i64 c.window) ∧ w13.cell? ⟨w.heap.size, 7, none⟩ = some (.int .i64 c.cap) ∧ w13.cell? ⟨w.heap.size, 8, none⟩ = some (.int .i64 c.flight) := by assumption
  have Hend := hide (HB7.out.trans (hend.1.mono HB7.out.size))
  clear hend hS0 ho8 ho9 ho11 ho12 hb8 hb9 hb10 hb11 hb12 hb13
  go_wp2
  go_ret
  obtain ⟨ho2, _, kp2⟩ := HX2.out
  have kpE : Kp (fun _ => False) K2 (ext K2 w2.heap.size (0, 0)) w2 w13 := kp_below Hend.out _ K2 _
  exact ⟨ext K2 w2.heap.size (0, 0), C2, rfl, ho2.kept kpE (fun q h => h.elim), kp2.trans (kpE.mono (fun q h => h.elim))⟩
end Go.Proofs.Ytecbidaljchmoaa
