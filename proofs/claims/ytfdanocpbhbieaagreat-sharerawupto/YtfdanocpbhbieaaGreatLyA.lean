import Derived.Test.YtfdanocpbhbieaaGreatSbD
import Derived.Test.YtfdanocpbhbieaaGreatZQ
namespace Go.Proofs.YtfdanocpbhbieaaGreat
open Go.RowKit
open Z (Sli SlOk Acd AcdOk AcLent)

theorem lnN_of {α : Type} {W : World} {B g n c sz : Nat} {e : TypeId} {f : α → List Value} {xs mk : List α} (hf : ∀ x, (f x).length = sz) (h : W.ownsRow B e sz (.slice (some ⟨g, 0, none⟩) (n + 9) c) (n + 9) (Z.flat f (xs ++ mk))) (hl : xs.length = n) (hm : mk.length = 9) : LnN W f sz (some ⟨g, 0, none⟩) n c xs mk := by
  refine ⟨⟨g, rfl⟩, ?_, hl, Z.cel_row hf h (by rw [List.length_append, hl, hm])⟩
  rcases h.2 with ⟨h1, h2⟩ | ⟨g', cap, cur, h1, _, _, h3, _⟩
  · cases h1
  · simp only [Value.slice.injEq] at h1
    obtain ⟨_, _, rfl⟩ := h1
    exact h3
theorem lcells_flat (xs : List Lin) : lcells xs = Z.flat linc xs := by
  induction xs with
  | nil => rfl
  | cons x xs ih => simp [lcells, Z.flat, linc] at *
theorem uc_flat (xs : List Int) : xs.map (Value.int .u64 ·) = Z.flat uc xs := by
  induction xs with
  | nil => rfl
  | cons x xs ih => simp [Z.flat, uc] at *; exact ih
theorem boolc_flat (xs : List Bool) : xs.map (Value.bool ·) = Z.flat boolc xs := by
  induction xs with
  | nil => rfl
  | cons x xs ih => simp [Z.flat, boolc] at *; exact ih
theorem StaLent.bk {B : Nat} {W w : World} {s r : Sta} (h : StaLent B W s r) (hs : StaOk w s) : StaBk W s r ∧ StaOk W r := by
  obtain ⟨pos, ⟨pl, pn, gp, ep, hp⟩, held, ⟨rl, rn, gr, er, hr⟩, ⟨ll, ln, gl, el, hl⟩, ⟨gl', gn, gg, eg, hg⟩, ⟨ol, on, go, eo, ho⟩⟩ := h
  rw [lcells_flat] at hr
  rw [uc_flat] at hl hg
  rw [boolc_flat] at ho
  have hpl : r.pools.length = s.pn := pl.trans hs.pn
  have each : ∀ (i : Nat) (x y : Pl), s.pools[i]? = some x → r.pools[i]? = some y → PlBk W x y := fun i x y hx hy => by
    have q := held i x y hx hy
    obtain ⟨g, e, hrow⟩ := q.row
    rw [lcells_flat] at hrow
    exact ⟨q.v, q.f0, q.f1, q.hl, by rw [e]; exact lnN_of (fun _ => rfl) hrow (hs.held x (List.mem_of_getElem? hx)).len (by rfl)⟩
  have k1 : LnN W plc 4 r.pp s.pn r.pc r.pools marksPool := by rw [ep]; exact lnN_of (fun _ => rfl) hp hpl (by rfl)
  have k2 : LnN W linc 2 r.rp s.rn r.rc s.prices marksPrices := by rw [er]; exact lnN_of (fun _ => rfl) hr hs.rn (by rfl)
  have k3 : LnN W uc 1 r.lp s.ln r.lc s.last marksNumbers := by rw [el]; exact lnN_of (fun _ => rfl) hl hs.ln (by rfl)
  have k4 : LnN W uc 1 r.gp s.gn r.gc s.gen marksNumbers := by rw [eg]; exact lnN_of (fun _ => rfl) hg hs.gn (by rfl)
  have k5 : LnN W boolc 1 r.op s.on r.oc s.owed marksOwed := by rw [eo]; exact lnN_of (fun _ => rfl) ho hs.on (by rfl)
  refine ⟨⟨pos, pn, rn, ln, gn, on, k1, each, k2, k3, k4, k5⟩, ⟨hpl.trans pn.symm, k1.front, fun y hy => ?_, by rw [rl, rn]; exact hs.rn, by rw [rl]; exact k2.front, by rw [ll, ln]; exact hs.ln, by rw [ll]; exact k3.front, by rw [gl', gn]; exact hs.gn, by rw [gl']; exact k4.front, by rw [ol, on]; exact hs.on, by rw [ol]; exact k5.front⟩⟩
  obtain ⟨i, hi⟩ := List.mem_iff_getElem?.1 hy
  obtain ⟨x, hx⟩ : ∃ x, s.pools[i]? = some x := ⟨_, List.getElem?_eq_getElem (by rw [hs.pn, ← hpl]; exact (List.getElem?_eq_some_iff.1 hi).1)⟩
  have q := held i x y hx hi
  have b := each i x y hx hi
  exact ⟨by rw [q.hs, q.hl]; exact (hs.held x (List.mem_of_getElem? hx)).len, by rw [q.hs]; exact b.row.front⟩
theorem lent_slok {α : Type} {B : Nat} {W : World} {e : TypeId} {sz : Nat} {f : α → List Value} {mk : α} {s : Sli α} (hf : ∀ x, (f x).length = sz) (h : Z.Lent B W e sz f mk s.p s.c s.xs) (hn : s.n = s.xs.length) (hm : s.n ≤ 4194304) : SlOk W sz f s := ⟨hn.symm, hm, Z.cel_front (h.cel hf)⟩
theorem lent_acd {B : Nat} {W w : World} {a b : Acd} (h : AcLent B W b) (ha : AcdOk w a) (hd : b.d = a.d) : AcdOk W b := by
  simp only [Z.Acd.d, Z.AcP.mk.injEq] at hd
  obtain ⟨_, _, _, _, e1, e2, e3, _, e4, _, _, _, _, _, e5⟩ := hd
  exact ⟨lent_slok (fun _ => rfl) h.lines h.nlines (by rw [h.nlines, e1, ha.lines.len]; exact ha.lines.most), lent_slok (fun _ => rfl) h.guards h.nguards (by rw [h.nguards, e2, ha.guards.len]; exact ha.guards.most), lent_slok (fun _ => rfl) h.sets h.nsets (by rw [h.nsets, e3, ha.sets.len]; exact ha.sets.most), lent_slok (fun _ => rfl) h.other h.nother (by rw [h.nother, e4, ha.other.len]; exact ha.other.most), lent_slok (fun _ => rfl) h.rights h.nrights (by rw [h.nrights, e5, ha.rights.len]; exact ha.rights.most)⟩
end Go.Proofs.YtfdanocpbhbieaaGreat
