import Derived.Test.YtlmfohcdaahojaaGreatDoorJCrU
import Derived.Test.YtlmfohcdaahojaaGreatDoorJDec
import Derived.Lib.SlBytesConst
import Derived.Deep.RegionHeld3
namespace Go.Proofs.YtlmfohcdaahojaaGreatDoor
open Go.RowKit Go.Maps

theorem Prow.stays {B : Nat} {w w' : World} {a : Option Addr} {j c : Nat} {ps : List (List Nat)} (h : Prow B w a j c ps) (hk : ∀ g, B ≤ g → g < w.heap.size → w'.heap[g]? = w.heap[g]?) : Prow B w' a j c ps := by
  obtain ⟨vs, h1, h2⟩ := h.row
  refine ⟨h.len, vs, ⟨h1.1, h1.2.imp id ?_⟩, fun i p hp => ?_⟩
  · rintro ⟨g, cap, cur, e1, e2, e3, r⟩
    exact ⟨g, cap, cur, e1, e2, (hk g e2 (lt_of_block e3)).trans e3, r⟩
  · obtain ⟨sp, q1, q2, q3⟩ := h2 i p hp
    refine ⟨sp, q1, ?_, q3⟩
    rcases q2 with h | ⟨g, e, h1, h2⟩
    · exact Or.inl h
    · exact Or.inr ⟨g, e, h1, (hk g h1 (lt_of_block h2)).trans h2⟩
/-- What All tells, as a book. -/
theorem bop_tro {q : Nat × Nat → Prop} (hq : ¬ q (0, 0)) {w w' : World} {K : Knd} {a : Option Addr} {k c : Nat} {ts : List (List (List Nat))} (h : Tro w.heap.size w' a k c ts) (hs : ∀ ps ∈ ts, ps.length ≤ 4096 ∧ ∀ p ∈ ps, p.length ≤ 140737488351232) :
    ∃ vs, Bop (Stay q (ext K w.heap.size (0, 0)) w') w' (ext K w.heap.size (0, 0)) (.slice a k c) ts vs := by
  obtain ⟨vs, h1, h2⟩ := h.row
  have hlen := h.len
  have hvl : vs.length = k := by simpa using h1.1
  refine ⟨vs, ⟨⟨?_, ?_⟩, fun ps hp => (hs ps hp).1, fun j ps hj => ?_, fun u hu => ?_⟩⟩
  · rw [hlen]
    refine ⟨h1.1, h1.2.imp id ?_⟩
    rintro ⟨g, cap, cur, e1, e2, e3⟩
    exact ⟨g, cap, cur, e1, Nat.zero_le _, e3⟩
  · intro g hg
    rcases h1.2 with ⟨e1, _⟩ | ⟨g', cap, cur, e1, e2, _⟩
    · cases e1; simp [Value.ownBlock] at hg
    · rw [e1] at hg
      simp [Value.ownBlock] at hg
      subst hg
      exact ext_new _ _ e2
  · obtain ⟨pp, cp, e1, e2⟩ := h2 j ps hj
    refine ⟨pp, cp, e1, fun K2 w2 hk => ?_⟩
    exact (e2.stays fun g hg hlt => hk.block g hlt (by rw [ext_new _ _ hg]; exact hq)).pts (hs ps (List.mem_of_getElem? hj)).2
  · obtain ⟨i, hi, rfl⟩ := List.mem_iff_getElem.1 hu
    obtain ⟨ps, hp⟩ : ∃ ps, ts[i]? = some ps := ⟨_, List.getElem?_eq_getElem (by omega)⟩
    obtain ⟨pp, cp, e1, _⟩ := h2 i ps hp
    have e2 : some (vs[i]'hi) = some (.slice pp ps.length cp) := (List.getElem?_eq_getElem hi).symm.trans e1
    rw [Option.some.inj e2]
    rfl
/-- The walk up to the call that meets the power off. -/
def Gc (r c : Nat) (S : St) (J : Jr) (l : List (List (List Nat))) : Prop := ∃ n, Fd r S J l n c ∧ l.length ≤ c ∧ (∀ ps ∈ l, fitsB ps = true) ∧ c ≤ 20
theorem gc_new {r : Nat} (hr : r ≤ 16777216) : Gc r 0 (St.laid r []) (jnew jx ([], 0, false, 0)) [] := ⟨1, fd_new hr, Nat.le_refl _, fun _ h => (by cases h), by omega⟩
theorem Gc.gd {r c : Nat} {S : St} {J : Jr} {l : List (List (List Nat))} (h : Gc r c S J l) : Gd S J l := by
  obtain ⟨n, h1, _, _, h4⟩ := h
  exact h1.gd (by omega)
theorem lAf_fits {b : Bool} {l : List (List (List Nat))} {ps : List (List Nat)} (h : ∀ p ∈ l, fitsB p = true) (hf : fitsB ps = true) : ∀ p ∈ lAf b l ps, fitsB p = true := fun p hp => by
  unfold lAf at hp
  cases b with
  | true => simp at hp; subst hp; exact hf
  | false =>
    simp at hp
    rcases hp with hp | hp
    · exact h p hp
    · subst hp; exact hf
theorem lAf_len (b : Bool) (l : List (List (List Nat))) (ps : List (List Nat)) : (lAf b l ps).length ≤ l.length + 1 := by
  unfold lAf
  cases b <;> simp
theorem Gc.step {r c : Nat} {S : St} {J : Jr} {l : List (List (List Nat))} (h : Gc r c S J l) (hc : c < 20) (b : Bool) (ps : List (List Nat)) (hf : fitsB ps = true) (hsm : ∀ p ∈ ps, ∀ x ∈ p, x < 256) :
    (∃ S' J', callR b S J ps = (44, S', J') ∧ Gc r (c + 1) S' J' l) ∨ (∃ S' J', callR b S J ps = (0, S', J') ∧ Gc r (c + 1) S' J' (lAf b l ps)) := by
  obtain ⟨n, h1, h2, h3, h4⟩ := h
  rcases h1.step (by omega) b ps hf hsm with ⟨e1, _, e2⟩ | ⟨S', J', e1, e2⟩
  · exact Or.inl ⟨_, _, e1, n, e2, by omega, h3, by omega⟩
  · exact Or.inr ⟨S', J', e1, _, e2, by have := lAf_len b l ps; omega, lAf_fits h3 hf, by omega⟩
theorem offAt_plan {S : St} (h : S.off = false) (p : Nat) : S.planR (p : Int) 0 0 = S.offAt p := by
  unfold St.planR
  rw [if_neg (by rw [h]; simp)]
  rfl
theorem inv_offAt {S : St} (h : Inv S) (p : Nat) : Inv (S.offAt p) := ⟨h.room, h.srt, h.srts, h.ins, h.inf, h.chg, h.nod, h.most, h.mosts, h.used, h.fold⟩
theorem sz_offAt {S : St} {k : Nat} (h : Sz S k) (p : Nat) : Sz (S.offAt p) k := ⟨h.st, Nat.zero_le _, h.ch, h.fl⟩
/-- What is opened over an image. -/
structure Opd (img : Image) (r m : Nat) (l : List (List (List Nat))) : Prop where
  mx : max (sumI img) r = m
  le : m ≤ 16777216
  op : ∃ n τ, Op img m l n τ ∧ n ≤ 40
  len : l.length ≤ 21
theorem Opd.gs {img : Image} {r m : Nat} {l : List (List (List Nat))} (h : Opd img r m l) : ∃ n, Gs (St.laid m img) (jnew jx ((St.laid m img).found jx)) l n 0 ∧ n ≤ 40 := by
  obtain ⟨n, τ, h1, h2⟩ := h.op
  exact ⟨n, h1.gs h.le, h2⟩
theorem Opd.ok {img : Image} {r m : Nat} {l : List (List (List Nat))} (h : Opd img r m l) : okB img m = true := by
  obtain ⟨n, τ, h1, h2⟩ := h.op
  exact h1.ok
theorem Opd.err {img : Image} {r m : Nat} {l : List (List (List Nat))} (h : Opd img r m l) : ((St.laid m img).found jx).2.2.2 = 0 := by
  obtain ⟨n, τ, h1, h2⟩ := h.op
  rw [h1.found]
theorem Opd.inv {img : Image} {r m : Nat} {l : List (List (List Nat))} (h : Opd img r m l) : Inv (St.laid m img) := laid_inv h.le h.ok
theorem Opd.sz {img : Image} {r m : Nat} {l : List (List (List Nat))} (h : Opd img r m l) : Sz (St.laid m img) 0 := by
  obtain ⟨n, τ, h1, h2⟩ := h.op
  exact laid_sz h.le h1.ok h1.small
theorem Opd.nms {img : Image} {r m : Nat} {l : List (List (List Nat))} (h : Opd img r m l) : ∀ p ∈ img, p.1.length ≤ 140737488355328 := fun p hp => by
  have hp' : p ∈ (St.laid m img).image := by rw [laid_image]; exact hp
  have := (nm_len (image_read h.inv hp').2.2).2
  omega
theorem Opd.gd {img : Image} {r m : Nat} {l : List (List (List Nat))} (h : Opd img r m l) : Gd (St.laid m img) (jnew jx ((St.laid m img).found jx)) l := by
  obtain ⟨n, h1, h2⟩ := h.gs
  have := h.len
  exact h1.gd (by omega) (by omega) (by omega)
/-- The walk behind the crash. -/
def Ge (c : Nat) (S : St) (J : Jr) (l : List (List (List Nat))) : Prop := ∃ n, Gs S J l n (25165830 * c) ∧ l.length ≤ 21 + c ∧ n ≤ 40 + 100 * c ∧ c ≤ 20
theorem Opd.ge {img : Image} {r m : Nat} {l : List (List (List Nat))} (h : Opd img r m l) : Ge 0 (St.laid m img) (jnew jx ((St.laid m img).found jx)) l := by
  obtain ⟨n, h1, h2⟩ := h.gs
  exact ⟨n, h1, h.len, h2, by omega⟩
theorem Ge.gd {c : Nat} {S : St} {J : Jr} {l : List (List (List Nat))} (h : Ge c S J l) : Gd S J l := by
  obtain ⟨n, h1, h2, h3, h4⟩ := h
  exact h1.gd (by omega) (by omega) (by omega)
theorem Ge.step {c : Nat} {S : St} {J : Jr} {l : List (List (List Nat))} (h : Ge c S J l) (hc : c < 20) (b : Bool) (ps : List (List Nat)) (hf : fitsB ps = true) (hsm : ∀ p ∈ ps, ∀ x ∈ p, x < 256) :
    (∃ S' J', callR b S J ps = (44, S', J') ∧ Ge (c + 1) S' J' l) ∨ (∃ S' J', callR b S J ps = (0, S', J') ∧ Ge (c + 1) S' J' (lAf b l ps)) := by
  obtain ⟨n, h1, h2, h3, h4⟩ := h
  have e : 25165830 * c + 25165830 = 25165830 * (c + 1) := by omega
  rcases h1.step b ps hf hsm (by omega) with ⟨S', J', e1, e2⟩ | ⟨S', J', e1, e2⟩
  · rw [e] at e2
    exact Or.inl ⟨S', J', e1, n, e2, by omega, by omega, by omega⟩
  · rw [e] at e2
    refine Or.inr ⟨S', J', e1, _, e2, by have := lAf_len b l ps; omega, ?_, by omega⟩
    unfold nAf
    cases b <;> simp <;> omega
/-- THE CALL THAT MEETS THE POWER OFF, and whatever crash behind it. -/
theorem gc_crash {r c : Nat} {S : St} {J : Jr} {l : List (List (List Nat))} (h : Gc r c S J l) (hc : c ≤ 11) (hr : 60000 ≤ r) (hr2 : r ≤ 120000) (b : Bool) (ps : List (List Nat)) (hf : fitsB ps = true) (hsm : ∀ p ∈ ps, ∀ x ∈ p, x < 256) (p : Nat) :
    ∃ e T J', callR b (S.offAt p) J ps = (e, T, J') ∧ Inv T ∧ (∃ k, k ≤ 274877906944 ∧ Sz T k) ∧ (e = 0 ∨ e = 45) ∧ ∀ pk, ∃ m l', Opd (T.crash pk) r m l' ∧ (e = 0 → l' = lAf b l ps) ∧ (l' = l ∨ l' = lAf b l ps) := by
  obtain ⟨n, h1, h2, h3, h4⟩ := h
  have hcn := h1.cnt
  have hro := h1.room
  have hfl := recs_fit_len l n h3 (by omega)
  have hby : (S.v jx).getD [] = (recsOf n l).flatten := by rw [← h1.nm, h1.jd.d.byt, h1.jd.recs]
  have hus : S.used = ((S.v jx).getD []).length := used_one h1.stl.inv h1.vis
  rw [hby] at hus
  obtain ⟨e, T, J', e1, e2, e3, e4, e5, e6⟩ := call_crash b h1.stl h1.jd ps hf hsm h1.seen (by omega) (by rw [hro]; omega) p
  obtain ⟨hl, hok⟩ := rec_fit hf (num := n + l.length) (by omega)
  have hpos := h1.jd.pos
  refine ⟨e, T, J', e1, e2, ⟨_, by omega, e3⟩, e6.elim (fun h => Or.inr h.1) (fun h => Or.inl h.1), fun pk => ?_⟩
  obtain ⟨q1, l', n', τ, q2, q3⟩ := crash_open b h1.jd h1.nm h1.vis h1.emp ps ⟨by omega, hok, hsm⟩ hl (by rw [hby]; omega) e2 e3 e4 e e6 pk
  have hle : l'.length ≤ 21 := by
    rcases q2 with ⟨_, q2, _⟩ | ⟨q2, _⟩
    · rw [q2]; omega
    · rw [q2]; have := lAf_len b l ps; omega
  have hn' : n' ≤ 40 := by
    rcases q2 with ⟨_, _, q2⟩ | ⟨_, q2⟩
    · rw [q2]; omega
    · rw [q2]; unfold nAf; cases b <;> simp <;> omega
  refine ⟨max (sumI (T.crash pk)) r, l', ⟨rfl, by omega, ⟨n', τ, q3 _ (by omega), hn'⟩, hle⟩, fun h0 => ?_, ?_⟩
  · rcases q2 with ⟨q2, _⟩ | ⟨q2, _⟩
    · omega
    · exact q2
  · rcases q2 with ⟨_, q2, _⟩ | ⟨q2, _⟩
    · exact Or.inl q2
    · exact Or.inr q2
end Go.Proofs.YtlmfohcdaahojaaGreatDoor
namespace Go.Proofs.YtlmfohcdaahojaaGreatDoor
open Go.RowKit Go.Maps

/-- Every kind but the plain one. -/
def Nz (k : Nat × Nat) : Prop := k ≠ (0, 0)
theorem nz0 : ¬ Nz (0, 0) := fun h => h rfl
theorem gq_nz {od o : Nat} (h1 : od ≠ 0) (h2 : o ≠ 0) : ∀ k, Gq od o k → Nz k := fun k h e => by
  subst e
  exact h.elim (fun h => h1 h.symm) (fun h => h2 h.symm)
/-- A book whose parts stay whatever disks and journals do. -/
def Nwb (K : Knd) (w : World) (v : Value) (l : List (List (List Nat))) : Prop := ∃ vs, Bop (Stay Nz K w) w K v l vs
theorem Nwb.later {K K' : Knd} {w w' : World} {v : Value} {l : List (List (List Nat))} (h : Nwb K w v l) (hk : Kp Nz K K' w w') : Nwb K' w' v l := by
  obtain ⟨vs, h⟩ := h
  have h' := h.kept hk nz0
  exact ⟨vs, h'.row, h'.few, fun j ps hj => by
    obtain ⟨pp, cp, e1, e2⟩ := h'.el j ps hj
    exact ⟨pp, cp, e1, Stay.later e2 hk⟩, h'.one⟩
theorem Nwb.below {K : Knd} {w w' : World} {v : Value} {l : List (List (List Nat))} (h : Nwb K w v l) (hb : Below w.heap.size w w') : Nwb (ext K w.heap.size (0, 0)) w' v l := h.later (kp_below hb Nz K (0, 0))
theorem Nwb.gm {K : Knd} {w : World} {v : Value} {l : List (List (List Nat))} (h : Nwb K w v l) {od o d jb : Nat} (h1 : od ≠ 0) (h2 : o ≠ 0) {S : St} {J : Jr} (hd : Dk w K od d S) (hj : Jk w K o d jb J) : Gm (Gq od o) K w K w od o d jb S J v l := by
  obtain ⟨vs, h⟩ := h
  exact ⟨hd, hj, ⟨vs, h.row, h.few, fun j ps hj => by
    obtain ⟨pp, cp, e1, e2⟩ := h.el j ps hj
    exact ⟨pp, cp, e1, fun K' w' hk => e2 K' w' (hk.mono (gq_nz h1 h2))⟩, h.one⟩, Kp.refl _ _ _⟩
theorem Nwb.trs {K : Knd} {w : World} {a : Option Addr} {n c : Nat} {l : List (List (List Nat))} (h : Nwb K w (.slice a n c) l) : Trs w a l := by
  obtain ⟨vs, h⟩ := h
  exact h.trs fun _ _ h => h _ _ (Kp.refl _ _ _)
theorem Gm.trs {q : Nat × Nat → Prop} {K : Knd} {w : World} {od o d jb : Nat} {S : St} {J : Jr} {a : Option Addr} {n c : Nat} {l : List (List (List Nat))} (h : Gm q K w K w od o d jb S J (.slice a n c) l) : Trs w a l := by
  obtain ⟨vs, h⟩ := h.bk
  exact h.trs fun _ _ h => h _ _ (Kp.refl _ _ _)
theorem nwb_drewN {K : Knd} {w w' : World} {v : Value} {l : List (List (List Nat))} (h : Nwb K w v l) {q : Nat} (e : w' = w.drewN q) : Nwb K w' v l := by
  rw [e]
  exact h.later ((Kp.refl _ _ _).drewN q)
theorem gm_drewN {q : Nat × Nat → Prop} {K : Knd} {w w' : World} {od o d jb : Nat} {S : St} {J : Jr} {v : Value} {l : List (List (List Nat))} (h : Gm q K w K w od o d jb S J v l) {n : Nat} (e : w' = w.drewN n) : Gm q K w' K w' od o d jb S J v l := by
  rw [e]
  exact (h.still ((Kp.refl _ _ _).drewN n)).self
theorem kp_drewN {q : Nat × Nat → Prop} {K5 K : Knd} {w5 w w' : World} (h : Kp q K5 K w5 w) {n : Nat} (e : w' = w.drewN n) : Kp q K5 K w5 w' := by
  rw [e]
  exact h.trans ((Kp.refl _ _ _).drewN n)
end Go.Proofs.YtlmfohcdaahojaaGreatDoor
namespace Go.Proofs.YtlmfohcdaahojaaGreatDoor
open Go.RowKit Go.Maps

theorem and12 (z : Int) : ∃ i : Nat, i < 4096 ∧ bits .and .i64 z 4095 = (i : Int) := by
  refine ⟨(BitVec.ofInt 64 z).toNat % 4096, Nat.mod_lt _ (by omega), ?_⟩
  show IntKind.i64.wrap ((BitVec.ofInt 64 z &&& BitVec.ofInt 64 4095).toNat : Int) = _
  have h1 : (BitVec.ofInt 64 (4095 : Int)).toNat = 2 ^ 12 - 1 := by decide
  rw [BitVec.toNat_and, h1, Nat.and_two_pow_sub_one_eq_mod, IntKind.wrap_i64]
  omega
set_option maxRecDepth 100000 in
set_option maxHeartbeats 8000000 in
theorem jcrash_all (W : World) (hT : C.Tab W) (rm : Int) (sp : Option Addr) (m cap : Nat) (l : List Cl) (hm : l.length = m) (hml : m * 32 ≤ 140737488351232) (hC : Cls W sp l) (hO : ∀ c ∈ l, ClOk W c) (az sz : Int) (p1 : Option Addr) (n1 c1 : Nat) (k1 : List Int) (hk1 : k1.length = n1) (hn1 : n1 ≤ 140737488351232) (hI1 : Ins W p1 k1) (p2 : Option Addr) (n2 c2 : Nat) (k2 : List Int) (hk2 : k2.length = n2) (hn2 : n2 ≤ 140737488351232) (hI2 : Ins W p2 k2) (p3 : Option Addr) (n3 c3 : Nat) (l3 : List Cl) (hm3 : l3.length = n3) (hml3 : n3 ≤ 140737488351232) (hC3 : Cls W p3 l3) (hO3 : ∀ c ∈ l3, ClOk W c) :
    Calls Tryz.prog 8 #[.agg #[.int .i64 rm, .slice sp m cap, .int .i64 az, .int .i64 sz, .slice p1 n1 c1, .slice p2 n2 c2, .slice p3 n3 c3]] W fun e w' => e = .returned (.bool true) ∧ Below W.heap.size W w' := by
  have HT := hide hT
  have HM := hide hm
  have HC := hide hC
  have HO := hide hO
  have HP1 := hide (And.intro hk1 hI1)
  have HP2 := hide (And.intro hk2 hI2)
  have HP3 := hide (And.intro hm3 (And.intro hC3 hO3))
  obtain ⟨bx, hbx⟩ : ∃ bx : Obj, bx = .cells #[.int .i64 rm, .slice sp m cap, .int .i64 az, .int .i64 sz, .slice p1 n1 c1, .slice p2 n2 c2, .slice p3 n3 c3] 58 := ⟨_, rfl⟩
  have HBx := hide hbx
  have hb1 : Below W.heap.size W (W.alloc (.cells #[.int .i64 rm, .slice sp m cap, .int .i64 az, .int .i64 sz, .slice p1 n1 c1, .slice p2 n2 c2, .slice p3 n3 c3] 58)) := (Below.refl _ _).alloc (Nat.le_refl _) _
  have hx1 : (W.alloc (.cells #[.int .i64 rm, .slice sp m cap, .int .i64 az, .int .i64 sz, .slice p1 n1 c1, .slice p2 n2 c2, .slice p3 n3 c3] 58)).heap[W.heap.size]? = some bx := by rw [hbx]; exact heap_alloc_new _ _
  have HWk := hide (wakes_any _ (hT.below hb1 hT.pos))
  have HB1 := hide hb1
  have HX1 := hide hx1
  obtain ⟨ra, hra, era⟩ := and12 rm
  obtain ⟨aa, haa, eaa⟩ := and16 az
  obtain ⟨sa, hsa, esa⟩ := and16 sz
  obtain ⟨sb, hsb⟩ : ∃ sb, sa % 6 = sb := ⟨_, rfl⟩
  have hsb1 : (sa : Int).tmod 6 = (sb : Int) := by rw [Int.tmod_eq_emod_of_nonneg (by omega)]; omega
  have hsb2 : sb < 6 := by omega
  have HSb1 := hide hsb1
  have HEs := hide esa
  have HEa := hide eaa
  clear hb1 hx1 hT hm hC hO hbx hsb hsb1 esa eaa hk1 hI1 hk2 hI2 hm3 hC3 hO3
  go_enter Tryz.func8, Tryz.ntmps8
  go_wp2_with fail
  refine HWk.out.mono ?_
  rintro e w2 ⟨rfl, hb2⟩
  have hb2' : Below W.heap.size W w2 := HB1.out.trans (hb2.mono (by simp))
  have hx2 : w2.heap[W.heap.size]? = some bx := (hb2.block _ (by simp)).trans HX1.out
  have HB2 := hide hb2'
  have HX2 := hide hx2
  have hs2 := lt_of_block hx2
  have hbw : w2.heap[W.heap.size]? = some (.cells #[.int .i64 rm, .slice sp m cap, .int .i64 az, .int .i64 sz, .slice p1 n1 c1, .slice p2 n2 c2, .slice p3 n3 c3] 58 (0, 0)) := hx2.trans (congrArg some HBx.out)
  have y0 : w2.cell? ⟨W.heap.size, 0, none⟩ = some (.int .i64 rm) := by simp [World.cell?, hbw]
  obtain ⟨ρ, hρ⟩ : ∃ ρ, 60000 + ra = ρ := ⟨_, rfl⟩
  have hρi : (60000 : Int) + (ra : Int) = (ρ : Int) := by omega
  have hρ2 : ρ ≤ 16777216 := by omega
  have hρ3 : 60000 ≤ ρ := by omega
  have hρ4 : ρ ≤ 120000 := by omega
  have HOp := hide (opened_any w2 (fun _ => (0, 0)) 1 2 (by decide) (by decide) (by decide) (.slice none 0 0) [] ρ ρ (by simp [sumI]) (im_nil _ _) (fun _ h => by cases h) hρ2 (by simp [okB, chn, sumI]) (new_stl hρ2).inv 0 (new_stl hρ2).sz (by omega) rfl (HT.out.below HB2.out HT.out.pos) rfl)
  clear hb2 hb2' hx2 hbw
  go_wp2_with fail
  refine HOp.out.mono ?_
  rintro e w3 ⟨d, jb, K3, rfl, hd3, hj3, hk3⟩
  have nq0 : ¬ Gq 1 2 (0, 0) := fun h => h.elim (fun h => by cases h) (fun h => by cases h)
  have hk3' : Kp (Gq 1 2) (fun _ => (0, 0)) K3 w2 w3 := hk3
  have hb3 : Below W.heap.size W w3 := HB2.out.trans ⟨hk3'.os, hk3'.tape, hk3'.output, hk3'.size, fun b hlt => hk3'.block b (by omega) nq0⟩
  have hx3 : w3.heap[W.heap.size]? = some bx := (hk3'.block _ hs2 nq0).trans HX2.out
  have ho3 : ∀ b, b < w2.heap.size → K3 b = (0, 0) := fun b hb => hk3'.same b hb
  have HD3 := hide hd3
  have HJ3 := hide hj3
  have HB3 := hide hb3
  have HX3 := hide hx3
  have HO3 := hide ho3
  have hs3 := lt_of_block hx3
  have hs23 := hk3'.size
  have hbw : w3.heap[W.heap.size]? = some (.cells #[.int .i64 rm, .slice sp m cap, .int .i64 az, .int .i64 sz, .slice p1 n1 c1, .slice p2 n2 c2, .slice p3 n3 c3] 58 (0, 0)) := hx3.trans (congrArg some HBx.out)
  have y1 : w3.cell? ⟨W.heap.size, 1, none⟩ = some (.slice sp m cap) := by simp [World.cell?, hbw]
  have hcb := fun (w : World) (C : Array Value) (n c : Nat) => Lib.run_convert_bytes_const (P := Tryz.prog) w 28 5 C n c Tryz.underlying28 Tryz.underlying5
  obtain ⟨gA, cA, w4, hrA, hclA, hokA, hbA, hfA1, hfA2⟩ := f_append w3 _ rfl sp m cap l HM.out hml (HC.out.below HB3.out) (fun c hc => (HO.out c hc).below HB3.out) 55
  have l1 : W.heap.size < w3.heap.size + 1 := by omega
  have l2 : W.heap.size < w3.heap.size + 1 + 1 := by omega
  have HPl := hide (places_any w4 (some ⟨gA, 0, none⟩) (1 + m) cA _ 12 (by rw [List.length_cons, HM.out]; omega) (by omega) (by omega) hclA hokA)
  rw [show ((12 : Nat) : Int) = 12 from rfl] at HPl
  have HOk := hide hokA
  have HB4 := hide hbA
  have HFa := hide (And.intro hfA1 hfA2)
  clear hclA hokA hbA hfA1 hfA2
  clear hd3 hj3 hk3 hk3' hb3 hx3 ho3 hbw y0 HB2 HX2 HB1 HX1 HWk HOp
  go_wp2_with (at_builtin; refine wpList_app_run rfl (.tmp 33) (.tmp 35) 55 55 rfl (.slice (some ⟨w3.heap.size + 1 + 1, 0, none⟩) 1 1) (.slice sp m cap) _ _ rfl rfl hrA ?_)
  refine HPl.out.mono ?_
  rintro e w5 ⟨la, lc, rfl, hr5, hb5⟩
  clear hrA y1 l1 l2 hcb
  obtain ⟨L, hLq⟩ : ∃ L, plc (fc (w3.heap.size + 1) :: l) 12 = L := ⟨_, rfl⟩
  rw [hLq] at hr5 ⊢
  obtain ⟨q, hq⟩ : ∃ q, L.length = q := ⟨_, rfl⟩
  rw [hq] at hr5 ⊢
  have hq12 : q ≤ 12 := by rw [← hq, ← hLq]; unfold plc; rw [List.length_take]; omega
  have hq1 : 1 ≤ q := by
    rw [← hq, ← hLq]
    unfold plc
    rw [List.filter_cons_of_pos (by show fitsB [fw] = true; exact f_fits)]
    simp
  have hs34 := HB4.out.size
  have hs45 := hb5.size
  have kp5 : Kp (fun _ => False) K3 (ext (ext K3 w3.heap.size (0, 0)) w4.heap.size (0, 0)) w3 w5 := (kp_below HB4.out (fun _ => False) K3 (0, 0)).trans (kp_below hb5 (fun _ => False) _ (0, 0))
  obtain ⟨K5, hK5⟩ : ∃ K5, ext (ext K3 w3.heap.size (0, 0)) w4.heap.size (0, 0) = K5 := ⟨_, rfl⟩
  rw [hK5] at kp5
  have HM5 : Hid (Gm (Gq 1 2) K5 w5 K5 w5 1 2 d jb (St.laid ρ []) (jnew jx ([], 0, false, 0)) (.slice none 0 0) []) := ⟨HD3.out.kept kp5 (fun _ h => h), HJ3.out.kept kp5 (fun _ h => h), ⟨[], bop_nil _ _ _⟩, Kp.refl _ _ _⟩
  have HB5 : Hid (Below W.heap.size W w5) := HB3.out.trans ((HB4.out.trans (hb5.mono hs34)).mono (Nat.le_of_lt hs3))
  have hx5 : w5.heap[W.heap.size]? = some bx := (kp5.block _ hs3 (fun h => h)).trans HX3.out
  have HX5 := hide hx5
  have HO5 : Hid (∀ b, b < w2.heap.size → K5 b = (0, 0)) := fun b hb => (kp5.same b (by omega)).trans (HO3.out b hb)
  have HCl : Hid (Clr w5 K5 la L) := by
    have hl := cls_own hr5
    refine ⟨hl.lie.imp id ?_⟩
    rintro ⟨g, o, e, hg, hc⟩
    refine ⟨g, o, e, hg, ?_, hc⟩
    rcases hr5.2 with ⟨e1, _⟩ | ⟨g3, _, _, e1, e2, _⟩
    · rw [e] at e1; cases e1
    · rw [e] at e1; cases e1; rw [← hK5]; exact ext_new _ _ e2
  have HNew : Hid (∀ b, w3.heap.size ≤ b → b < w5.heap.size → K5 b = (0, 0)) := fun b h1 h2 => by
    rw [← hK5]
    unfold ext
    by_cases h : b < w4.heap.size
    · rw [if_pos h, if_neg (by omega)]
    · rw [if_neg h]
  have HLm : Hid (∀ x ∈ L, Stay (Gq 1 2) K5 w5 x.pp x.ps ∧ x.ps.length = x.k ∧ fitsB x.ps = true ∧ ∀ p ∈ x.ps, ∀ z ∈ p, z < 256) := fun x hx => by
    rw [← hLq] at hx
    have h1 := List.mem_of_mem_take hx
    have h2 := List.mem_filter.1 h1
    have h3 := HOk.out x h2.1
    refine ⟨?_, h3.len, h2.2, h3.small⟩
    rcases List.mem_cons.1 h2.1 with rfl | h4
    · obtain ⟨f1, f2⟩ := HFa.out
      have g1 := lt_of_block f1
      have g2 := lt_of_block f2
      exact f_stay nq0 ((hb5.block _ g1).trans f1) ((hb5.block _ g2).trans f2) (HNew.out _ (by omega) (by omega)) (HNew.out _ (by omega) (by omega))
    · exact stay_of nq0 HB5.out (fun b hb => HO5.out b (by omega)) (HO.out x h4).pts
  have HLq := hide hq
  obtain ⟨_, _, hlf, hlc, hlc2⟩ := owns_form hr5
  cases hlf
  unfold maxLen at hlc2
  have hs5 := lt_of_block hx5
  have hs25 : w2.heap.size ≤ w5.heap.size := by omega
  have HT5 : Hid (∀ K w, Kp (Gq 1 2) K5 K w5 w → C.Tab w ∧ K 0 = (0, 0)) := fun K w hk => ⟨tab_kp (HT.out.below HB5.out HT.out.pos) hk (HO5.out 0 (by have := HT.out.pos; omega)) nq0, (hk.same 0 (by have := HT.out.pos; omega)).trans (HO5.out 0 (by have := HT.out.pos; omega))⟩
  have HBW : Hid (∀ K' w', Kp (Gq 1 2) K5 K' w5 w' → Below W.heap.size W w' ∧ w'.heap[W.heap.size]? = some (.cells #[.int .i64 rm, .slice sp m cap, .int .i64 az, .int .i64 sz, .slice p1 n1 c1, .slice p2 n2 c2, .slice p3 n3 c3] 58 (0, 0))) := fun K' w' hk => ⟨hk.below HB5.out (fun b hb => by rw [HO5.out b (by omega)]; exact nq0), ((hk.block _ hs5 (by rw [HO5.out _ hs2]; exact nq0)).trans HX5.out).trans (congrArg some HBx.out)⟩
  obtain ⟨ab, hab⟩ : ∃ ab, aa % q = ab := ⟨_, rfl⟩
  have hab1 : (aa : Int).tmod (q : Int) = (ab : Int) := by rw [Int.tmod_eq_emod_of_nonneg (by omega)]; rw [← hab]; push_cast; rfl
  have hq0 : ¬ (q : Int) = 0 := by omega
  have hab2 : ab < q := by rw [← hab]; exact Nat.mod_lt aa hq1
  obtain ⟨x, hx⟩ : ∃ x, L[ab]? = some x := ⟨_, List.getElem?_eq_getElem (by rw [hq]; exact hab2)⟩
  obtain ⟨g, og, rfl, hgl, hgk, hcs⟩ : ∃ g o, la = some ⟨g, o, none⟩ ∧ g < w5.heap.size ∧ K5 g = (0, 0) ∧ ∀ (j : Nat) (c : Cl), L[j]? = some c → w5.cell? ⟨g, o + j * 2, none⟩ = some (.bool c.b) ∧ w5.cell? ⟨g, o + j * 2 + 1, none⟩ = some (.slice c.pp c.k c.cap) := by
    rcases HCl.out.lie with e | e
    · rw [e] at hx; simp at hx
    · exact e
  have HCc : Hid (∀ K' w', Kp (Gq 1 2) K5 K' w5 w' → w'.cell? ⟨g, og + ab * 2, none⟩ = some (.bool x.b) ∧ w'.cell? ⟨g, og + ab * 2 + 1, none⟩ = some (.slice x.pp x.k x.cap)) := fun K' w' hk => by
    rw [World.cell?_of_block (w := w5) (hk.block g hgl (by rw [hgk]; exact nq0)), World.cell?_of_block (w := w5) (a := ⟨g, og + ab * 2 + 1, none⟩) (hk.block g hgl (by rw [hgk]; exact nq0))]
    exact hcs ab x hx
  have HC6 : Hid (Clr w5 K5 (some ⟨g, og, none⟩) (L.take ab)) := ⟨Or.inr ⟨g, og, rfl, hgl, hgk, fun j c hj => hcs j c (by
    rw [List.getElem?_take] at hj
    split at hj
    · exact hj
    · cases hj)⟩⟩
  have HX := hide (HLm.out x (List.mem_of_getElem? hx))
  have HTk : Hid ((L.take ab).length = ab) := by show _ = _; rw [List.length_take, hq]; omega
  have HGo := hide (goes_any w5 K5 1 2 d jb (by decide) (by decide) (by decide) (St.laid ρ []) (jnew jx ([], 0, false, 0)) (.slice none 0 0) [] HM5.out (HT5.out _ _ (Kp.refl _ _ _)).1 (HT5.out _ _ (Kp.refl _ _ _)).2 (some ⟨g, og, none⟩) ab lc (L.take ab) HTk.out (by omega) HC6.out (fun y hy => HLm.out y (List.mem_of_mem_take hy)) (Gc ρ) (fun c S J l h => h.gd) 0 (fun c S J l h hlt y hy => h.step (by omega) y.b y.ps (HLm.out y (List.mem_of_mem_take hy)).2.2.1 (HLm.out y (List.mem_of_mem_take hy)).2.2.2) (gc_new hρ2))
  have y2 : w5.cell? ⟨W.heap.size, 2, none⟩ = some (.int .i64 az) := by simp [World.cell?, (HBW.out _ _ (Kp.refl _ _ _)).2]
  have eaa := HEa.out
  have hab3 : (ab : Int) ≤ (lc : Int) := by omega
  have hab0 : (0 : Int) ≤ (ab : Int) := by omega
  clear hr5 hb5 hLq hq hx5 HD3 HJ3 HB3 HX3 HO3 HPl HC HO HM kp5 hK5 HOk hcs hx hab hgl hgk
  go_wp2_with fail
  refine HGo.out.mono ?_
  rintro e w6 ⟨v6, S, J, lb, K6, rfl, hm6, hg6⟩
  rw [Nat.zero_add] at hg6
  obtain ⟨_, vs6, hb6⟩ : ∃ _ : True, ∃ vs, Bop (Stay (Gq 1 2) K5 w5) w6 K6 v6 lb vs := ⟨True.intro, hm6.bk⟩
  obtain ⟨a6, c6, rfl, hc6, hc62⟩ := hb6.row.form
  unfold maxLen at hc62
  have HM6 := hide hm6.self
  have HG6 := hide hg6
  have HK6 := hide hm6.kp
  have hoff : S.off = false := by obtain ⟨n, h1, _⟩ := hg6; exact h1.stl.on.off
  have hl6 : lb.length ≤ 20 := by obtain ⟨n, h1, h2, _, h4⟩ := hg6; omega
  have HPn := hide (Plan_any w6 K6 1 d S hm6.dk (1 + (sb : Int)) 0 0)
  rw [show (1 : Int) + (sb : Int) = ((1 + sb : Nat) : Int) by omega, offAt_plan hoff] at HPn
  have hsbi : (1 : Int) + (sb : Int) = ((1 + sb : Nat) : Int) := by omega
  obtain ⟨pw, hpw⟩ : ∃ pw, 1 + sb = pw := ⟨_, rfl⟩
  rw [hpw] at HPn hsbi
  have esa := HEs.out
  have hsb1 := HSb1.out
  have y3 : w6.cell? ⟨W.heap.size, 3, none⟩ = some (.int .i64 sz) := by simp [World.cell?, (HBW.out _ _ hm6.kp).2]
  clear hm6 hg6 hb6 vs6 HGo y2 hoff hpw hab1 eaa
  go_wp2_with fail
  refine HPn.out.mono ?_
  rintro e w7 ⟨K7, rfl, hd7, hk7⟩
  have HM7 := hide (HM6.out.planned (by decide) (by decide) hk7 hd7)
  have hk7' : Kp (Gq 1 2) K6 K7 w6 w7 := hk7.mono fun _ e => Or.inl e
  have HK7 := hide (HK6.out.trans hk7')
  obtain ⟨t0, t1⟩ := HCc.out _ _ HK7.out
  obtain ⟨E, T, J', hcall, hTv, ⟨kT, hkT, hTz⟩, hE, hcr⟩ := gc_crash HG6.out (by omega) hρ3 hρ4 x.b x.ps HX.out.2.2.1 HX.out.2.2.2 pw
  have hRn : Calls Tryz.prog 29 #[.agg #[.bool x.b, .slice x.pp x.k x.cap], .pointer (some ⟨jb, 0, none⟩)] w7 (Kept5 w7 K7 1 2 d jb (E, T, J')) := by
    have gd := HG6.out.gd
    obtain ⟨k, hk, hz⟩ := gd.sz
    have hkx : x.k ≤ 4096 := by rw [← HX.out.2.1]; have := (fits_small HX.out.2.2.1).1; omega
    have h := run_any x.b w7 K7 1 2 d jb (by decide) (S.offAt pw) J HM7.out.dk (inv_offAt gd.inv pw) k (sz_offAt hz pw) hk HM7.out.jk gd.nm gd.gd (by rw [gd.ln]; have := gd.bk; omega) gd.last x.pp x.k x.cap x.ps HX.out.2.1 hkx (HX.out.1 _ _ HK7.out) HX.out.2.2.2 (HT5.out _ _ HK7.out).1
    rw [hcall] at h
    exact h
  have HRn := hide hRn
  have HTv := hide hTv
  have HTz := hide hTz
  have HCr := hide hcr
  obtain ⟨xb, xp, xk, xc, xs⟩ := x
  simp only at t0 t1 HRn HCr HX HCc
  clear hd7 hk7 hk7' hRn hTv hTz hcr hcall HPn y3 esa hsb1 hsbi
  have hab4 : (ab : Int) < (q : Int) := by omega
  go_wp2_with fail
  rcases hE with hE0 | hE0
  · refine HRn.out.mono ?_
    rintro e w8 ⟨K8, rfl, hd8, hj8, hk8⟩
    have hk8' : Kp (Gq 1 2) K7 K8 w7 w8 := hk8.mono gq_pk
    have HM8 := hide (HM7.out.anew nq0 hk8' hd8 hj8)
    have HK8 := hide (HK7.out.trans hk8')
    clear hd8 hj8 hk8 hk8' t0 t1 HRn
    have hE' : ((E : Int) == 0) = true := by simp; omega
    have HE := hide hE0
    clear hE0
    obtain ⟨t0, t1⟩ := HCc.out _ _ HK8.out
    obtain ⟨vs8, hb8⟩ := HM8.out.bk
    have HAf := hide (afterP_any (Stay (Gq 1 2) K8 w8) w8 K8 xb xp xk xc xs HX.out.2.1 (by have := (fits_small HX.out.2.2.1).1; have := HX.out.2.1; omega) (Stay.later HX.out.1 HK8.out) _ lb vs8 hb8 (by omega))
    clear hb8 vs8
    go_wp2_with fail
    refine HAf.out.mono ?_
    rintro e w9 ⟨v9, vs9, rfl, hb9, hw9⟩
    obtain ⟨lB, hlB⟩ : ∃ lB, lAf xb lb xs = lB := ⟨_, rfl⟩
    rw [hlB] at hb9
    have kp9 := kp_below hw9 (fun _ => False) K8 (0, 0)
    have hm9 : Gm (Gq 1 2) K8 w8 (ext K8 w8.heap.size (0, 0)) w9 1 2 d jb T J' v9 lB := ⟨HM8.out.dk.kept kp9 (fun _ h => h), HM8.out.jk.kept kp9 (fun _ h => h), ⟨vs9, hb9⟩, kp_below hw9 (Gq 1 2) K8 (0, 0)⟩
    have HM9 := hide hm9.self
    have HK9 := hide (HK8.out.trans hm9.kp)
    have HlB := hide hlB
    have hlB2 : lB.length ≤ 21 := by rw [← hlB]; have := lAf_len xb lb xs; omega
    obtain ⟨aB, cB, rfl, hcB, hcB2⟩ := hb9.row.form
    unfold maxLen at hcB2
    clear hb9 hw9 kp9 hm9 hlB t0 t1 HAf
    generalize ext K8 w8.heap.size (0, 0) = K9 at *
    have y4 : w9.cell? ⟨W.heap.size, 4, none⟩ = some (.slice p1 n1 c1) := by simp [World.cell?, (HBW.out _ _ HK9.out).2]
    have HCa := hide (Crash_any w9 K9 1 d T HM9.out.dk HTv.out kT HTz.out hkT p1 n1 c1 k1 HP1.out.1 (HP1.out.2.below (HBW.out _ _ HK9.out).1) (by omega))
    obtain ⟨m1, l', hod, hl0, hl1⟩ := HCr.out k1
    obtain ⟨img, himg⟩ : ∃ img, T.crash k1 = img := ⟨_, rfl⟩
    rw [himg] at HCa hod
    have HOd := hide hod
    have HL1 := hide (And.intro hl0 hl1)
    clear hod hl0 hl1 himg
    go_wp2_with fail
    refine HCa.out.mono ?_
    rintro e w10 ⟨v10, rfl, hi10, hb10⟩
    have HM10 := hide ((HM9.out.below hb10).self)
    have HK10 := hide (HK9.out.trans (kp_below hb10 (Gq 1 2) K9 (0, 0)))
    have HOp := hide (opened_any w10 (ext K9 w9.heap.size (0, 0)) 1 2 (by decide) (by decide) (by decide) v10 img ρ m1 HOd.out.mx hi10 HOd.out.nms HOd.out.le HOd.out.ok HOd.out.inv 0 HOd.out.sz (by omega) HOd.out.err (HT5.out _ _ HK10.out).1 (HT5.out _ _ HK10.out).2)
    obtain ⟨a10, c10, hv10, _, _⟩ := hi10.form
    subst hv10
    clear hi10 hb10 HCa y4
    generalize ext K9 w9.heap.size (0, 0) = K10 at *
    go_wp2_with fail
    refine HOp.out.mono ?_
    rintro e w11 ⟨d2, jb2, K11, rfl, hd11, hj11, hk11⟩
    have HM11 := hide (HM10.out.anew nq0 hk11 hd11 hj11)
    have HK11 := hide (HK10.out.trans hk11)
    have HSr : Hid (Calls Tryz.prog 16 #[.pointer (some ⟨d2, 0, none⟩)] w11 fun e w' => e = .returned (.int .i64 0) ∧ w' = w11) := Strokes_any w11 K11 1 d2 _ hd11
    clear hd11 hj11 hk11 HOp
    go_wp2_with fail
    refine HSr.out.mono ?_
    rintro e wS ⟨rfl, rfl⟩
    have hAll := All_any wS K11 2 d2 jb2 _ HM11.out.jk HOd.out.gd.lens (by rw [HOd.out.gd.ln]; have := HOd.out.len; omega) (HT5.out _ _ HK11.out).1
    rw [HOd.out.gd.all, HOd.out.gd.ln] at hAll
    have HAll := hide hAll
    clear hAll HSr
    go_wp2_with fail
    refine HAll.out.mono ?_
    rintro e wA ⟨aA, cA, rfl, htr, hbA⟩
    have HNow : Hid (Nwb (ext K11 wS.heap.size (0, 0)) wA (.slice aA l'.length cA) l') := bop_tro (K := K11) nz0 htr HOd.out.gd.few
    have HMA := hide ((HM11.out.below hbA).self)
    have HKA := hide (HK11.out.trans (kp_below hbA (Gq 1 2) K11 (0, 0)))
    have hll : l'.length ≤ 21 := HOd.out.len
    clear htr hbA HAll
    generalize ext K11 wS.heap.size (0, 0) = KA at *
    have HTr1 := hide (trans_val wA aA aB l'.length lB.length cA cB l' lB rfl rfl (by omega) (by omega) HNow.out.trs HMA.out.trs)
    have HL' : Hid (l' = lB) := by show _ = _; rw [HL1.out.1 HE.out]; exact HlB.out
    have hdec : decide (l' = lB) = true := by simp [HL'.out]
    rw [hdec] at HTr1
    go_wp2_with fail
    refine HTr1.out.mono ?_
    rintro e wB ⟨rfl, q1, hwB⟩
    have HMB := hide (gm_drewN HMA.out hwB)
    have HNB := hide (nwb_drewN HNow.out hwB)
    have HKB := hide (kp_drewN HKA.out hwB)
    have HTr2 := hide (trans_val wB aA aB l'.length lB.length cA cB l' lB rfl rfl (by omega) (by omega) HNB.out.trs HMB.out.trs)
    rw [hdec] at HTr2
    clear hwB hdec HTr1
    go_wp2_with fail
    refine HTr2.out.mono ?_
    rintro e wE ⟨rfl, q2, hwE⟩
    have HME := hide (gm_drewN HMB.out hwE)
    have HNE := hide (nwb_drewN HNB.out hwE)
    have HKE := hide (kp_drewN HKB.out hwE)
    clear hwE HTr2
    have HTn : Hid (∀ K w, Kp Nz K5 K w5 w → C.Tab w ∧ K 0 = (0, 0)) := fun K w hk => ⟨tab_kp (HT.out.below HB5.out HT.out.pos) hk (HO5.out 0 (by have := HT.out.pos; omega)) nz0, (hk.same 0 (by have := HT.out.pos; omega)).trans (HO5.out 0 (by have := HT.out.pos; omega))⟩
    have HBn : Hid (∀ K' w', Kp Nz K5 K' w5 w' → Below W.heap.size W w' ∧ w'.heap[W.heap.size]? = some (.cells #[.int .i64 rm, .slice sp m cap, .int .i64 az, .int .i64 sz, .slice p1 n1 c1, .slice p2 n2 c2, .slice p3 n3 c3] 58 (0, 0))) := fun K' w' hk => ⟨hk.below HB5.out (fun b hb => by rw [HO5.out b (by omega)]; exact nz0), ((hk.block _ hs5 (by rw [HO5.out _ hs2]; exact nz0)).trans HX5.out).trans (congrArg some HBx.out)⟩
    have HKn := hide (HKE.out.mono (gq_nz (od := 1) (o := 2) (by decide) (by decide)))
    have y5 : wE.cell? ⟨W.heap.size, 5, none⟩ = some (.slice p2 n2 c2) := by simp [World.cell?, (HBn.out _ _ HKn.out).2]
    have hCb := Crash_any wE KA 1 d2 (St.laid m1 img) HME.out.dk HOd.out.inv 0 HOd.out.sz (by omega) p2 n2 c2 k2 HP2.out.1 (HP2.out.2.below (HBn.out _ _ HKn.out).1) (by omega)
    rw [laid_crash] at hCb
    have HCb := hide hCb
    obtain ⟨J1, hJ1⟩ : ∃ J1, jnew jx ((St.laid m1 img).found jx) = J1 := ⟨_, rfl⟩
    have HGd : Hid (Gd (St.laid m1 img) J1 l') := by rw [← hJ1]; exact HOd.out.gd
    have HGe : Hid (Ge 0 (St.laid m1 img) J1 l') := by rw [← hJ1]; exact HOd.out.ge
    have HJE : Hid (Jk wE KA 2 d2 jb2 J1) := by rw [← hJ1]; exact HME.out.jk
    have HJ1 := hide hJ1
    clear hCb HBW HT5 HKE hJ1
    go_wp2_with fail
    refine HCb.out.mono ?_
    rintro e w12 ⟨v12, rfl, hi12, hb12⟩
    have kp12 := kp_below hb12 Nz KA (0, 0)
    have HN12 := hide (HNE.out.below hb12)
    have HK12 := hide (HKn.out.trans kp12)
    have HJ12 := hide (HJE.out.kept (kp_below hb12 (fun _ => False) KA (0, 0)) (fun _ h => h))
    have hOp := opened_any w12 (ext KA wE.heap.size (0, 0)) 3 4 (by decide) (by decide) (by decide) v12 img ρ m1 HOd.out.mx hi12 HOd.out.nms HOd.out.le HOd.out.ok HOd.out.inv 0 HOd.out.sz (by omega) HOd.out.err (HTn.out _ _ HK12.out).1 (HTn.out _ _ HK12.out).2
    rw [HJ1.out] at hOp
    have HOp := hide hOp
    obtain ⟨a12, c12, hv12, _, _⟩ := hi12.form
    subst hv12
    clear hi12 hb12 HCb y5 kp12 hOp
    generalize ext KA wE.heap.size (0, 0) = K12 at *
    go_wp2_with fail
    refine HOp.out.mono ?_
    rintro e w13 ⟨d3, jb3, K13, rfl, hd13, hj13, hk13⟩
    have hk13' : Kp Nz K12 K13 w12 w13 := (show Kp (Gq 3 4) K12 K13 w12 w13 from hk13).mono (gq_nz (by decide) (by decide))
    have HN13 := hide (HN12.out.later hk13')
    have HK13 := hide (HK12.out.trans hk13')
    have HJ13 := hide (HJ12.out.kept hk13 (fun q h => by rcases h with h | h <;> cases h))
    have HD3 := hide hd13
    have HJ3 := hide hj13
    have hAll := All_any w13 K13 4 d3 jb3 _ hj13 HGd.out.lens (by rw [HGd.out.ln]; omega) (HTn.out _ _ HK13.out).1
    rw [HGd.out.all, HGd.out.ln] at hAll
    have HAll := hide hAll
    clear hd13 hj13 hk13 hk13' hAll HOp
    go_wp2_with fail
    refine HAll.out.mono ?_
    rintro e w14 ⟨a14, c14, rfl, htr, hb14⟩
    have kp14 := kp_below hb14 (fun _ => False) K13 (0, 0)
    have HN14 := hide (HN13.out.below hb14)
    have HK14 := hide (HK13.out.trans (kp_below hb14 Nz K13 (0, 0)))
    have HJ14 := hide (HJ13.out.kept kp14 (fun _ h => h))
    have HD14 := hide (HD3.out.kept kp14 (fun _ h => h))
    have HJk14 := hide (HJ3.out.kept kp14 (fun _ h => h))
    have HTr9 := hide (trans_same w14 a14 aA l'.length c14 cA l' rfl (by omega) (htr.trs HGd.out.few) HN14.out.trs)
    clear htr hb14 kp14 HAll
    generalize ext K13 w13.heap.size (0, 0) = K14 at *
    go_wp2_with fail
    refine HTr9.out.mono ?_
    rintro e w15 ⟨rfl, q9, hw15⟩
    have kp15 : Kp (fun _ => False) K14 K14 w14 w15 := by rw [hw15]; exact (Kp.refl _ _ _).drewN q9
    have HN15 := hide (nwb_drewN HN14.out hw15)
    have HK15 := hide (kp_drewN HK14.out hw15)
    have HJ15 := hide (HJ14.out.kept kp15 (fun _ h => h))
    have HD15 := hide (HD14.out.kept kp15 (fun _ h => h))
    have HJk15 := hide (HJk14.out.kept kp15 (fun _ h => h))
    have HNx1 := hide (next_any w15 K14 4 d3 jb3 J1 HJk15.out HGd.out.last)
    have HNx2 := hide (next_any w15 K14 2 d2 jb2 J1 HJ15.out HGd.out.last)
    have HTo1 := hide (jtorn_any w15 K14 4 d3 jb3 J1 HJk15.out)
    have HTo2 := hide (jtorn_any w15 K14 2 d2 jb2 J1 HJ15.out)
    clear hw15 kp15 HTr9
    go_wp2_with fail
    refine HNx1.out.mono ?_
    rintro e wN1 ⟨rfl, rfl⟩
    go_wp2_with fail
    refine HNx2.out.mono ?_
    rintro e wN2 ⟨rfl, rfl⟩
    go_wp2_with fail
    refine HTo1.out.mono ?_
    rintro e wN3 ⟨rfl, rfl⟩
    go_wp2_with fail
    refine HTo2.out.mono ?_
    rintro e wN4 ⟨rfl, rfl⟩
    have y6 : wN4.cell? ⟨W.heap.size, 6, none⟩ = some (.slice p3 n3 c3) := by simp [World.cell?, (HBn.out _ _ HK15.out).2]
    have HPl3 := hide (places_any wN4 p3 n3 c3 l3 6 HP3.out.1 (by omega) (by omega) (HP3.out.2.1.below (HBn.out _ _ HK15.out).1) (fun c hc => (HP3.out.2.2 c hc).below (HBn.out _ _ HK15.out).1))
    rw [show ((6 : Nat) : Int) = 6 from rfl] at HPl3
    clear HNx1 HNx2 HTo1 HTo2
    go_wp2_with fail
    refine HPl3.out.mono ?_
    rintro e w16 ⟨l16, c16, rfl, hr16, hb16⟩
    obtain ⟨L3, hL3⟩ : ∃ L3, plc l3 6 = L3 := ⟨_, rfl⟩
    rw [hL3] at hr16 ⊢
    obtain ⟨q3, hq3⟩ : ∃ q3, L3.length = q3 := ⟨_, rfl⟩
    rw [hq3] at hr16 ⊢
    have hq6 : q3 ≤ 6 := by rw [← hq3, ← hL3]; unfold plc; rw [List.length_take]; omega
    have kp16 := kp_below hb16 (fun _ => False) K14 (0, 0)
    have HK16 := hide (HK15.out.trans (kp_below hb16 Nz K14 (0, 0)))
    have HM16 := hide ((HN15.out.below hb16).gm (od := 3) (o := 4) (by decide) (by decide) (HD15.out.kept kp16 (fun _ h => h)) (HJk15.out.kept kp16 (fun _ h => h)))
    have nq3 : ¬ Gq 3 4 (0, 0) := fun h => gq_nz (by decide) (by decide) _ h rfl
    have HCl3 : Hid (Clr w16 (ext K14 wN4.heap.size (0, 0)) l16 L3) := by
      have hl := cls_own hr16
      refine ⟨hl.lie.imp id ?_⟩
      rintro ⟨g, o, e, hg, hc⟩
      refine ⟨g, o, e, hg, ?_, hc⟩
      rcases hr16.2 with ⟨e1, _⟩ | ⟨g3, _, _, e1, e2, _⟩
      · rw [e] at e1; cases e1
      · rw [e] at e1; cases e1; exact ext_new _ _ e2
    have HLm3 : Hid (∀ x ∈ L3, Stay (Gq 3 4) (ext K14 wN4.heap.size (0, 0)) w16 x.pp x.ps ∧ x.ps.length = x.k ∧ fitsB x.ps = true ∧ ∀ p ∈ x.ps, ∀ z ∈ p, z < 256) := fun x hx => by
      rw [← hL3] at hx
      have h1 := List.mem_of_mem_take hx
      have h2 := List.mem_filter.1 h1
      have h3 := HP3.out.2.2 x h2.1
      refine ⟨stay_of nq3 (HBn.out _ _ HK16.out).1 (fun b hb => (HK16.out.same b (by omega)).trans (HO5.out b (by omega))) h3.pts, h3.len, h2.2, h3.small⟩
    have HGo3 := hide (goes_any w16 (ext K14 wN4.heap.size (0, 0)) 3 4 d3 jb3 (by decide) (by decide) (by decide) (St.laid m1 img) J1 (.slice aA l'.length cA) l' HM16.out (HTn.out _ _ HK16.out).1 (HTn.out _ _ HK16.out).2 l16 q3 c16 L3 hq3 (by omega) HCl3.out HLm3.out Ge (fun c S J l h => h.gd) 0 (fun c S J l h hlt y hy => h.step (by omega) y.b y.ps (HLm3.out y hy).2.2.1 (HLm3.out y hy).2.2.2) HGe.out)
    obtain ⟨_, _, hlf3, _, _⟩ := owns_form hr16
    cases hlf3
    clear hr16 hb16 kp16 hL3 hq3 y6 HPl3
    generalize ext K14 wN4.heap.size (0, 0) = K16 at *
    go_wp2_with fail
    refine HGo3.out.mono ?_
    rintro e w17 ⟨v17, S17, J17, l17, K17, rfl, hm17, _⟩
    have HBF := hide (HBn.out _ _ (HK16.out.trans (hm17.kp.mono (gq_nz (by decide) (by decide))))).1
    obtain ⟨vs17, hb17⟩ := hm17.bk
    obtain ⟨a17, c17, rfl, _, _⟩ := hb17.row.form
    clear hm17 hb17 HGo3
    go_wp2
    go_ret
    exact ⟨rfl, HBF.out⟩
  · refine HRn.out.mono ?_
    rintro e w8 ⟨K8, rfl, hd8, hj8, hk8⟩
    have hk8' : Kp (Gq 1 2) K7 K8 w7 w8 := hk8.mono gq_pk
    have HM8 := hide (HM7.out.anew nq0 hk8' hd8 hj8)
    have HK8 := hide (HK7.out.trans hk8')
    clear hd8 hj8 hk8 hk8' t0 t1 HRn
    have hE' : ((E : Int) == 0) = false := by simp; omega
    have hE3 : ((E : Int) != 45) = false := by simp; omega
    have HM9 := HM8
    have HK9 := HK8
    have y4 : w8.cell? ⟨W.heap.size, 4, none⟩ = some (.slice p1 n1 c1) := by simp [World.cell?, (HBW.out _ _ HK9.out).2]
    have HCa := hide (Crash_any w8 K8 1 d T HM9.out.dk HTv.out kT HTz.out hkT p1 n1 c1 k1 HP1.out.1 (HP1.out.2.below (HBW.out _ _ HK9.out).1) (by omega))
    obtain ⟨m1, l', hod, hl0, hl1⟩ := HCr.out k1
    obtain ⟨img, himg⟩ : ∃ img, T.crash k1 = img := ⟨_, rfl⟩
    rw [himg] at HCa hod
    have HOd := hide hod
    have HL1 := hide (And.intro hl0 hl1)
    clear hod hl0 hl1 himg
    go_wp2_with fail
    refine HCa.out.mono ?_
    rintro e w10 ⟨v10, rfl, hi10, hb10⟩
    have HM10 := hide ((HM9.out.below hb10).self)
    have HK10 := hide (HK9.out.trans (kp_below hb10 (Gq 1 2) K8 (0, 0)))
    have HOp := hide (opened_any w10 (ext K8 w8.heap.size (0, 0)) 1 2 (by decide) (by decide) (by decide) v10 img ρ m1 HOd.out.mx hi10 HOd.out.nms HOd.out.le HOd.out.ok HOd.out.inv 0 HOd.out.sz (by omega) HOd.out.err (HT5.out _ _ HK10.out).1 (HT5.out _ _ HK10.out).2)
    obtain ⟨a10, c10, hv10, _, _⟩ := hi10.form
    subst hv10
    clear hi10 hb10 HCa y4
    generalize ext K8 w8.heap.size (0, 0) = K10 at *
    go_wp2_with fail
    refine HOp.out.mono ?_
    rintro e w11 ⟨d2, jb2, K11, rfl, hd11, hj11, hk11⟩
    have HM11 := hide (HM10.out.anew nq0 hk11 hd11 hj11)
    have HK11 := hide (HK10.out.trans hk11)
    have HSr : Hid (Calls Tryz.prog 16 #[.pointer (some ⟨d2, 0, none⟩)] w11 fun e w' => e = .returned (.int .i64 0) ∧ w' = w11) := Strokes_any w11 K11 1 d2 _ hd11
    clear hd11 hj11 hk11 HOp
    go_wp2_with fail
    refine HSr.out.mono ?_
    rintro e wS ⟨rfl, rfl⟩
    have hAll := All_any wS K11 2 d2 jb2 _ HM11.out.jk HOd.out.gd.lens (by rw [HOd.out.gd.ln]; have := HOd.out.len; omega) (HT5.out _ _ HK11.out).1
    rw [HOd.out.gd.all, HOd.out.gd.ln] at hAll
    have HAll := hide hAll
    clear hAll HSr
    go_wp2_with fail
    refine HAll.out.mono ?_
    rintro e wA ⟨aA, cA, rfl, htr, hbA⟩
    have HNow : Hid (Nwb (ext K11 wS.heap.size (0, 0)) wA (.slice aA l'.length cA) l') := bop_tro (K := K11) nz0 htr HOd.out.gd.few
    have HMA := hide ((HM11.out.below hbA).self)
    have HKA := hide (HK11.out.trans (kp_below hbA (Gq 1 2) K11 (0, 0)))
    have hll : l'.length ≤ 21 := HOd.out.len
    clear htr hbA HAll
    generalize ext K11 wS.heap.size (0, 0) = KA at *
    have HTr1 := hide (trans_val wA aA a6 l'.length lb.length cA c6 l' lb rfl rfl (by omega) (by omega) HNow.out.trs HMA.out.trs)
    by_cases hdl : l' = lb
    · have hdec : decide (l' = lb) = true := by simp [hdl]
      rw [hdec] at HTr1
      clear hdec hdl
      go_wp2_with fail
      refine HTr1.out.mono ?_
      rintro e wE ⟨rfl, q1, hwE⟩
      have HME := hide (gm_drewN HMA.out hwE)
      have HNE := hide (nwb_drewN HNow.out hwE)
      have HKE := hide (kp_drewN HKA.out hwE)
      clear hwE HTr1
      have HTn : Hid (∀ K w, Kp Nz K5 K w5 w → C.Tab w ∧ K 0 = (0, 0)) := fun K w hk => ⟨tab_kp (HT.out.below HB5.out HT.out.pos) hk (HO5.out 0 (by have := HT.out.pos; omega)) nz0, (hk.same 0 (by have := HT.out.pos; omega)).trans (HO5.out 0 (by have := HT.out.pos; omega))⟩
      have HBn : Hid (∀ K' w', Kp Nz K5 K' w5 w' → Below W.heap.size W w' ∧ w'.heap[W.heap.size]? = some (.cells #[.int .i64 rm, .slice sp m cap, .int .i64 az, .int .i64 sz, .slice p1 n1 c1, .slice p2 n2 c2, .slice p3 n3 c3] 58 (0, 0))) := fun K' w' hk => ⟨hk.below HB5.out (fun b hb => by rw [HO5.out b (by omega)]; exact nz0), ((hk.block _ hs5 (by rw [HO5.out _ hs2]; exact nz0)).trans HX5.out).trans (congrArg some HBx.out)⟩
      have HKn := hide (HKE.out.mono (gq_nz (od := 1) (o := 2) (by decide) (by decide)))
      have y5 : wE.cell? ⟨W.heap.size, 5, none⟩ = some (.slice p2 n2 c2) := by simp [World.cell?, (HBn.out _ _ HKn.out).2]
      have hCb := Crash_any wE KA 1 d2 (St.laid m1 img) HME.out.dk HOd.out.inv 0 HOd.out.sz (by omega) p2 n2 c2 k2 HP2.out.1 (HP2.out.2.below (HBn.out _ _ HKn.out).1) (by omega)
      rw [laid_crash] at hCb
      have HCb := hide hCb
      obtain ⟨J1, hJ1⟩ : ∃ J1, jnew jx ((St.laid m1 img).found jx) = J1 := ⟨_, rfl⟩
      have HGd : Hid (Gd (St.laid m1 img) J1 l') := by rw [← hJ1]; exact HOd.out.gd
      have HGe : Hid (Ge 0 (St.laid m1 img) J1 l') := by rw [← hJ1]; exact HOd.out.ge
      have HJE : Hid (Jk wE KA 2 d2 jb2 J1) := by rw [← hJ1]; exact HME.out.jk
      have HJ1 := hide hJ1
      clear hCb HBW HT5 HKE hJ1
      go_wp2_with fail
      refine HCb.out.mono ?_
      rintro e w12 ⟨v12, rfl, hi12, hb12⟩
      have kp12 := kp_below hb12 Nz KA (0, 0)
      have HN12 := hide (HNE.out.below hb12)
      have HK12 := hide (HKn.out.trans kp12)
      have HJ12 := hide (HJE.out.kept (kp_below hb12 (fun _ => False) KA (0, 0)) (fun _ h => h))
      have hOp := opened_any w12 (ext KA wE.heap.size (0, 0)) 3 4 (by decide) (by decide) (by decide) v12 img ρ m1 HOd.out.mx hi12 HOd.out.nms HOd.out.le HOd.out.ok HOd.out.inv 0 HOd.out.sz (by omega) HOd.out.err (HTn.out _ _ HK12.out).1 (HTn.out _ _ HK12.out).2
      rw [HJ1.out] at hOp
      have HOp := hide hOp
      obtain ⟨a12, c12, hv12, _, _⟩ := hi12.form
      subst hv12
      clear hi12 hb12 HCb y5 kp12 hOp
      generalize ext KA wE.heap.size (0, 0) = K12 at *
      go_wp2_with fail
      refine HOp.out.mono ?_
      rintro e w13 ⟨d3, jb3, K13, rfl, hd13, hj13, hk13⟩
      have hk13' : Kp Nz K12 K13 w12 w13 := (show Kp (Gq 3 4) K12 K13 w12 w13 from hk13).mono (gq_nz (by decide) (by decide))
      have HN13 := hide (HN12.out.later hk13')
      have HK13 := hide (HK12.out.trans hk13')
      have HJ13 := hide (HJ12.out.kept hk13 (fun q h => by rcases h with h | h <;> cases h))
      have HD3 := hide hd13
      have HJ3 := hide hj13
      have hAll := All_any w13 K13 4 d3 jb3 _ hj13 HGd.out.lens (by rw [HGd.out.ln]; omega) (HTn.out _ _ HK13.out).1
      rw [HGd.out.all, HGd.out.ln] at hAll
      have HAll := hide hAll
      clear hd13 hj13 hk13 hk13' hAll HOp
      go_wp2_with fail
      refine HAll.out.mono ?_
      rintro e w14 ⟨a14, c14, rfl, htr, hb14⟩
      have kp14 := kp_below hb14 (fun _ => False) K13 (0, 0)
      have HN14 := hide (HN13.out.below hb14)
      have HK14 := hide (HK13.out.trans (kp_below hb14 Nz K13 (0, 0)))
      have HJ14 := hide (HJ13.out.kept kp14 (fun _ h => h))
      have HD14 := hide (HD3.out.kept kp14 (fun _ h => h))
      have HJk14 := hide (HJ3.out.kept kp14 (fun _ h => h))
      have HTr9 := hide (trans_same w14 a14 aA l'.length c14 cA l' rfl (by omega) (htr.trs HGd.out.few) HN14.out.trs)
      clear htr hb14 kp14 HAll
      generalize ext K13 w13.heap.size (0, 0) = K14 at *
      go_wp2_with fail
      refine HTr9.out.mono ?_
      rintro e w15 ⟨rfl, q9, hw15⟩
      have kp15 : Kp (fun _ => False) K14 K14 w14 w15 := by rw [hw15]; exact (Kp.refl _ _ _).drewN q9
      have HN15 := hide (nwb_drewN HN14.out hw15)
      have HK15 := hide (kp_drewN HK14.out hw15)
      have HJ15 := hide (HJ14.out.kept kp15 (fun _ h => h))
      have HD15 := hide (HD14.out.kept kp15 (fun _ h => h))
      have HJk15 := hide (HJk14.out.kept kp15 (fun _ h => h))
      have HNx1 := hide (next_any w15 K14 4 d3 jb3 J1 HJk15.out HGd.out.last)
      have HNx2 := hide (next_any w15 K14 2 d2 jb2 J1 HJ15.out HGd.out.last)
      have HTo1 := hide (jtorn_any w15 K14 4 d3 jb3 J1 HJk15.out)
      have HTo2 := hide (jtorn_any w15 K14 2 d2 jb2 J1 HJ15.out)
      clear hw15 kp15 HTr9
      go_wp2_with fail
      refine HNx1.out.mono ?_
      rintro e wN1 ⟨rfl, rfl⟩
      go_wp2_with fail
      refine HNx2.out.mono ?_
      rintro e wN2 ⟨rfl, rfl⟩
      go_wp2_with fail
      refine HTo1.out.mono ?_
      rintro e wN3 ⟨rfl, rfl⟩
      go_wp2_with fail
      refine HTo2.out.mono ?_
      rintro e wN4 ⟨rfl, rfl⟩
      have y6 : wN4.cell? ⟨W.heap.size, 6, none⟩ = some (.slice p3 n3 c3) := by simp [World.cell?, (HBn.out _ _ HK15.out).2]
      have HPl3 := hide (places_any wN4 p3 n3 c3 l3 6 HP3.out.1 (by omega) (by omega) (HP3.out.2.1.below (HBn.out _ _ HK15.out).1) (fun c hc => (HP3.out.2.2 c hc).below (HBn.out _ _ HK15.out).1))
      rw [show ((6 : Nat) : Int) = 6 from rfl] at HPl3
      clear HNx1 HNx2 HTo1 HTo2
      go_wp2_with fail
      refine HPl3.out.mono ?_
      rintro e w16 ⟨l16, c16, rfl, hr16, hb16⟩
      obtain ⟨L3, hL3⟩ : ∃ L3, plc l3 6 = L3 := ⟨_, rfl⟩
      rw [hL3] at hr16 ⊢
      obtain ⟨q3, hq3⟩ : ∃ q3, L3.length = q3 := ⟨_, rfl⟩
      rw [hq3] at hr16 ⊢
      have hq6 : q3 ≤ 6 := by rw [← hq3, ← hL3]; unfold plc; rw [List.length_take]; omega
      have kp16 := kp_below hb16 (fun _ => False) K14 (0, 0)
      have HK16 := hide (HK15.out.trans (kp_below hb16 Nz K14 (0, 0)))
      have HM16 := hide ((HN15.out.below hb16).gm (od := 3) (o := 4) (by decide) (by decide) (HD15.out.kept kp16 (fun _ h => h)) (HJk15.out.kept kp16 (fun _ h => h)))
      have nq3 : ¬ Gq 3 4 (0, 0) := fun h => gq_nz (by decide) (by decide) _ h rfl
      have HCl3 : Hid (Clr w16 (ext K14 wN4.heap.size (0, 0)) l16 L3) := by
        have hl := cls_own hr16
        refine ⟨hl.lie.imp id ?_⟩
        rintro ⟨g, o, e, hg, hc⟩
        refine ⟨g, o, e, hg, ?_, hc⟩
        rcases hr16.2 with ⟨e1, _⟩ | ⟨g3, _, _, e1, e2, _⟩
        · rw [e] at e1; cases e1
        · rw [e] at e1; cases e1; exact ext_new _ _ e2
      have HLm3 : Hid (∀ x ∈ L3, Stay (Gq 3 4) (ext K14 wN4.heap.size (0, 0)) w16 x.pp x.ps ∧ x.ps.length = x.k ∧ fitsB x.ps = true ∧ ∀ p ∈ x.ps, ∀ z ∈ p, z < 256) := fun x hx => by
        rw [← hL3] at hx
        have h1 := List.mem_of_mem_take hx
        have h2 := List.mem_filter.1 h1
        have h3 := HP3.out.2.2 x h2.1
        refine ⟨stay_of nq3 (HBn.out _ _ HK16.out).1 (fun b hb => (HK16.out.same b (by omega)).trans (HO5.out b (by omega))) h3.pts, h3.len, h2.2, h3.small⟩
      have HGo3 := hide (goes_any w16 (ext K14 wN4.heap.size (0, 0)) 3 4 d3 jb3 (by decide) (by decide) (by decide) (St.laid m1 img) J1 (.slice aA l'.length cA) l' HM16.out (HTn.out _ _ HK16.out).1 (HTn.out _ _ HK16.out).2 l16 q3 c16 L3 hq3 (by omega) HCl3.out HLm3.out Ge (fun c S J l h => h.gd) 0 (fun c S J l h hlt y hy => h.step (by omega) y.b y.ps (HLm3.out y hy).2.2.1 (HLm3.out y hy).2.2.2) HGe.out)
      obtain ⟨_, _, hlf3, _, _⟩ := owns_form hr16
      cases hlf3
      clear hr16 hb16 kp16 hL3 hq3 y6 HPl3
      generalize ext K14 wN4.heap.size (0, 0) = K16 at *
      go_wp2_with fail
      refine HGo3.out.mono ?_
      rintro e w17 ⟨v17, S17, J17, l17, K17, rfl, hm17, _⟩
      have HBF := hide (HBn.out _ _ (HK16.out.trans (hm17.kp.mono (gq_nz (by decide) (by decide))))).1
      obtain ⟨vs17, hb17⟩ := hm17.bk
      obtain ⟨a17, c17, rfl, _, _⟩ := hb17.row.form
      clear hm17 hb17 HGo3
      go_wp2
      go_ret
      exact ⟨rfl, HBF.out⟩
    · have hdec : decide (l' = lb) = false := by simp [hdl]
      rw [hdec] at HTr1
      have HL' : Hid (l' = lAf xb lb xs) := HL1.out.2.resolve_left hdl
      clear hdec hdl
      go_wp2_with fail
      refine HTr1.out.mono ?_
      rintro e wB ⟨rfl, q1, hwB⟩
      have HMB := hide (gm_drewN HMA.out hwB)
      have HNB := hide (nwb_drewN HNow.out hwB)
      have HKB := hide (kp_drewN HKA.out hwB)
      obtain ⟨t0, t1⟩ := HCc.out _ _ HKB.out
      obtain ⟨vsB, hbB⟩ := HMB.out.bk
      have HAf := hide (afterP_any (Stay (Gq 1 2) KA wB) wB KA xb xp xk xc xs HX.out.2.1 (by have := (fits_small HX.out.2.2.1).1; have := HX.out.2.1; omega) (Stay.later HX.out.1 HKB.out) _ lb vsB hbB (by omega))
      clear hbB vsB hwB HTr1
      go_wp2_with fail
      refine HAf.out.mono ?_
      rintro e wC ⟨vC, vsC, rfl, hbC, hwC⟩
      have kpC := kp_below hwC (fun _ => False) KA (0, 0)
      have hmC : Gm (Gq 1 2) KA wB (ext KA wB.heap.size (0, 0)) wC 1 2 d2 jb2 (St.laid m1 img) (jnew jx ((St.laid m1 img).found jx)) vC (lAf xb lb xs) := ⟨HMB.out.dk.kept kpC (fun _ h => h), HMB.out.jk.kept kpC (fun _ h => h), ⟨vsC, hbC⟩, kp_below hwC (Gq 1 2) KA (0, 0)⟩
      have HMC := hide hmC.self
      have HKC := hide (HKB.out.trans hmC.kp)
      have HNC := hide (HNB.out.below hwC)
      obtain ⟨aC, cC, rfl, hcC, hcC2⟩ := hbC.row.form
      unfold maxLen at hcC2
      have hTr2 := trans_val wC aA aC l'.length (lAf xb lb xs).length cA cC l' (lAf xb lb xs) rfl rfl (by omega) (by have := lAf_len xb lb xs; omega) HNC.out.trs HMC.out.trs
      rw [show decide (l' = lAf xb lb xs) = true by simp [HL'.out]] at hTr2
      have HTr2 := hide hTr2
      clear hbC hwC kpC hmC t0 t1 HAf hTr2
      generalize ext KA wB.heap.size (0, 0) = KC at *
      go_wp2_with fail
      refine HTr2.out.mono ?_
      rintro e wE ⟨rfl, q2, hwE⟩
      have HME := hide (gm_drewN HMC.out hwE)
      have HNE := hide (nwb_drewN HNC.out hwE)
      have HKE := hide (kp_drewN HKC.out hwE)
      clear hwE HTr2
      have HTn : Hid (∀ K w, Kp Nz K5 K w5 w → C.Tab w ∧ K 0 = (0, 0)) := fun K w hk => ⟨tab_kp (HT.out.below HB5.out HT.out.pos) hk (HO5.out 0 (by have := HT.out.pos; omega)) nz0, (hk.same 0 (by have := HT.out.pos; omega)).trans (HO5.out 0 (by have := HT.out.pos; omega))⟩
      have HBn : Hid (∀ K' w', Kp Nz K5 K' w5 w' → Below W.heap.size W w' ∧ w'.heap[W.heap.size]? = some (.cells #[.int .i64 rm, .slice sp m cap, .int .i64 az, .int .i64 sz, .slice p1 n1 c1, .slice p2 n2 c2, .slice p3 n3 c3] 58 (0, 0))) := fun K' w' hk => ⟨hk.below HB5.out (fun b hb => by rw [HO5.out b (by omega)]; exact nz0), ((hk.block _ hs5 (by rw [HO5.out _ hs2]; exact nz0)).trans HX5.out).trans (congrArg some HBx.out)⟩
      have HKn := hide (HKE.out.mono (gq_nz (od := 1) (o := 2) (by decide) (by decide)))
      have y5 : wE.cell? ⟨W.heap.size, 5, none⟩ = some (.slice p2 n2 c2) := by simp [World.cell?, (HBn.out _ _ HKn.out).2]
      have hCb := Crash_any wE KC 1 d2 (St.laid m1 img) HME.out.dk HOd.out.inv 0 HOd.out.sz (by omega) p2 n2 c2 k2 HP2.out.1 (HP2.out.2.below (HBn.out _ _ HKn.out).1) (by omega)
      rw [laid_crash] at hCb
      have HCb := hide hCb
      obtain ⟨J1, hJ1⟩ : ∃ J1, jnew jx ((St.laid m1 img).found jx) = J1 := ⟨_, rfl⟩
      have HGd : Hid (Gd (St.laid m1 img) J1 l') := by rw [← hJ1]; exact HOd.out.gd
      have HGe : Hid (Ge 0 (St.laid m1 img) J1 l') := by rw [← hJ1]; exact HOd.out.ge
      have HJE : Hid (Jk wE KC 2 d2 jb2 J1) := by rw [← hJ1]; exact HME.out.jk
      have HJ1 := hide hJ1
      clear hCb HBW HT5 HKE hJ1
      go_wp2_with fail
      refine HCb.out.mono ?_
      rintro e w12 ⟨v12, rfl, hi12, hb12⟩
      have kp12 := kp_below hb12 Nz KC (0, 0)
      have HN12 := hide (HNE.out.below hb12)
      have HK12 := hide (HKn.out.trans kp12)
      have HJ12 := hide (HJE.out.kept (kp_below hb12 (fun _ => False) KC (0, 0)) (fun _ h => h))
      have hOp := opened_any w12 (ext KC wE.heap.size (0, 0)) 3 4 (by decide) (by decide) (by decide) v12 img ρ m1 HOd.out.mx hi12 HOd.out.nms HOd.out.le HOd.out.ok HOd.out.inv 0 HOd.out.sz (by omega) HOd.out.err (HTn.out _ _ HK12.out).1 (HTn.out _ _ HK12.out).2
      rw [HJ1.out] at hOp
      have HOp := hide hOp
      obtain ⟨a12, c12, hv12, _, _⟩ := hi12.form
      subst hv12
      clear hi12 hb12 HCb y5 kp12 hOp
      generalize ext KC wE.heap.size (0, 0) = K12 at *
      go_wp2_with fail
      refine HOp.out.mono ?_
      rintro e w13 ⟨d3, jb3, K13, rfl, hd13, hj13, hk13⟩
      have hk13' : Kp Nz K12 K13 w12 w13 := (show Kp (Gq 3 4) K12 K13 w12 w13 from hk13).mono (gq_nz (by decide) (by decide))
      have HN13 := hide (HN12.out.later hk13')
      have HK13 := hide (HK12.out.trans hk13')
      have HJ13 := hide (HJ12.out.kept hk13 (fun q h => by rcases h with h | h <;> cases h))
      have HD3 := hide hd13
      have HJ3 := hide hj13
      have hAll := All_any w13 K13 4 d3 jb3 _ hj13 HGd.out.lens (by rw [HGd.out.ln]; omega) (HTn.out _ _ HK13.out).1
      rw [HGd.out.all, HGd.out.ln] at hAll
      have HAll := hide hAll
      clear hd13 hj13 hk13 hk13' hAll HOp
      go_wp2_with fail
      refine HAll.out.mono ?_
      rintro e w14 ⟨a14, c14, rfl, htr, hb14⟩
      have kp14 := kp_below hb14 (fun _ => False) K13 (0, 0)
      have HN14 := hide (HN13.out.below hb14)
      have HK14 := hide (HK13.out.trans (kp_below hb14 Nz K13 (0, 0)))
      have HJ14 := hide (HJ13.out.kept kp14 (fun _ h => h))
      have HD14 := hide (HD3.out.kept kp14 (fun _ h => h))
      have HJk14 := hide (HJ3.out.kept kp14 (fun _ h => h))
      have HTr9 := hide (trans_same w14 a14 aA l'.length c14 cA l' rfl (by omega) (htr.trs HGd.out.few) HN14.out.trs)
      clear htr hb14 kp14 HAll
      generalize ext K13 w13.heap.size (0, 0) = K14 at *
      go_wp2_with fail
      refine HTr9.out.mono ?_
      rintro e w15 ⟨rfl, q9, hw15⟩
      have kp15 : Kp (fun _ => False) K14 K14 w14 w15 := by rw [hw15]; exact (Kp.refl _ _ _).drewN q9
      have HN15 := hide (nwb_drewN HN14.out hw15)
      have HK15 := hide (kp_drewN HK14.out hw15)
      have HJ15 := hide (HJ14.out.kept kp15 (fun _ h => h))
      have HD15 := hide (HD14.out.kept kp15 (fun _ h => h))
      have HJk15 := hide (HJk14.out.kept kp15 (fun _ h => h))
      have HNx1 := hide (next_any w15 K14 4 d3 jb3 J1 HJk15.out HGd.out.last)
      have HNx2 := hide (next_any w15 K14 2 d2 jb2 J1 HJ15.out HGd.out.last)
      have HTo1 := hide (jtorn_any w15 K14 4 d3 jb3 J1 HJk15.out)
      have HTo2 := hide (jtorn_any w15 K14 2 d2 jb2 J1 HJ15.out)
      clear hw15 kp15 HTr9
      go_wp2_with fail
      refine HNx1.out.mono ?_
      rintro e wN1 ⟨rfl, rfl⟩
      go_wp2_with fail
      refine HNx2.out.mono ?_
      rintro e wN2 ⟨rfl, rfl⟩
      go_wp2_with fail
      refine HTo1.out.mono ?_
      rintro e wN3 ⟨rfl, rfl⟩
      go_wp2_with fail
      refine HTo2.out.mono ?_
      rintro e wN4 ⟨rfl, rfl⟩
      have y6 : wN4.cell? ⟨W.heap.size, 6, none⟩ = some (.slice p3 n3 c3) := by simp [World.cell?, (HBn.out _ _ HK15.out).2]
      have HPl3 := hide (places_any wN4 p3 n3 c3 l3 6 HP3.out.1 (by omega) (by omega) (HP3.out.2.1.below (HBn.out _ _ HK15.out).1) (fun c hc => (HP3.out.2.2 c hc).below (HBn.out _ _ HK15.out).1))
      rw [show ((6 : Nat) : Int) = 6 from rfl] at HPl3
      clear HNx1 HNx2 HTo1 HTo2
      go_wp2_with fail
      refine HPl3.out.mono ?_
      rintro e w16 ⟨l16, c16, rfl, hr16, hb16⟩
      obtain ⟨L3, hL3⟩ : ∃ L3, plc l3 6 = L3 := ⟨_, rfl⟩
      rw [hL3] at hr16 ⊢
      obtain ⟨q3, hq3⟩ : ∃ q3, L3.length = q3 := ⟨_, rfl⟩
      rw [hq3] at hr16 ⊢
      have hq6 : q3 ≤ 6 := by rw [← hq3, ← hL3]; unfold plc; rw [List.length_take]; omega
      have kp16 := kp_below hb16 (fun _ => False) K14 (0, 0)
      have HK16 := hide (HK15.out.trans (kp_below hb16 Nz K14 (0, 0)))
      have HM16 := hide ((HN15.out.below hb16).gm (od := 3) (o := 4) (by decide) (by decide) (HD15.out.kept kp16 (fun _ h => h)) (HJk15.out.kept kp16 (fun _ h => h)))
      have nq3 : ¬ Gq 3 4 (0, 0) := fun h => gq_nz (by decide) (by decide) _ h rfl
      have HCl3 : Hid (Clr w16 (ext K14 wN4.heap.size (0, 0)) l16 L3) := by
        have hl := cls_own hr16
        refine ⟨hl.lie.imp id ?_⟩
        rintro ⟨g, o, e, hg, hc⟩
        refine ⟨g, o, e, hg, ?_, hc⟩
        rcases hr16.2 with ⟨e1, _⟩ | ⟨g3, _, _, e1, e2, _⟩
        · rw [e] at e1; cases e1
        · rw [e] at e1; cases e1; exact ext_new _ _ e2
      have HLm3 : Hid (∀ x ∈ L3, Stay (Gq 3 4) (ext K14 wN4.heap.size (0, 0)) w16 x.pp x.ps ∧ x.ps.length = x.k ∧ fitsB x.ps = true ∧ ∀ p ∈ x.ps, ∀ z ∈ p, z < 256) := fun x hx => by
        rw [← hL3] at hx
        have h1 := List.mem_of_mem_take hx
        have h2 := List.mem_filter.1 h1
        have h3 := HP3.out.2.2 x h2.1
        refine ⟨stay_of nq3 (HBn.out _ _ HK16.out).1 (fun b hb => (HK16.out.same b (by omega)).trans (HO5.out b (by omega))) h3.pts, h3.len, h2.2, h3.small⟩
      have HGo3 := hide (goes_any w16 (ext K14 wN4.heap.size (0, 0)) 3 4 d3 jb3 (by decide) (by decide) (by decide) (St.laid m1 img) J1 (.slice aA l'.length cA) l' HM16.out (HTn.out _ _ HK16.out).1 (HTn.out _ _ HK16.out).2 l16 q3 c16 L3 hq3 (by omega) HCl3.out HLm3.out Ge (fun c S J l h => h.gd) 0 (fun c S J l h hlt y hy => h.step (by omega) y.b y.ps (HLm3.out y hy).2.2.1 (HLm3.out y hy).2.2.2) HGe.out)
      obtain ⟨_, _, hlf3, _, _⟩ := owns_form hr16
      cases hlf3
      clear hr16 hb16 kp16 hL3 hq3 y6 HPl3
      generalize ext K14 wN4.heap.size (0, 0) = K16 at *
      go_wp2_with fail
      refine HGo3.out.mono ?_
      rintro e w17 ⟨v17, S17, J17, l17, K17, rfl, hm17, _⟩
      have HBF := hide (HBn.out _ _ (HK16.out.trans (hm17.kp.mono (gq_nz (by decide) (by decide))))).1
      obtain ⟨vs17, hb17⟩ := hm17.bk
      obtain ⟨a17, c17, rfl, _, _⟩ := hb17.row.form
      clear hm17 hb17 HGo3
      go_wp2
      go_ret
      exact ⟨rfl, HBF.out⟩
end Go.Proofs.YtlmfohcdaahojaaGreatDoor
