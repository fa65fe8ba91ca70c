import Derived.Test.YtlmfohcdaahojabGreatDoorJAftP
import Derived.Test.YtlmfohcdaahojabGreatDoorJFullP
import Derived.Test.YtlmfohcdaahojabGreatDoorJPv
namespace Go.Proofs.YtlmfohcdaahojabGreatDoor
open Go.RowKit Go.Maps

/-- What a walk of calls asks of a journal. -/
structure Gd (S : St) (J : Jr) (l : List (List (List Nat))) : Prop where
  inv : Inv S
  sz : ∃ k, k + 41943050 ≤ 549755813888 ∧ Sz S k
  nm : J.second.length ≤ 64
  gd : goodN J ≤ 1099511627776
  last : J.last < 18446744073709551615
  lens : ∀ r ∈ J.recs, 25 ≤ r.length ∧ r.length ≤ 4194304
  all : allOf J.recs = l
  ln : J.recs.length = l.length
  few : ∀ ps ∈ l, ps.length ≤ 4096 ∧ ∀ p ∈ ps, p.length ≤ 140737488351232
  bk : l.length ≤ 900
def Gq (od o : Nat) (k : Nat × Nat) : Prop := k.1 = od ∨ k.1 = o
theorem gq_pk {od o : Nat} : ∀ k, Pk od o k → Gq od o k := fun k h => by
  rcases h with h | h | h
  · exact Or.inl h
  · rw [h]; exact Or.inr rfl
  · rw [h]; exact Or.inr rfl
/-- A list of calls in a block that no disk and no journal owns. -/
structure Clr (w : World) (K : Knd) (sp : Option Addr) (L : List Cl) : Prop where
  lie : L = [] ∨ ∃ g o, sp = some ⟨g, o, none⟩ ∧ g < w.heap.size ∧ K g = (0, 0) ∧ ∀ (j : Nat) (c : Cl), L[j]? = some c → w.cell? ⟨g, o + j * 2, none⟩ = some (.bool c.b) ∧ w.cell? ⟨g, o + j * 2 + 1, none⟩ = some (.slice c.pp c.k c.cap)
theorem Clr.kept {p : Nat × Nat → Prop} {K K' : Knd} {w w' : World} {sp : Option Addr} {L : List Cl} (h : Clr w K sp L) (hk : Kp p K K' w w') (hp : ¬ p (0, 0)) : Clr w' K' sp L := by
  refine ⟨h.lie.imp id ?_⟩
  rintro ⟨g, o, e, hg, hK, hc⟩
  have hb : w'.heap[g]? = w.heap[g]? := hk.block g hg (by rw [hK]; exact hp)
  exact ⟨g, o, e, Nat.lt_of_lt_of_le hg hk.size, (hk.same g hg).trans hK, fun j c hj => ⟨(World.cell?_of_block hb).trans (hc j c hj).1, (World.cell?_of_block hb).trans (hc j c hj).2⟩⟩
/-- Parts that stay whatever the disk and the journal do. -/
def Stay (q : Nat × Nat → Prop) (K : Knd) (w : World) (pp : Option Addr) (ps : List (List Nat)) : Prop := ∀ K' w', Kp q K K' w w' → Pts w' pp ps
/-- The walk's memory. -/
structure Gm (q : Nat × Nat → Prop) (K0 : Knd) (w0 : World) (K : Knd) (w : World) (od o d jb : Nat) (S : St) (J : Jr) (v : Value) (l : List (List (List Nat))) : Prop where
  dk : Dk w K od d S
  jk : Jk w K o d jb J
  bk : ∃ vs, Bop (Stay q K0 w0) w K v l vs
  kp : Kp q K0 K w0 w
theorem Gm.drew {q : Nat × Nat → Prop} {K0 K : Knd} {w0 w : World} {od o d jb : Nat} {S : St} {J : Jr} {v : Value} {l : List (List (List Nat))} (h : Gm q K0 w0 K w od o d jb S J v l) : Gm q K0 w0 K w.drew od o d jb S J v l := by
  have kd : Kp (fun _ => False) K K w w.drew := (Kp.refl _ _ _).drew
  obtain ⟨vs, hb⟩ := h.bk
  exact ⟨h.dk.kept kd (fun _ h => h), h.jk.kept kd (fun _ h => h), ⟨vs, hb.kept kd (fun h => h)⟩, h.kp.trans (kd.mono fun _ h => h.elim)⟩
theorem Gm.below {q : Nat × Nat → Prop} {K0 K : Knd} {w0 w w' : World} {od o d jb : Nat} {S : St} {J : Jr} {v : Value} {l : List (List (List Nat))} (h : Gm q K0 w0 K w od o d jb S J v l) (hb : Below w.heap.size w w') : Gm q K0 w0 (ext K w.heap.size (0, 0)) w' od o d jb S J v l := by
  obtain ⟨vs, hv⟩ := h.bk
  exact ⟨h.dk.kept (kp_below hb (fun _ => False) K (0, 0)) (fun _ h => h), h.jk.kept (kp_below hb (fun _ => False) K (0, 0)) (fun _ h => h), ⟨vs, hv.kept (kp_below hb (fun _ => False) K (0, 0)) (fun h => h)⟩, h.kp.trans (kp_below hb q K (0, 0))⟩

theorem Gm.still {q : Nat × Nat → Prop} {K0 K : Knd} {w0 w w' : World} {od o d jb : Nat} {S : St} {J : Jr} {v : Value} {l : List (List (List Nat))} (h : Gm q K0 w0 K w od o d jb S J v l) (kd : Kp (fun _ => False) K K w w') : Gm q K0 w0 K w' od o d jb S J v l := by
  obtain ⟨vs, hb⟩ := h.bk
  exact ⟨h.dk.kept kd (fun _ h => h), h.jk.kept kd (fun _ h => h), ⟨vs, hb.kept kd (fun h => h)⟩, h.kp.trans (kd.mono fun _ h => h.elim)⟩

set_option maxRecDepth 100000 in
set_option maxHeartbeats 4000000 in
theorem goes_any (w : World) (K : Knd) (od o d jb : Nat) (hod : od ≠ 0) (ho : o ≠ 0) (hne : o ≠ od) (S : St) (J : Jr) (v : Value) (l : List (List (List Nat))) (hM : Gm (Gq od o) K w K w od o d jb S J v l) (hT : C.Tab w) (hK0 : K 0 = (0, 0))
    (sp : Option Addr) (m cap : Nat) (L : List Cl) (hm : L.length = m) (hml : m ≤ 100) (hC : Clr w K sp L) (hL : ∀ x ∈ L, Stay (Gq od o) K w x.pp x.ps ∧ x.ps.length = x.k ∧ fitsB x.ps = true ∧ ∀ p ∈ x.ps, ∀ y ∈ p, y < 256)
    (G : Nat → St → Jr → List (List (List Nat)) → Prop) (hG : ∀ c S J l, G c S J l → Gd S J l) (n0 : Nat)
    (hS : ∀ c S J l, G c S J l → c < n0 + m → ∀ x ∈ L, (∃ S' J', callR x.b S J x.ps = (44, S', J') ∧ G (c + 1) S' J' l) ∨ (∃ S' J', callR x.b S J x.ps = (0, S', J') ∧ G (c + 1) S' J' (lAf x.b l x.ps))) (h0 : G n0 S J l) :
    Calls Tryz.prog 11 #[.pointer (some ⟨jb, 0, none⟩), .slice sp m cap, v] w fun e w' => ∃ v' S' J' l' K', e = .returned (.tuple #[v', .bool true]) ∧ Gm (Gq od o) K w K' w' od o d jb S' J' v' l' ∧ G (n0 + m) S' J' l' := by
  have nq0 : ¬ Gq od o (0, 0) := fun h => h.elim (fun h => hod h.symm) (fun h => ho h.symm)
  have HM := hide hM
  have HT := hide hT
  have HK0 := hide hK0
  have Hm := hide hm
  have HC := hide hC
  have HL := hide hL
  have HG := hide hG
  have HS := hide hS
  have H0 := hide h0
  clear hM hT hK0 hm hC hL hG hS h0
  go_enter Tryz.func11, Tryz.ntmps11
  go_wp2
  go_loopw [2, 8] (fun bv i wr => ∃ (c : Nat) (Kc : Knd) (S : St) (J : Jr) (l : List (List (List Nat))), c ≤ m ∧ i = .int .i64 c ∧ Hid (Gm (Gq od o) K w Kc wr od o d jb S J bv l) ∧ Hid (G (n0 + c) S J l)) (fun _ i _ => m - (intOf i).toNat)
  case atStart => exact ⟨0, K, S, J, l, Nat.zero_le _, rfl, HM, H0⟩
  case round =>
    clear HM H0
    obtain ⟨c, Kc, S, J, l, hc, rfl, HM, HD⟩ := hrel
    by_cases hlt : c < m
    · have hlt' : (c : Int) < (m : Int) := by omega
      have c0 : (0 : Int) ≤ (c : Int) := by omega
      obtain ⟨x, hx⟩ : ∃ x, L[c]? = some x := ⟨_, List.getElem?_eq_getElem (by have := Hm.out; omega)⟩
      obtain ⟨hst, hxl, hfx, hsm⟩ := HL.out x (List.mem_of_getElem? hx)
      have hcr := HS.out (n0 + c) S J l HD.out (by omega) x (List.mem_of_getElem? hx)
      have hCw := HC.out.kept HM.out.kp nq0
      obtain ⟨g, og, rfl, hgl, hgk, hcs⟩ : ∃ g o, sp = some ⟨g, o, none⟩ ∧ g < wr.heap.size ∧ Kc g = (0, 0) ∧ ∀ (j : Nat) (c : Cl), L[j]? = some c → wr.cell? ⟨g, o + j * 2, none⟩ = some (.bool c.b) ∧ wr.cell? ⟨g, o + j * 2 + 1, none⟩ = some (.slice c.pp c.k c.cap) := by
        rcases hCw.lie with e | e
        · rw [e] at hx; simp at hx
        · exact e
      obtain ⟨t0, t1⟩ := hcs c x hx
      obtain ⟨xb, xp, xk, xc, xs⟩ := x
      simp only at t0 t1 hfx hst hxl hsm hcr
      have hx4 : xk ≤ 4096 := by have := (fits_small hfx).1; omega
      obtain ⟨vs, hb⟩ := HM.out.bk
      obtain ⟨av, cv, rfl, _, _⟩ := hb.row.form
      have gd := HG.out _ _ _ _ HD.out
      obtain ⟨k, hk, hz⟩ := gd.sz
      have hRun := run_any xb wr Kc od o d jb hne S J HM.out.dk gd.inv k hz hk HM.out.jk gd.nm gd.gd (by rw [gd.ln]; have := gd.bk; omega) gd.last xp xk xc xs hxl hx4 (hst _ _ HM.out.kp) hsm (tab_kp HT.out HM.out.kp HK0.out nq0)
      have HSt := hide hst
      have HXl := hide hxl
      have HB := hide hb
      have hlb : l.length ≤ 900 := gd.bk
      clear hst hxl hfx hsm hb gd hk hz k hcs hCw hx
      rcases hcr with ⟨S', J', hcr, hd'⟩ | ⟨S', J', hcr, hd'⟩
      · rw [hcr] at hRun
        have HRun := hide hRun
        have HD5 : Hid (G (n0 + (c + 1)) S' J' l) := hd'
        clear hRun hcr hd'
        go_wp2_with fail
        refine HRun.out.mono ?_
        rintro e w5 ⟨K5, rfl, hd5, hj5, hk5⟩
        have hk5' := hk5.mono gq_pk
        have HB5 := hide (HB.out.kept hk5' nq0)
        have HM5 : Hid (Gm (Gq od o) K w K5 w5 od o d jb S' J' (.slice av l.length cv) l) := ⟨hd5, hj5, ⟨_, HB5.out⟩, HM.out.kp.trans hk5'⟩
        clear hd5 hj5 hk5 hk5'
        have gd5 := HG.out _ _ _ _ HD5.out
        have hAll := All_any w5 K5 o d jb J' HM5.out.jk gd5.lens (by rw [gd5.ln]; have := gd5.bk; omega) (tab_kp HT.out HM5.out.kp HK0.out nq0)
        rw [gd5.all, gd5.ln] at hAll
        have HAll := hide hAll
        have HFw := hide gd5.few
        have hl9 : (l).length ≤ 900 := gd5.bk
        clear hAll gd5
        go_wp2_with fail
        refine HAll.out.mono ?_
        rintro e wA ⟨aA, cA, rfl, htr, hbw⟩
        have HMA := hide (HM5.out.below hbw)
        have HTr := hide (trans_same wA aA av (l).length cA cv (l) rfl (by omega) (htr.trs HFw.out) ((HB5.out.kept (kp_below hbw (fun _ => False) K5 (0, 0)) (fun h => h)).trs fun _ _ h => h _ _ HMA.out.kp))
        clear htr hbw
        go_wp2_with fail
        refine HTr.out.mono ?_
        rintro e wB ⟨rfl, qq, hwB⟩
        have HMB := hide (HMA.out.still (w' := wB) (by rw [hwB]; exact (Kp.refl _ _ _).drewN qq))
        clear hwB
        go_wp2
        go_roundw
        case rel => exact ⟨c + 1, _, S', J', l, by omega, by go_num, HMB, HD5⟩
        case measure => simp [intOf]; omega
      · rw [hcr] at hRun
        have HRun := hide hRun
        have HD5 : Hid (G (n0 + (c + 1)) S' J' (lAf xb l xs)) := hd'
        clear hRun hcr hd'
        go_wp2_with fail
        refine HRun.out.mono ?_
        rintro e w5 ⟨K5, rfl, hd5, hj5, hk5⟩
        have hk5' := hk5.mono gq_pk
        have hgb : w5.heap[g]? = wr.heap[g]? := hk5'.block g hgl (by rw [hgk]; exact nq0)
        have s0 : w5.cell? ⟨g, og + c * 2, none⟩ = _ := (World.cell?_of_block hgb).trans t0
        have s1 : w5.cell? ⟨g, og + c * 2 + 1, none⟩ = _ := (World.cell?_of_block hgb).trans t1
        have hgl5 := Nat.lt_of_lt_of_le hgl hk5'.size
        have HB5 := hide (HB.out.kept hk5' nq0)
        have HM5 : Hid (Gm (Gq od o) K w K5 w5 od o d jb S' J' (.slice av l.length cv) l) := ⟨hd5, hj5, ⟨_, HB5.out⟩, HM.out.kp.trans hk5'⟩
        have HAf := hide (afterP_any (Stay (Gq od o) K w) w5 K5 xb xp xk xc xs HXl.out hx4 HSt.out _ l vs HB5.out (by omega))
        clear hd5 hj5 hk5 hk5' hgb t0 t1
        go_wp2_with fail
        refine HAf.out.mono ?_
        rintro e w6 ⟨v6, vs6, rfl, hb6, hbw6⟩
        obtain ⟨a6, c6, rfl, _, _⟩ := hb6.row.form
        have HB6 := hide hb6
        have HM6 : Hid (Gm (Gq od o) K w (ext K5 w5.heap.size (0, 0)) w6 od o d jb S' J' (.slice a6 (lAf xb l xs).length c6) (lAf xb l xs)) := ⟨(HM5.out.below hbw6).dk, (HM5.out.below hbw6).jk, ⟨_, hb6⟩, (HM5.out.below hbw6).kp⟩
        clear hb6 hbw6 s0 s1
        have gd5 := HG.out _ _ _ _ HD5.out
        have hAll := All_any w6 (ext K5 w5.heap.size (0, 0)) o d jb J' HM6.out.jk gd5.lens (by rw [gd5.ln]; have := gd5.bk; omega) (tab_kp HT.out HM6.out.kp HK0.out nq0)
        rw [gd5.all, gd5.ln] at hAll
        have HAll := hide hAll
        have HFw := hide gd5.few
        have hl9 : (lAf xb l xs).length ≤ 900 := gd5.bk
        clear hAll gd5
        go_wp2_with fail
        refine HAll.out.mono ?_
        rintro e wA ⟨aA, cA, rfl, htr, hbw⟩
        have HMA := hide (HM6.out.below hbw)
        have HTr := hide (trans_same wA aA a6 (lAf xb l xs).length cA c6 (lAf xb l xs) rfl (by omega) (htr.trs HFw.out) ((HB6.out.kept (kp_below hbw (fun _ => False) (ext K5 w5.heap.size (0, 0)) (0, 0)) (fun h => h)).trs fun _ _ h => h _ _ HMA.out.kp))
        clear htr hbw
        go_wp2_with fail
        refine HTr.out.mono ?_
        rintro e wB ⟨rfl, qq, hwB⟩
        have HMB := hide (HMA.out.still (w' := wB) (by rw [hwB]; exact (Kp.refl _ _ _).drewN qq))
        clear hwB
        go_wp2
        go_roundw
        case rel => exact ⟨c + 1, _, S', J', lAf xb l xs, by omega, by go_num, HMB, HD5⟩
        case measure => simp [intOf]; omega
    · obtain rfl : c = m := by omega
      go_wp2
      go_ret2
      exact ⟨_, S, J, l, Kc, rfl, HM.out, HD.out⟩
end Go.Proofs.YtlmfohcdaahojabGreatDoor
namespace Go.Proofs.YtlmfohcdaahojabGreatDoor
open Go.RowKit Go.Maps

theorem and16 (z : Int) : ∃ i : Nat, i < 65536 ∧ bits .and .i64 z 65535 = (i : Int) := by
  refine ⟨(BitVec.ofInt 64 z).toNat % 65536, Nat.mod_lt _ (by omega), ?_⟩
  show IntKind.i64.wrap ((BitVec.ofInt 64 z &&& BitVec.ofInt 64 65535).toNat : Int) = _
  have h1 : (BitVec.ofInt 64 (65535 : Int)).toNat = 2 ^ 16 - 1 := by decide
  rw [BitVec.toNat_and, h1, Nat.and_two_pow_sub_one_eq_mod, IntKind.wrap_i64]
  omega
theorem fd_new {r : Nat} (hr : r ≤ 16777216) : Fd r (St.laid r []) (jnew jx ([], 0, false, 0)) [] 1 0 :=
  ⟨new_stl hr, ⟨⟨jx_ok.1, jx_ok.2, rfl, rfl, rfl, fun h => by cases h⟩, rfl, True.intro, rfl, rfl, Nat.le_refl _⟩, rfl, Nat.zero_le _, rfl, fun y hy => absurd rfl hy, by simp, fun _ => rfl⟩
theorem sum_lens : ∀ (l : List (List Nat)), (∀ r ∈ l, 25 ≤ r.length ∧ r.length ≤ 4194304) → (l.map List.length).sum ≤ l.length * 4194304
  | [], _ => by simp
  | a :: l, h => by
    have h2 := sum_lens l (fun r hr => h r (List.mem_cons_of_mem _ hr))
    have h3 := (h a (by simp)).2
    simp only [List.map_cons, List.sum_cons, List.length_cons]
    omega
theorem Fd.gd {r : Nat} {S : St} {J : Jr} {l : List (List (List Nat))} {n c : Nat} (h : Fd r S J l n c) (hc : c ≤ 800) : Gd S J l := by
  have hl := trns_lens h.jd.trns
  rw [← h.jd.recs] at hl
  have hn : J.recs.length = l.length := by rw [h.jd.recs, recs_length]
  have hcn := h.cnt
  have hp := h.jd.pos
  have hla := h.jd.last
  have hs := sum_lens _ hl
  refine ⟨h.stl.inv, ⟨_, by omega, h.stl.sz⟩, (nm_len h.jd.d.nm2).2, ?_, by omega, hl, by rw [h.jd.recs]; exact allOf_recs l n h.jd.trns, hn, trns_few h.jd.trns, by omega⟩
  show (J.recs.map List.length).sum ≤ _
  omega
theorem Bop.mono {P Q : Option Addr → List (List Nat) → Prop} {w : World} {K : Knd} {v : Value} {ts : List (List (List Nat))} {vs : List Value} (h : Bop P w K v ts vs) (hpq : ∀ pp ps, P pp ps → Q pp ps) : Bop Q w K v ts vs :=
  ⟨h.row, h.few, fun j ps hj => by obtain ⟨pp, cp, e1, e2⟩ := h.el j ps hj; exact ⟨pp, cp, e1, hpq _ _ e2⟩, h.one⟩
theorem Stay.later {q : Nat × Nat → Prop} {K K' : Knd} {w w' : World} {pp : Option Addr} {ps : List (List Nat)} (h : Stay q K w pp ps) (hk : Kp q K K' w w') : Stay q K' w' pp ps := fun _ _ h2 => h _ _ (hk.trans h2)
/-- The walk's memory, seen from itself. -/
theorem Gm.self {q : Nat × Nat → Prop} {K0 K : Knd} {w0 w : World} {od o d jb : Nat} {S : St} {J : Jr} {v : Value} {l : List (List (List Nat))} (h : Gm q K0 w0 K w od o d jb S J v l) : Gm q K w K w od o d jb S J v l := by
  obtain ⟨vs, hb⟩ := h.bk
  exact ⟨h.dk, h.jk, ⟨vs, hb.mono fun _ _ hp => Stay.later hp h.kp⟩, Kp.refl _ _ _⟩
/-- What came in stays. -/
theorem stay_of {q : Nat × Nat → Prop} (hq : ¬ q (0, 0)) {W w : World} {K : Knd} (hb : Below W.heap.size W w) (hK : ∀ b, b < W.heap.size → K b = (0, 0)) {pp : Option Addr} {ps : List (List Nat)} (h : Pts W pp ps) : Stay q K w pp ps := fun K' w' hk =>
  h.below (hb.trans ⟨hk.os, hk.tape, hk.output, hk.size, fun b hlt => hk.block b (Nat.lt_of_lt_of_le hlt hb.size) (by rw [hK b hlt]; exact hq)⟩)
/-- A plan turns the disk alone. -/
theorem Gm.planned {K K' : Knd} {w w' : World} {od o d jb : Nat} (hne : o ≠ od) {S S' : St} {J : Jr} {v : Value} {l : List (List (List Nat))} (h : Gm (Gq od o) K w K w od o d jb S J v l) (hod : od ≠ 0) (hk : Kp (Ow od) K K' w w') (hd : Dk w' K' od d S') : Gm (Gq od o) K' w' K' w' od o d jb S' J v l := by
  obtain ⟨vs, hb⟩ := h.bk
  have kq : Kp (Gq od o) K K' w w' := hk.mono fun _ e => Or.inl e
  exact ⟨hd, h.jk.kept hk (fun _ e => hne e), ⟨vs, (hb.kept hk (fun e => hod e.symm)).mono fun _ _ hp => Stay.later hp kq⟩, Kp.refl _ _ _⟩
end Go.Proofs.YtlmfohcdaahojabGreatDoor
namespace Go.Proofs.YtlmfohcdaahojabGreatDoor
open Go.RowKit Go.Maps

theorem used_one {S : St} (hv : Inv S) (h : ∀ y, S.v y ≠ none → y = jx) : S.used = ((S.v jx).getD []).length := by
  have hn : ∀ p ∈ S.seen, p.1 = jx := fun p hp => h p.1 (by unfold St.v; rw [look_of_mem hv.srt hp]; simp)
  have hd := hv.srt.nodup
  unfold St.used St.v
  cases hs : S.seen with
  | nil => simp [lookN]
  | cons p l =>
    have hp1 : p.1 = jx := hn p (by rw [hs]; simp)
    have hl : l = [] := by
      cases l with
      | nil => rfl
      | cons q l =>
        rw [hs] at hd
        exact absurd (hp1.trans (hn q (by rw [hs]; simp)).symm) ((List.pairwise_cons.1 hd).1 q (by simp))
    subst hl
    have := look_of_mem hv.srt (p := p) (by rw [hs]; simp)
    rw [hs, hp1] at this
    rw [this]; simp
theorem z_rec (num : Nat) : (recB num [[122]]).length = 27 := by
  rw [recB_len, bodyB_len]
  rw [show (partsB [[122]]).length = 2 by kernel_rfl]
theorem z_fits : fitsB [[122]] = true := by kernel_rfl
theorem jx_new : jx ++ newE ≠ jx := by decide
/-- The journal that is opened over what was left. -/
def jagain (n : Nat) (l : List (List (List Nat))) : Jr := jnew jx (recsOf n l, if l = [] then 0 else n + l.length - 1, false, 0)
theorem Fd.again {r : Nat} {S : St} {J : Jr} {l : List (List (List Nat))} {n c : Nat} (h : Fd r S J l n c) (hr : r ≤ 16777216) : Fd r (St.laid r S.image) (jagain n l) l n c := by
  have hv : ∀ y, (St.laid r S.image).v y = S.v y := fun y => laid_v h.stl.on.off r y
  have hs := laid_stl h.stl.inv h.stl.sz h.stl.on.off h.used hr
  have hvis : ∀ y, (St.laid r S.image).v y ≠ none → y = jx := fun y hy => h.vis y (by rw [← hv y]; exact hy)
  refine ⟨hs.more (Nat.zero_le _), ⟨⟨jx_ok.1, jx_ok.2, rfl, ?_, ?_, fun h => by cases h⟩, rfl, h.jd.trns, ?_, rfl, h.jd.pos⟩, rfl, ?_, rfl, hvis, h.cnt, h.emp⟩
  · show ((St.laid r S.image).v jx).getD [] = (recsOf n l).flatten
    rw [hv, ← h.nm, h.jd.d.byt, h.jd.recs]
  · show (St.laid r S.image).v (jx ++ newE) = none
    cases e : (St.laid r S.image).v (jx ++ newE) with
    | none => rfl
    | some b => exact absurd (hvis _ (by rw [e]; simp)) jx_new
  · show (if l = [] then 0 else n + l.length - 1) + 1 = n + l.length
    by_cases he : l = []
    · rw [if_pos he, he, h.emp he]; rfl
    · have hp := h.jd.pos
      rw [if_neg he]
      omega
  · rw [used_one hs.inv hvis, hv, ← used_one h.stl.inv h.vis]; exact h.used
theorem Fd.zcall {r : Nat} {S : St} {J : Jr} {l : List (List (List Nat))} {n c : Nat} (h : Fd r S J l n c) (hc : c < 800) (hp : S.pFrom = 0) (hu : S.used + 32 ≤ r) : ∃ S' J', callR false S J [[122]] = (0, S', J') ∧ Fd r S' J' (l ++ [[[122]]]) n (c + 1) := by
  rcases h.step (by omega) false [[122]] z_fits (by simp) with ⟨_, e, _⟩ | ⟨S', J', e1, e2⟩
  · exfalso
    rw [z_rec] at e
    have hro := h.room
    have e1 : S.stroked.pFrom = S.pFrom := rfl
    have e2 : S.stroked.room = S.room := rfl
    have e3 : S.stroked.used = S.used := rfl
    unfold St.full St.fullP at e
    rw [e1, e2, e3, hp] at e
    simp at e
    omega
  · exact ⟨S', J', e1, e2⟩
/-- What goes holds around the last call. -/
def Gz (r n c : Nat) (S2 : St) (J2 : Jr) (lb : List (List (List Nat))) (i : Nat) (S : St) (J : Jr) (l : List (List (List Nat))) : Prop :=
  (i = 0 ∧ S = S2 ∧ J = J2 ∧ l = lb) ∨ (i = 1 ∧ l = lb ++ [[[122]]] ∧ Fd r S J l n (c + 1))
theorem gz_gd {r n c : Nat} {S2 : St} {J2 : Jr} {lb : List (List (List Nat))} (h : Fd r S2 J2 lb n c) (hc : c < 800) : ∀ i S J l, Gz r n c S2 J2 lb i S J l → Gd S J l := by
  rintro i S J l (⟨_, rfl, rfl, rfl⟩ | ⟨_, rfl, hf⟩)
  · exact h.gd (by omega)
  · exact hf.gd (by omega)
theorem gz_step {r n c : Nat} {S2 : St} {J2 : Jr} {lb : List (List (List Nat))} (h : Fd r S2 J2 lb n c) (hc : c < 800) (hp : S2.pFrom = 0) (hu : S2.used + 32 ≤ r) {x : Cl} (hx : x.b = false ∧ x.ps = [[122]]) : ∀ i S J l, Gz r n c S2 J2 lb i S J l → i < 0 + 1 → ∀ y ∈ [x], (∃ S' J', callR y.b S J y.ps = (44, S', J') ∧ Gz r n c S2 J2 lb (i + 1) S' J' l) ∨ (∃ S' J', callR y.b S J y.ps = (0, S', J') ∧ Gz r n c S2 J2 lb (i + 1) S' J' (lAf y.b l y.ps)) := by
  intro i S J l hg hi y hy
  simp at hy
  subst hy
  rcases hg with ⟨rfl, rfl, rfl, rfl⟩ | ⟨rfl, _⟩
  · obtain ⟨S', J', e1, e2⟩ := h.zcall hc hp hu
    rw [hx.1, hx.2]
    exact Or.inr ⟨S', J', e1, Or.inr ⟨rfl, rfl, e2⟩⟩
  · omega
/-- A new disk and journal in the old ones' place. -/
theorem Gm.anew {K K' : Knd} {w w' : World} {od o d jb d2 jb2 : Nat} (hq : ¬ Gq od o (0, 0)) {S S2 : St} {J J2 : Jr} {v : Value} {l : List (List (List Nat))} (h : Gm (Gq od o) K w K w od o d jb S J v l) (hk : Kp (Gq od o) K K' w w') (hd : Dk w' K' od d2 S2) (hj : Jk w' K' o d2 jb2 J2) : Gm (Gq od o) K' w' K' w' od o d2 jb2 S2 J2 v l := by
  obtain ⟨vs, hb⟩ := h.bk
  exact ⟨hd, hj, ⟨vs, (hb.kept hk hq).mono fun _ _ hp => Stay.later hp hk⟩, Kp.refl _ _ _⟩
/-- The literal list of one part "z". -/
theorem z_pts {w : World} {g1 g2 c : Nat} {t1 t2 : TypeId} {m1 m2 : Nat × Nat} {D : Array Value} (h1 : w.heap[g1]? = some (.cells #[.int .u8 122] t1 m1)) (h2 : w.heap[g2]? = some (.cells D t2 m2)) (hD : D[0]? = some (.slice (some ⟨g1, 0, none⟩) 1 c)) : Pts w (some ⟨g2, 0, none⟩) [[122]] := by
  refine ⟨fun p hp => by simp at hp; subst hp; simp, Or.inr ⟨g2, 0, rfl, lt_of_block h2, fun j p hj => ?_⟩⟩
  have hj0 : j = 0 := by have := (List.getElem?_eq_some_iff.1 hj).1; simpa using this
  subst hj0
  simp at hj
  subst hj
  refine ⟨some ⟨g1, 0, none⟩, c, ?_, ⟨fun x hx => by simp at hx; omega, Or.inr ⟨g1, 0, rfl, lt_of_block h1, fun j hj => ?_⟩⟩⟩
  · simp [World.cell?, h2, hD]
  · have hj0 : j = 0 := by simpa using hj
    subst hj0
    simp [World.cell?, h1]
theorem z_stay {q : Nat × Nat → Prop} (hq : ¬ q (0, 0)) {K : Knd} {w : World} {g1 g2 c : Nat} {t1 t2 : TypeId} {m1 m2 : Nat × Nat} {D : Array Value} (h1 : w.heap[g1]? = some (.cells #[.int .u8 122] t1 m1)) (h2 : w.heap[g2]? = some (.cells D t2 m2)) (hD : D[0]? = some (.slice (some ⟨g1, 0, none⟩) 1 c)) (k1 : K g1 = (0, 0)) (k2 : K g2 = (0, 0)) : Stay q K w (some ⟨g2, 0, none⟩) [[122]] := fun K' w' hk =>
  z_pts ((hk.block g1 (lt_of_block h1) (by rw [k1]; exact hq)).trans h1) ((hk.block g2 (lt_of_block h2) (by rw [k2]; exact hq)).trans h2) hD
/-- The literal call with one part "z". -/
def zc (g : Nat) : Cl := ⟨false, some ⟨g, 0, none⟩, 1, 1, [[122]]⟩
theorem z_list (w : World) (K : Knd) {q : Nat × Nat → Prop} (hq : ¬ q (0, 0)) (W : World) (hW : W = (((w.alloc (.cells #[.int .u8 122] 5 (1, 2))).alloc (.cells #[.slice (some ⟨w.heap.size, 0, none⟩) 1 1] 42)).alloc (.cells #[.bool false, .slice (some ⟨w.heap.size + 1, 0, none⟩) 1 1] 48))) :
    Below w.heap.size w W ∧ Clr W (ext K w.heap.size (0, 0)) (some ⟨w.heap.size + 1 + 1, 0, none⟩) [zc (w.heap.size + 1)] ∧ (∀ y ∈ [zc (w.heap.size + 1)], Stay q (ext K w.heap.size (0, 0)) W y.pp y.ps ∧ y.ps.length = y.k ∧ fitsB y.ps = true ∧ ∀ p ∈ y.ps, ∀ z ∈ p, z < 256) := by
  subst hW
  have z : ∀ (w : World) (o : Obj), (w.alloc o).heap.size = w.heap.size + 1 := fun w o => by unfold World.alloc; exact Array.size_push _
  have b1 := (((Below.refl w.heap.size w).alloc (Nat.le_refl _) (.cells #[.int .u8 122] 5 (1, 2))).alloc (by rw [z]; omega) (.cells #[.slice (some ⟨w.heap.size, 0, none⟩) 1 1] 42)).alloc (by rw [z, z]; omega) (.cells #[.bool false, .slice (some ⟨w.heap.size + 1, 0, none⟩) 1 1] 48)
  have h1 : (((w.alloc (.cells #[.int .u8 122] 5 (1, 2))).alloc (.cells #[.slice (some ⟨w.heap.size, 0, none⟩) 1 1] 42)).alloc (.cells #[.bool false, .slice (some ⟨w.heap.size + 1, 0, none⟩) 1 1] 48)).heap[w.heap.size]? = some (.cells #[.int .u8 122] 5 (1, 2)) := by
    rw [Below.heap_alloc _ _ _ (by rw [z, z]; omega), Below.heap_alloc _ _ _ (by rw [z]; omega)]; exact heap_alloc_new _ _
  have h2 : (((w.alloc (.cells #[.int .u8 122] 5 (1, 2))).alloc (.cells #[.slice (some ⟨w.heap.size, 0, none⟩) 1 1] 42)).alloc (.cells #[.bool false, .slice (some ⟨w.heap.size + 1, 0, none⟩) 1 1] 48)).heap[w.heap.size + 1]? = some (.cells #[.slice (some ⟨w.heap.size, 0, none⟩) 1 1] 42 (0, 0)) := by
    rw [Below.heap_alloc _ _ _ (by rw [z, z]; omega)]
    have := heap_alloc_new (w.alloc (.cells #[.int .u8 122] 5 (1, 2))) (.cells #[.slice (some ⟨w.heap.size, 0, none⟩) 1 1] 42 (0, 0))
    rw [z] at this; exact this
  have h3 : (((w.alloc (.cells #[.int .u8 122] 5 (1, 2))).alloc (.cells #[.slice (some ⟨w.heap.size, 0, none⟩) 1 1] 42)).alloc (.cells #[.bool false, .slice (some ⟨w.heap.size + 1, 0, none⟩) 1 1] 48)).heap[w.heap.size + 1 + 1]? = some (.cells #[.bool false, .slice (some ⟨w.heap.size + 1, 0, none⟩) 1 1] 48 (0, 0)) := by
    have := heap_alloc_new ((w.alloc (.cells #[.int .u8 122] 5 (1, 2))).alloc (.cells #[.slice (some ⟨w.heap.size, 0, none⟩) 1 1] 42)) (.cells #[.bool false, .slice (some ⟨w.heap.size + 1, 0, none⟩) 1 1] 48 (0, 0))
    rw [z, z] at this; exact this
  refine ⟨b1, ⟨Or.inr ⟨w.heap.size + 1 + 1, 0, rfl, lt_of_block h3, ext_new _ _ (by omega), fun j y hj => ?_⟩⟩, fun y hy => ?_⟩
  · have hj0 : j = 0 := by have := (List.getElem?_eq_some_iff.1 hj).1; simpa using this
    subst hj0
    simp at hj
    subst hj
    exact ⟨by unfold World.cell?; rw [h3]; rfl, by unfold World.cell?; rw [h3]; rfl⟩
  · simp at hy
    subst hy
    exact ⟨z_stay hq h1 h2 rfl (ext_new _ _ (Nat.le_refl _)) (ext_new _ _ (by omega)), rfl, z_fits, by simp [zc]⟩
/-- The last of a book. -/
theorem Trs.last {w : World} {g : Nat} {l : List (List (List Nat))} {x : List (List Nat)} (h : Trs w (some ⟨g, 0, none⟩) (l ++ [x])) : Trs w (some ⟨g, l.length, none⟩) [x] := by
  refine ⟨fun ps hp => h.few ps (by simp at hp; subst hp; simp), Or.inr ?_⟩
  rcases h.lie with e | ⟨g', o, e, hg, hc⟩
  · simp at e
  · cases e
    refine ⟨g, l.length, rfl, hg, fun j ps hj => ?_⟩
    have hj0 : j = 0 := by have := (List.getElem?_eq_some_iff.1 hj).1; simpa using this
    subst hj0
    simp at hj
    subst hj
    obtain ⟨pp, cp, e1, e2⟩ := hc l.length x (by simp)
    exact ⟨pp, cp, by simpa using e1, e2⟩
theorem z_trs {w : World} {g1 g2 g3 c c' : Nat} {t1 t2 t3 : TypeId} {m1 m2 m3 : Nat × Nat} (h1 : w.heap[g1]? = some (.cells #[.int .u8 122] t1 m1)) (h2 : w.heap[g2]? = some (.cells #[.slice (some ⟨g1, 0, none⟩) 1 c] t2 m2)) (h3 : w.heap[g3]? = some (.cells #[.slice (some ⟨g2, 0, none⟩) 1 c'] t3 m3)) : Trs w (some ⟨g3, 0, none⟩) [[[122]]] := by
  refine ⟨fun ps hp => by simp at hp; subst hp; simp, Or.inr ⟨g3, 0, rfl, lt_of_block h3, fun j ps hj => ?_⟩⟩
  have hj0 : j = 0 := by have := (List.getElem?_eq_some_iff.1 hj).1; simpa using this
  subst hj0
  simp at hj
  subst hj
  exact ⟨_, c', by simp [World.cell?, h3], z_pts h1 h2 rfl⟩
theorem z_book (w W : World) (hW : W = (((w.alloc (.cells #[.int .u8 122] 5 (1, 2))).alloc (.cells #[.slice (some ⟨w.heap.size, 0, none⟩) 1 1] 42)).alloc (.cells #[.slice (some ⟨w.heap.size + 1, 0, none⟩) 1 1] 46))) :
    Below w.heap.size w W ∧ Trs W (some ⟨w.heap.size + 1 + 1, 0, none⟩) [[[122]]] := by
  subst hW
  have z : ∀ (w : World) (o : Obj), (w.alloc o).heap.size = w.heap.size + 1 := fun w o => by unfold World.alloc; exact Array.size_push _
  refine ⟨(((Below.refl w.heap.size w).alloc (Nat.le_refl _) _).alloc (by rw [z]; omega) _).alloc (by rw [z, z]; omega) _, z_trs (g1 := w.heap.size) (g2 := w.heap.size + 1) (t1 := 5) (m1 := (1, 2)) (c := 1) (t2 := 42) (m2 := (0, 0)) (c' := 1) (t3 := 46) (m3 := (0, 0)) ?_ ?_ ?_⟩
  · rw [Below.heap_alloc _ _ _ (by rw [z, z]; omega), Below.heap_alloc _ _ _ (by rw [z]; omega)]; exact heap_alloc_new _ _
  · rw [Below.heap_alloc _ _ _ (by rw [z, z]; omega)]
    have := heap_alloc_new (w.alloc (.cells #[.int .u8 122] 5 (1, 2))) (.cells #[.slice (some ⟨w.heap.size, 0, none⟩) 1 1] 42 (0, 0))
    rw [z] at this; exact this
  · have := heap_alloc_new ((w.alloc (.cells #[.int .u8 122] 5 (1, 2))).alloc (.cells #[.slice (some ⟨w.heap.size, 0, none⟩) 1 1] 42)) (.cells #[.slice (some ⟨w.heap.size + 1, 0, none⟩) 1 1] 46 (0, 0))
    rw [z, z] at this; exact this
end Go.Proofs.YtlmfohcdaahojabGreatDoor
