import Derived.Test.YtlmfohcdaahojaaGreatDoorJAftP
import Derived.Test.YtlmfohcdaahojaaGreatDoorJFullP
import Derived.Test.YtlmfohcdaahojaaGreatDoorJPv0
import Derived.Test.YtlmfohcdaahojaaGreatDoorAgainP
namespace Go.Proofs.YtlmfohcdaahojaaGreatDoor
open Go.RowKit Go.Maps

/-- What a walk of calls asks of a journal. -/
structure Gd (S : St) (J : Jr) (l : List (List (List Nat))) : Prop where
  inv : Inv S
  sz : ∃ k, k + 41943050 ≤ 549755813888 ∧ Sz S k
  nm : J.second.length ≤ 64
  gd : goodN J ≤ 1099511627776
  last : J.last < 18446744073709551615
  lens : ∀ r ∈ J.recs, 25 ≤ r.length ∧ r.length ≤ 4194304
  all : allOf J.recs = l
  ln : J.recs.length = l.length
  few : ∀ ps ∈ l, ps.length ≤ 4096 ∧ ∀ p ∈ ps, p.length ≤ 140737488351232
  bk : l.length ≤ 900
def Gq (od o : Nat) (k : Nat × Nat) : Prop := k.1 = od ∨ k.1 = o
theorem gq_pk {od o : Nat} : ∀ k, Pk od o k → Gq od o k := fun k h => by
  rcases h with h | h | h
  · exact Or.inl h
  · rw [h]; exact Or.inr rfl
  · rw [h]; exact Or.inr rfl
/-- A list of calls in a block that no disk and no journal owns. -/
structure Clr (w : World) (K : Knd) (sp : Option Addr) (L : List Cl) : Prop where
  lie : L = [] ∨ ∃ g o, sp = some ⟨g, o, none⟩ ∧ g < w.heap.size ∧ K g = (0, 0) ∧ ∀ (j : Nat) (c : Cl), L[j]? = some c → w.cell? ⟨g, o + j * 2, none⟩ = some (.bool c.b) ∧ w.cell? ⟨g, o + j * 2 + 1, none⟩ = some (.slice c.pp c.k c.cap)
theorem Clr.kept {p : Nat × Nat → Prop} {K K' : Knd} {w w' : World} {sp : Option Addr} {L : List Cl} (h : Clr w K sp L) (hk : Kp p K K' w w') (hp : ¬ p (0, 0)) : Clr w' K' sp L := by
  refine ⟨h.lie.imp id ?_⟩
  rintro ⟨g, o, e, hg, hK, hc⟩
  have hb : w'.heap[g]? = w.heap[g]? := hk.block g hg (by rw [hK]; exact hp)
  exact ⟨g, o, e, Nat.lt_of_lt_of_le hg hk.size, (hk.same g hg).trans hK, fun j c hj => ⟨(World.cell?_of_block hb).trans (hc j c hj).1, (World.cell?_of_block hb).trans (hc j c hj).2⟩⟩
/-- Parts that stay whatever the disk and the journal do. -/
def Stay (q : Nat × Nat → Prop) (K : Knd) (w : World) (pp : Option Addr) (ps : List (List Nat)) : Prop := ∀ K' w', Kp q K K' w w' → Pts w' pp ps
/-- The walk's memory. -/
structure Gm (q : Nat × Nat → Prop) (K0 : Knd) (w0 : World) (K : Knd) (w : World) (od o d jb : Nat) (S : St) (J : Jr) (v : Value) (l : List (List (List Nat))) : Prop where
  dk : Dk w K od d S
  jk : Jk w K o d jb J
  bk : ∃ vs, Bop (Stay q K0 w0) w K v l vs
  kp : Kp q K0 K w0 w
theorem Gm.drew {q : Nat × Nat → Prop} {K0 K : Knd} {w0 w : World} {od o d jb : Nat} {S : St} {J : Jr} {v : Value} {l : List (List (List Nat))} (h : Gm q K0 w0 K w od o d jb S J v l) : Gm q K0 w0 K w.drew od o d jb S J v l := by
  have kd : Kp (fun _ => False) K K w w.drew := (Kp.refl _ _ _).drew
  obtain ⟨vs, hb⟩ := h.bk
  exact ⟨h.dk.kept kd (fun _ h => h), h.jk.kept kd (fun _ h => h), ⟨vs, hb.kept kd (fun h => h)⟩, h.kp.trans (kd.mono fun _ h => h.elim)⟩
theorem Gm.below {q : Nat × Nat → Prop} {K0 K : Knd} {w0 w w' : World} {od o d jb : Nat} {S : St} {J : Jr} {v : Value} {l : List (List (List Nat))} (h : Gm q K0 w0 K w od o d jb S J v l) (hb : Below w.heap.size w w') : Gm q K0 w0 (ext K w.heap.size (0, 0)) w' od o d jb S J v l := by
  obtain ⟨vs, hv⟩ := h.bk
  exact ⟨h.dk.kept (kp_below hb (fun _ => False) K (0, 0)) (fun _ h => h), h.jk.kept (kp_below hb (fun _ => False) K (0, 0)) (fun _ h => h), ⟨vs, hv.kept (kp_below hb (fun _ => False) K (0, 0)) (fun h => h)⟩, h.kp.trans (kp_below hb q K (0, 0))⟩

theorem Gm.still {q : Nat × Nat → Prop} {K0 K : Knd} {w0 w w' : World} {od o d jb : Nat} {S : St} {J : Jr} {v : Value} {l : List (List (List Nat))} (h : Gm q K0 w0 K w od o d jb S J v l) (kd : Kp (fun _ => False) K K w w') : Gm q K0 w0 K w' od o d jb S J v l := by
  obtain ⟨vs, hb⟩ := h.bk
  exact ⟨h.dk.kept kd (fun _ h => h), h.jk.kept kd (fun _ h => h), ⟨vs, hb.kept kd (fun h => h)⟩, h.kp.trans (kd.mono fun _ h => h.elim)⟩

set_option maxRecDepth 100000 in
set_option maxHeartbeats 4000000 in
theorem goes_any (w : World) (K : Knd) (od o d jb : Nat) (hod : od ≠ 0) (ho : o ≠ 0) (hne : o ≠ od) (S : St) (J : Jr) (v : Value) (l : List (List (List Nat))) (hM : Gm (Gq od o) K w K w od o d jb S J v l) (hT : C.Tab w) (hK0 : K 0 = (0, 0))
    (sp : Option Addr) (m cap : Nat) (L : List Cl) (hm : L.length = m) (hml : m ≤ 100) (hC : Clr w K sp L) (hL : ∀ x ∈ L, Stay (Gq od o) K w x.pp x.ps ∧ x.ps.length = x.k ∧ fitsB x.ps = true ∧ ∀ p ∈ x.ps, ∀ y ∈ p, y < 256)
    (G : Nat → St → Jr → List (List (List Nat)) → Prop) (hG : ∀ c S J l, G c S J l → Gd S J l) (n0 : Nat)
    (hS : ∀ c S J l, G c S J l → c < n0 + m → ∀ x ∈ L, (∃ S' J', callR x.b S J x.ps = (44, S', J') ∧ G (c + 1) S' J' l) ∨ (∃ S' J', callR x.b S J x.ps = (0, S', J') ∧ G (c + 1) S' J' (lAf x.b l x.ps))) (h0 : G n0 S J l) :
    Calls Tryz.prog 27 #[.pointer (some ⟨jb, 0, none⟩), .slice sp m cap, v] w fun e w' => ∃ v' S' J' l' K', e = .returned (.tuple #[v', .bool true]) ∧ Gm (Gq od o) K w K' w' od o d jb S' J' v' l' ∧ G (n0 + m) S' J' l' := by
  have nq0 : ¬ Gq od o (0, 0) := fun h => h.elim (fun h => hod h.symm) (fun h => ho h.symm)
  have HM := hide hM
  have HT := hide hT
  have HK0 := hide hK0
  have Hm := hide hm
  have HC := hide hC
  have HL := hide hL
  have HG := hide hG
  have HS := hide hS
  have H0 := hide h0
  clear hM hT hK0 hm hC hL hG hS h0
  go_enter Tryz.func27, Tryz.ntmps27
  go_wp2
  go_loopw [2, 8] (fun bv i wr => ∃ (c : Nat) (Kc : Knd) (S : St) (J : Jr) (l : List (List (List Nat))), c ≤ m ∧ i = .int .i64 c ∧ Hid (Gm (Gq od o) K w Kc wr od o d jb S J bv l) ∧ Hid (G (n0 + c) S J l)) (fun _ i _ => m - (intOf i).toNat)
  case atStart => exact ⟨0, K, S, J, l, Nat.zero_le _, rfl, HM, H0⟩
  case round =>
    clear HM H0
    obtain ⟨c, Kc, S, J, l, hc, rfl, HM, HD⟩ := hrel
    by_cases hlt : c < m
    · have hlt' : (c : Int) < (m : Int) := by omega
      have c0 : (0 : Int) ≤ (c : Int) := by omega
      obtain ⟨x, hx⟩ : ∃ x, L[c]? = some x := ⟨_, List.getElem?_eq_getElem (by have := Hm.out; omega)⟩
      obtain ⟨hst, hxl, hfx, hsm⟩ := HL.out x (List.mem_of_getElem? hx)
      have hcr := HS.out (n0 + c) S J l HD.out (by omega) x (List.mem_of_getElem? hx)
      have hCw := HC.out.kept HM.out.kp nq0
      obtain ⟨g, og, rfl, hgl, hgk, hcs⟩ : ∃ g o, sp = some ⟨g, o, none⟩ ∧ g < wr.heap.size ∧ Kc g = (0, 0) ∧ ∀ (j : Nat) (c : Cl), L[j]? = some c → wr.cell? ⟨g, o + j * 2, none⟩ = some (.bool c.b) ∧ wr.cell? ⟨g, o + j * 2 + 1, none⟩ = some (.slice c.pp c.k c.cap) := by
        rcases hCw.lie with e | e
        · rw [e] at hx; simp at hx
        · exact e
      obtain ⟨t0, t1⟩ := hcs c x hx
      obtain ⟨xb, xp, xk, xc, xs⟩ := x
      simp only at t0 t1 hfx hst hxl hsm hcr
      have hx4 : xk ≤ 4096 := by have := (fits_small hfx).1; omega
      obtain ⟨vs, hb⟩ := HM.out.bk
      obtain ⟨av, cv, rfl, _, _⟩ := hb.row.form
      have gd := HG.out _ _ _ _ HD.out
      obtain ⟨k, hk, hz⟩ := gd.sz
      have hRun := run_any xb wr Kc od o d jb hne S J HM.out.dk gd.inv k hz hk HM.out.jk gd.nm gd.gd (by rw [gd.ln]; have := gd.bk; omega) gd.last xp xk xc xs hxl hx4 (hst _ _ HM.out.kp) hsm (tab_kp HT.out HM.out.kp HK0.out nq0)
      have HSt := hide hst
      have HXl := hide hxl
      have HB := hide hb
      have hlb : l.length ≤ 900 := gd.bk
      clear hst hxl hfx hsm hb gd hk hz k hcs hCw hx
      rcases hcr with ⟨S', J', hcr, hd'⟩ | ⟨S', J', hcr, hd'⟩
      · rw [hcr] at hRun
        have HRun := hide hRun
        have HD5 : Hid (G (n0 + (c + 1)) S' J' l) := hd'
        clear hRun hcr hd'
        go_wp2_with fail
        refine HRun.out.mono ?_
        rintro e w5 ⟨K5, rfl, hd5, hj5, hk5⟩
        have hk5' := hk5.mono gq_pk
        have HB5 := hide (HB.out.kept hk5' nq0)
        have HM5 : Hid (Gm (Gq od o) K w K5 w5 od o d jb S' J' (.slice av l.length cv) l) := ⟨hd5, hj5, ⟨_, HB5.out⟩, HM.out.kp.trans hk5'⟩
        clear hd5 hj5 hk5 hk5'
        have gd5 := HG.out _ _ _ _ HD5.out
        have hAll := All_any w5 K5 o d jb J' HM5.out.jk gd5.lens (by rw [gd5.ln]; have := gd5.bk; omega) (tab_kp HT.out HM5.out.kp HK0.out nq0)
        rw [gd5.all, gd5.ln] at hAll
        have HAll := hide hAll
        have HFw := hide gd5.few
        have hl9 : (l).length ≤ 900 := gd5.bk
        clear hAll gd5
        go_wp2_with fail
        refine HAll.out.mono ?_
        rintro e wA ⟨aA, cA, rfl, htr, hbw⟩
        have HMA := hide (HM5.out.below hbw)
        have HTr := hide (trans_same wA aA av (l).length cA cv (l) rfl (by omega) (htr.trs HFw.out) ((HB5.out.kept (kp_below hbw (fun _ => False) K5 (0, 0)) (fun h => h)).trs fun _ _ h => h _ _ HMA.out.kp))
        clear htr hbw
        go_wp2_with fail
        refine HTr.out.mono ?_
        rintro e wB ⟨rfl, qq, hwB⟩
        have HMB := hide (HMA.out.still (w' := wB) (by rw [hwB]; exact (Kp.refl _ _ _).drewN qq))
        clear hwB
        go_wp2
        go_roundw
        case rel => exact ⟨c + 1, _, S', J', l, by omega, by go_num, HMB, HD5⟩
        case measure => simp [intOf]; omega
      · rw [hcr] at hRun
        have HRun := hide hRun
        have HD5 : Hid (G (n0 + (c + 1)) S' J' (lAf xb l xs)) := hd'
        clear hRun hcr hd'
        go_wp2_with fail
        refine HRun.out.mono ?_
        rintro e w5 ⟨K5, rfl, hd5, hj5, hk5⟩
        have hk5' := hk5.mono gq_pk
        have hgb : w5.heap[g]? = wr.heap[g]? := hk5'.block g hgl (by rw [hgk]; exact nq0)
        have s0 : w5.cell? ⟨g, og + c * 2, none⟩ = _ := (World.cell?_of_block hgb).trans t0
        have s1 : w5.cell? ⟨g, og + c * 2 + 1, none⟩ = _ := (World.cell?_of_block hgb).trans t1
        have hgl5 := Nat.lt_of_lt_of_le hgl hk5'.size
        have HB5 := hide (HB.out.kept hk5' nq0)
        have HM5 : Hid (Gm (Gq od o) K w K5 w5 od o d jb S' J' (.slice av l.length cv) l) := ⟨hd5, hj5, ⟨_, HB5.out⟩, HM.out.kp.trans hk5'⟩
        have HAf := hide (afterP_any (Stay (Gq od o) K w) w5 K5 xb xp xk xc xs HXl.out hx4 HSt.out _ l vs HB5.out (by omega))
        clear hd5 hj5 hk5 hk5' hgb t0 t1
        go_wp2_with fail
        refine HAf.out.mono ?_
        rintro e w6 ⟨v6, vs6, rfl, hb6, hbw6⟩
        obtain ⟨a6, c6, rfl, _, _⟩ := hb6.row.form
        have HB6 := hide hb6
        have HM6 : Hid (Gm (Gq od o) K w (ext K5 w5.heap.size (0, 0)) w6 od o d jb S' J' (.slice a6 (lAf xb l xs).length c6) (lAf xb l xs)) := ⟨(HM5.out.below hbw6).dk, (HM5.out.below hbw6).jk, ⟨_, hb6⟩, (HM5.out.below hbw6).kp⟩
        clear hb6 hbw6 s0 s1
        have gd5 := HG.out _ _ _ _ HD5.out
        have hAll := All_any w6 (ext K5 w5.heap.size (0, 0)) o d jb J' HM6.out.jk gd5.lens (by rw [gd5.ln]; have := gd5.bk; omega) (tab_kp HT.out HM6.out.kp HK0.out nq0)
        rw [gd5.all, gd5.ln] at hAll
        have HAll := hide hAll
        have HFw := hide gd5.few
        have hl9 : (lAf xb l xs).length ≤ 900 := gd5.bk
        clear hAll gd5
        go_wp2_with fail
        refine HAll.out.mono ?_
        rintro e wA ⟨aA, cA, rfl, htr, hbw⟩
        have HMA := hide (HM6.out.below hbw)
        have HTr := hide (trans_same wA aA a6 (lAf xb l xs).length cA c6 (lAf xb l xs) rfl (by omega) (htr.trs HFw.out) ((HB6.out.kept (kp_below hbw (fun _ => False) (ext K5 w5.heap.size (0, 0)) (0, 0)) (fun h => h)).trs fun _ _ h => h _ _ HMA.out.kp))
        clear htr hbw
        go_wp2_with fail
        refine HTr.out.mono ?_
        rintro e wB ⟨rfl, qq, hwB⟩
        have HMB := hide (HMA.out.still (w' := wB) (by rw [hwB]; exact (Kp.refl _ _ _).drewN qq))
        clear hwB
        go_wp2
        go_roundw
        case rel => exact ⟨c + 1, _, S', J', lAf xb l xs, by omega, by go_num, HMB, HD5⟩
        case measure => simp [intOf]; omega
    · obtain rfl : c = m := by omega
      go_wp2
      go_ret2
      exact ⟨_, S, J, l, Kc, rfl, HM.out, HD.out⟩
end Go.Proofs.YtlmfohcdaahojaaGreatDoor
namespace Go.Proofs.YtlmfohcdaahojaaGreatDoor
open Go.RowKit Go.Maps

theorem and16 (z : Int) : ∃ i : Nat, i < 65536 ∧ bits .and .i64 z 65535 = (i : Int) := by
  refine ⟨(BitVec.ofInt 64 z).toNat % 65536, Nat.mod_lt _ (by omega), ?_⟩
  show IntKind.i64.wrap ((BitVec.ofInt 64 z &&& BitVec.ofInt 64 65535).toNat : Int) = _
  have h1 : (BitVec.ofInt 64 (65535 : Int)).toNat = 2 ^ 16 - 1 := by decide
  rw [BitVec.toNat_and, h1, Nat.and_two_pow_sub_one_eq_mod, IntKind.wrap_i64]
  omega
theorem fd_new {r : Nat} (hr : r ≤ 16777216) : Fd r (St.laid r []) (jnew jx ([], 0, false, 0)) [] 1 0 :=
  ⟨new_stl hr, ⟨⟨jx_ok.1, jx_ok.2, rfl, rfl, rfl, fun h => by cases h⟩, rfl, True.intro, rfl, rfl, Nat.le_refl _⟩, rfl, Nat.zero_le _, rfl, fun y hy => absurd rfl hy, by simp, fun _ => rfl⟩
theorem sum_lens : ∀ (l : List (List Nat)), (∀ r ∈ l, 25 ≤ r.length ∧ r.length ≤ 4194304) → (l.map List.length).sum ≤ l.length * 4194304
  | [], _ => by simp
  | a :: l, h => by
    have h2 := sum_lens l (fun r hr => h r (List.mem_cons_of_mem _ hr))
    have h3 := (h a (by simp)).2
    simp only [List.map_cons, List.sum_cons, List.length_cons]
    omega
theorem Fd.gd {r : Nat} {S : St} {J : Jr} {l : List (List (List Nat))} {n c : Nat} (h : Fd r S J l n c) (hc : c ≤ 800) : Gd S J l := by
  have hl := trns_lens h.jd.trns
  rw [← h.jd.recs] at hl
  have hn : J.recs.length = l.length := by rw [h.jd.recs, recs_length]
  have hcn := h.cnt
  have hp := h.jd.pos
  have hla := h.jd.last
  have hs := sum_lens _ hl
  refine ⟨h.stl.inv, ⟨_, by omega, h.stl.sz⟩, (nm_len h.jd.d.nm2).2, ?_, by omega, hl, by rw [h.jd.recs]; exact allOf_recs l n h.jd.trns, hn, trns_few h.jd.trns, by omega⟩
  show (J.recs.map List.length).sum ≤ _
  omega
theorem Bop.mono {P Q : Option Addr → List (List Nat) → Prop} {w : World} {K : Knd} {v : Value} {ts : List (List (List Nat))} {vs : List Value} (h : Bop P w K v ts vs) (hpq : ∀ pp ps, P pp ps → Q pp ps) : Bop Q w K v ts vs :=
  ⟨h.row, h.few, fun j ps hj => by obtain ⟨pp, cp, e1, e2⟩ := h.el j ps hj; exact ⟨pp, cp, e1, hpq _ _ e2⟩, h.one⟩
theorem Stay.later {q : Nat × Nat → Prop} {K K' : Knd} {w w' : World} {pp : Option Addr} {ps : List (List Nat)} (h : Stay q K w pp ps) (hk : Kp q K K' w w') : Stay q K' w' pp ps := fun _ _ h2 => h _ _ (hk.trans h2)
/-- The walk's memory, seen from itself. -/
theorem Gm.self {q : Nat × Nat → Prop} {K0 K : Knd} {w0 w : World} {od o d jb : Nat} {S : St} {J : Jr} {v : Value} {l : List (List (List Nat))} (h : Gm q K0 w0 K w od o d jb S J v l) : Gm q K w K w od o d jb S J v l := by
  obtain ⟨vs, hb⟩ := h.bk
  exact ⟨h.dk, h.jk, ⟨vs, hb.mono fun _ _ hp => Stay.later hp h.kp⟩, Kp.refl _ _ _⟩
/-- What came in stays. -/
theorem stay_of {q : Nat × Nat → Prop} (hq : ¬ q (0, 0)) {W w : World} {K : Knd} (hb : Below W.heap.size W w) (hK : ∀ b, b < W.heap.size → K b = (0, 0)) {pp : Option Addr} {ps : List (List Nat)} (h : Pts W pp ps) : Stay q K w pp ps := fun K' w' hk =>
  h.below (hb.trans ⟨hk.os, hk.tape, hk.output, hk.size, fun b hlt => hk.block b (Nat.lt_of_lt_of_le hlt hb.size) (by rw [hK b hlt]; exact hq)⟩)
/-- A plan turns the disk alone. -/
theorem Gm.planned {K K' : Knd} {w w' : World} {od o d jb : Nat} (hne : o ≠ od) {S S' : St} {J : Jr} {v : Value} {l : List (List (List Nat))} (h : Gm (Gq od o) K w K w od o d jb S J v l) (hod : od ≠ 0) (hk : Kp (Ow od) K K' w w') (hd : Dk w' K' od d S') : Gm (Gq od o) K' w' K' w' od o d jb S' J v l := by
  obtain ⟨vs, hb⟩ := h.bk
  have kq : Kp (Gq od o) K K' w w' := hk.mono fun _ e => Or.inl e
  exact ⟨hd, h.jk.kept hk (fun _ e => hne e), ⟨vs, (hb.kept hk (fun e => hod e.symm)).mono fun _ _ hp => Stay.later hp kq⟩, Kp.refl _ _ _⟩
end Go.Proofs.YtlmfohcdaahojaaGreatDoor
namespace Go.Proofs.YtlmfohcdaahojaaGreatDoor
open Go.RowKit Go.Maps

theorem used_one {S : St} (hv : Inv S) (h : ∀ y, S.v y ≠ none → y = jx) : S.used = ((S.v jx).getD []).length := by
  have hn : ∀ p ∈ S.seen, p.1 = jx := fun p hp => h p.1 (by unfold St.v; rw [look_of_mem hv.srt hp]; simp)
  have hd := hv.srt.nodup
  unfold St.used St.v
  cases hs : S.seen with
  | nil => simp [lookN]
  | cons p l =>
    have hp1 : p.1 = jx := hn p (by rw [hs]; simp)
    have hl : l = [] := by
      cases l with
      | nil => rfl
      | cons q l =>
        rw [hs] at hd
        exact absurd (hp1.trans (hn q (by rw [hs]; simp)).symm) ((List.pairwise_cons.1 hd).1 q (by simp))
    subst hl
    have := look_of_mem hv.srt (p := p) (by rw [hs]; simp)
    rw [hs, hp1] at this
    rw [this]; simp
theorem z_rec (num : Nat) : (recB num [[122]]).length = 27 := by
  rw [recB_len, bodyB_len]
  rw [show (partsB [[122]]).length = 2 by kernel_rfl]
theorem z_fits : fitsB [[122]] = true := by kernel_rfl
theorem jx_new : jx ++ newE ≠ jx := by decide
/-- The journal that is opened over what was left. -/
def jagain (n : Nat) (l : List (List (List Nat))) : Jr := jnew jx (recsOf n l, if l = [] then 0 else n + l.length - 1, false, 0)
theorem Fd.again {r : Nat} {S : St} {J : Jr} {l : List (List (List Nat))} {n c : Nat} (h : Fd r S J l n c) (hr : r ≤ 16777216) : Fd r (St.laid r S.image) (jagain n l) l n c := by
  have hv : ∀ y, (St.laid r S.image).v y = S.v y := fun y => laid_v h.stl.on.off r y
  have hs := laid_stl h.stl.inv h.stl.sz h.stl.on.off h.used hr
  have hvis : ∀ y, (St.laid r S.image).v y ≠ none → y = jx := fun y hy => h.vis y (by rw [← hv y]; exact hy)
  refine ⟨hs.more (Nat.zero_le _), ⟨⟨jx_ok.1, jx_ok.2, rfl, ?_, ?_, fun h => by cases h⟩, rfl, h.jd.trns, ?_, rfl, h.jd.pos⟩, rfl, ?_, rfl, hvis, h.cnt, h.emp⟩
  · show ((St.laid r S.image).v jx).getD [] = (recsOf n l).flatten
    rw [hv, ← h.nm, h.jd.d.byt, h.jd.recs]
  · show (St.laid r S.image).v (jx ++ newE) = none
    cases e : (St.laid r S.image).v (jx ++ newE) with
    | none => rfl
    | some b => exact absurd (hvis _ (by rw [e]; simp)) jx_new
  · show (if l = [] then 0 else n + l.length - 1) + 1 = n + l.length
    by_cases he : l = []
    · rw [if_pos he, he, h.emp he]; rfl
    · have hp := h.jd.pos
      rw [if_neg he]
      omega
  · rw [used_one hs.inv hvis, hv, ← used_one h.stl.inv h.vis]; exact h.used
theorem Fd.zcall {r : Nat} {S : St} {J : Jr} {l : List (List (List Nat))} {n c : Nat} (h : Fd r S J l n c) (hc : c < 800) (hp : S.pFrom = 0) (hu : S.used + 32 ≤ r) : ∃ S' J', callR false S J [[122]] = (0, S', J') ∧ Fd r S' J' (l ++ [[[122]]]) n (c + 1) := by
  rcases h.step (by omega) false [[122]] z_fits (by simp) with ⟨_, e, _⟩ | ⟨S', J', e1, e2⟩
  · exfalso
    rw [z_rec] at e
    have hro := h.room
    have e1 : S.stroked.pFrom = S.pFrom := rfl
    have e2 : S.stroked.room = S.room := rfl
    have e3 : S.stroked.used = S.used := rfl
    unfold St.full St.fullP at e
    rw [e1, e2, e3, hp] at e
    simp at e
    omega
  · exact ⟨S', J', e1, e2⟩
/-- What goes holds around the last call. -/
def Gz (r n c : Nat) (S2 : St) (J2 : Jr) (lb : List (List (List Nat))) (i : Nat) (S : St) (J : Jr) (l : List (List (List Nat))) : Prop :=
  (i = 0 ∧ S = S2 ∧ J = J2 ∧ l = lb) ∨ (i = 1 ∧ l = lb ++ [[[122]]] ∧ Fd r S J l n (c + 1))
theorem gz_gd {r n c : Nat} {S2 : St} {J2 : Jr} {lb : List (List (List Nat))} (h : Fd r S2 J2 lb n c) (hc : c < 800) : ∀ i S J l, Gz r n c S2 J2 lb i S J l → Gd S J l := by
  rintro i S J l (⟨_, rfl, rfl, rfl⟩ | ⟨_, rfl, hf⟩)
  · exact h.gd (by omega)
  · exact hf.gd (by omega)
theorem gz_step {r n c : Nat} {S2 : St} {J2 : Jr} {lb : List (List (List Nat))} (h : Fd r S2 J2 lb n c) (hc : c < 800) (hp : S2.pFrom = 0) (hu : S2.used + 32 ≤ r) {x : Cl} (hx : x.b = false ∧ x.ps = [[122]]) : ∀ i S J l, Gz r n c S2 J2 lb i S J l → i < 0 + 1 → ∀ y ∈ [x], (∃ S' J', callR y.b S J y.ps = (44, S', J') ∧ Gz r n c S2 J2 lb (i + 1) S' J' l) ∨ (∃ S' J', callR y.b S J y.ps = (0, S', J') ∧ Gz r n c S2 J2 lb (i + 1) S' J' (lAf y.b l y.ps)) := by
  intro i S J l hg hi y hy
  simp at hy
  subst hy
  rcases hg with ⟨rfl, rfl, rfl, rfl⟩ | ⟨rfl, _⟩
  · obtain ⟨S', J', e1, e2⟩ := h.zcall hc hp hu
    rw [hx.1, hx.2]
    exact Or.inr ⟨S', J', e1, Or.inr ⟨rfl, rfl, e2⟩⟩
  · omega
/-- A new disk and journal in the old ones' place. -/
theorem Gm.anew {K K' : Knd} {w w' : World} {od o d jb d2 jb2 : Nat} (hq : ¬ Gq od o (0, 0)) {S S2 : St} {J J2 : Jr} {v : Value} {l : List (List (List Nat))} (h : Gm (Gq od o) K w K w od o d jb S J v l) (hk : Kp (Gq od o) K K' w w') (hd : Dk w' K' od d2 S2) (hj : Jk w' K' o d2 jb2 J2) : Gm (Gq od o) K' w' K' w' od o d2 jb2 S2 J2 v l := by
  obtain ⟨vs, hb⟩ := h.bk
  exact ⟨hd, hj, ⟨vs, (hb.kept hk hq).mono fun _ _ hp => Stay.later hp hk⟩, Kp.refl _ _ _⟩
/-- The literal list of one part "z". -/
theorem z_pts {w : World} {g1 g2 c : Nat} {t1 t2 : TypeId} {m1 m2 : Nat × Nat} {D : Array Value} (h1 : w.heap[g1]? = some (.cells #[.int .u8 122] t1 m1)) (h2 : w.heap[g2]? = some (.cells D t2 m2)) (hD : D[0]? = some (.slice (some ⟨g1, 0, none⟩) 1 c)) : Pts w (some ⟨g2, 0, none⟩) [[122]] := by
  refine ⟨fun p hp => by simp at hp; subst hp; simp, Or.inr ⟨g2, 0, rfl, lt_of_block h2, fun j p hj => ?_⟩⟩
  have hj0 : j = 0 := by have := (List.getElem?_eq_some_iff.1 hj).1; simpa using this
  subst hj0
  simp at hj
  subst hj
  refine ⟨some ⟨g1, 0, none⟩, c, ?_, ⟨fun x hx => by simp at hx; omega, Or.inr ⟨g1, 0, rfl, lt_of_block h1, fun j hj => ?_⟩⟩⟩
  · simp [World.cell?, h2, hD]
  · have hj0 : j = 0 := by simpa using hj
    subst hj0
    simp [World.cell?, h1]
theorem z_stay {q : Nat × Nat → Prop} (hq : ¬ q (0, 0)) {K : Knd} {w : World} {g1 g2 c : Nat} {t1 t2 : TypeId} {m1 m2 : Nat × Nat} {D : Array Value} (h1 : w.heap[g1]? = some (.cells #[.int .u8 122] t1 m1)) (h2 : w.heap[g2]? = some (.cells D t2 m2)) (hD : D[0]? = some (.slice (some ⟨g1, 0, none⟩) 1 c)) (k1 : K g1 = (0, 0)) (k2 : K g2 = (0, 0)) : Stay q K w (some ⟨g2, 0, none⟩) [[122]] := fun K' w' hk =>
  z_pts ((hk.block g1 (lt_of_block h1) (by rw [k1]; exact hq)).trans h1) ((hk.block g2 (lt_of_block h2) (by rw [k2]; exact hq)).trans h2) hD
/-- The literal call with one part "z". -/
def zc (g : Nat) : Cl := ⟨false, some ⟨g, 0, none⟩, 1, 1, [[122]]⟩
theorem z_list (w : World) (K : Knd) {q : Nat × Nat → Prop} (hq : ¬ q (0, 0)) (W : World) (hW : W = (((w.alloc (.cells #[.int .u8 122] 5 (1, 2))).alloc (.cells #[.slice (some ⟨w.heap.size, 0, none⟩) 1 1] 28)).alloc (.cells #[.bool false, .slice (some ⟨w.heap.size + 1, 0, none⟩) 1 1] 64))) :
    Below w.heap.size w W ∧ Clr W (ext K w.heap.size (0, 0)) (some ⟨w.heap.size + 1 + 1, 0, none⟩) [zc (w.heap.size + 1)] ∧ (∀ y ∈ [zc (w.heap.size + 1)], Stay q (ext K w.heap.size (0, 0)) W y.pp y.ps ∧ y.ps.length = y.k ∧ fitsB y.ps = true ∧ ∀ p ∈ y.ps, ∀ z ∈ p, z < 256) := by
  subst hW
  have z : ∀ (w : World) (o : Obj), (w.alloc o).heap.size = w.heap.size + 1 := fun w o => by unfold World.alloc; exact Array.size_push _
  have b1 := (((Below.refl w.heap.size w).alloc (Nat.le_refl _) (.cells #[.int .u8 122] 5 (1, 2))).alloc (by rw [z]; omega) (.cells #[.slice (some ⟨w.heap.size, 0, none⟩) 1 1] 28)).alloc (by rw [z, z]; omega) (.cells #[.bool false, .slice (some ⟨w.heap.size + 1, 0, none⟩) 1 1] 64)
  have h1 : (((w.alloc (.cells #[.int .u8 122] 5 (1, 2))).alloc (.cells #[.slice (some ⟨w.heap.size, 0, none⟩) 1 1] 28)).alloc (.cells #[.bool false, .slice (some ⟨w.heap.size + 1, 0, none⟩) 1 1] 64)).heap[w.heap.size]? = some (.cells #[.int .u8 122] 5 (1, 2)) := by
    rw [Below.heap_alloc _ _ _ (by rw [z, z]; omega), Below.heap_alloc _ _ _ (by rw [z]; omega)]; exact heap_alloc_new _ _
  have h2 : (((w.alloc (.cells #[.int .u8 122] 5 (1, 2))).alloc (.cells #[.slice (some ⟨w.heap.size, 0, none⟩) 1 1] 28)).alloc (.cells #[.bool false, .slice (some ⟨w.heap.size + 1, 0, none⟩) 1 1] 64)).heap[w.heap.size + 1]? = some (.cells #[.slice (some ⟨w.heap.size, 0, none⟩) 1 1] 28 (0, 0)) := by
    rw [Below.heap_alloc _ _ _ (by rw [z, z]; omega)]
    have := heap_alloc_new (w.alloc (.cells #[.int .u8 122] 5 (1, 2))) (.cells #[.slice (some ⟨w.heap.size, 0, none⟩) 1 1] 28 (0, 0))
    rw [z] at this; exact this
  have h3 : (((w.alloc (.cells #[.int .u8 122] 5 (1, 2))).alloc (.cells #[.slice (some ⟨w.heap.size, 0, none⟩) 1 1] 28)).alloc (.cells #[.bool false, .slice (some ⟨w.heap.size + 1, 0, none⟩) 1 1] 64)).heap[w.heap.size + 1 + 1]? = some (.cells #[.bool false, .slice (some ⟨w.heap.size + 1, 0, none⟩) 1 1] 64 (0, 0)) := by
    have := heap_alloc_new ((w.alloc (.cells #[.int .u8 122] 5 (1, 2))).alloc (.cells #[.slice (some ⟨w.heap.size, 0, none⟩) 1 1] 28)) (.cells #[.bool false, .slice (some ⟨w.heap.size + 1, 0, none⟩) 1 1] 64 (0, 0))
    rw [z, z] at this; exact this
  refine ⟨b1, ⟨Or.inr ⟨w.heap.size + 1 + 1, 0, rfl, lt_of_block h3, ext_new _ _ (by omega), fun j y hj => ?_⟩⟩, fun y hy => ?_⟩
  · have hj0 : j = 0 := by have := (List.getElem?_eq_some_iff.1 hj).1; simpa using this
    subst hj0
    simp at hj
    subst hj
    exact ⟨by unfold World.cell?; rw [h3]; rfl, by unfold World.cell?; rw [h3]; rfl⟩
  · simp at hy
    subst hy
    exact ⟨z_stay hq h1 h2 rfl (ext_new _ _ (Nat.le_refl _)) (ext_new _ _ (by omega)), rfl, z_fits, by simp [zc]⟩
/-- The last of a book. -/
theorem Trs.last {w : World} {g : Nat} {l : List (List (List Nat))} {x : List (List Nat)} (h : Trs w (some ⟨g, 0, none⟩) (l ++ [x])) : Trs w (some ⟨g, l.length, none⟩) [x] := by
  refine ⟨fun ps hp => h.few ps (by simp at hp; subst hp; simp), Or.inr ?_⟩
  rcases h.lie with e | ⟨g', o, e, hg, hc⟩
  · simp at e
  · cases e
    refine ⟨g, l.length, rfl, hg, fun j ps hj => ?_⟩
    have hj0 : j = 0 := by have := (List.getElem?_eq_some_iff.1 hj).1; simpa using this
    subst hj0
    simp at hj
    subst hj
    obtain ⟨pp, cp, e1, e2⟩ := hc l.length x (by simp)
    exact ⟨pp, cp, by simpa using e1, e2⟩
theorem z_trs {w : World} {g1 g2 g3 c c' : Nat} {t1 t2 t3 : TypeId} {m1 m2 m3 : Nat × Nat} (h1 : w.heap[g1]? = some (.cells #[.int .u8 122] t1 m1)) (h2 : w.heap[g2]? = some (.cells #[.slice (some ⟨g1, 0, none⟩) 1 c] t2 m2)) (h3 : w.heap[g3]? = some (.cells #[.slice (some ⟨g2, 0, none⟩) 1 c'] t3 m3)) : Trs w (some ⟨g3, 0, none⟩) [[[122]]] := by
  refine ⟨fun ps hp => by simp at hp; subst hp; simp, Or.inr ⟨g3, 0, rfl, lt_of_block h3, fun j ps hj => ?_⟩⟩
  have hj0 : j = 0 := by have := (List.getElem?_eq_some_iff.1 hj).1; simpa using this
  subst hj0
  simp at hj
  subst hj
  exact ⟨_, c', by simp [World.cell?, h3], z_pts h1 h2 rfl⟩
theorem z_book (w W : World) (hW : W = (((w.alloc (.cells #[.int .u8 122] 5 (1, 2))).alloc (.cells #[.slice (some ⟨w.heap.size, 0, none⟩) 1 1] 28)).alloc (.cells #[.slice (some ⟨w.heap.size + 1, 0, none⟩) 1 1] 62))) :
    Below w.heap.size w W ∧ Trs W (some ⟨w.heap.size + 1 + 1, 0, none⟩) [[[122]]] := by
  subst hW
  have z : ∀ (w : World) (o : Obj), (w.alloc o).heap.size = w.heap.size + 1 := fun w o => by unfold World.alloc; exact Array.size_push _
  refine ⟨(((Below.refl w.heap.size w).alloc (Nat.le_refl _) _).alloc (by rw [z]; omega) _).alloc (by rw [z, z]; omega) _, z_trs (g1 := w.heap.size) (g2 := w.heap.size + 1) (t1 := 5) (m1 := (1, 2)) (c := 1) (t2 := 28) (m2 := (0, 0)) (c' := 1) (t3 := 62) (m3 := (0, 0)) ?_ ?_ ?_⟩
  · rw [Below.heap_alloc _ _ _ (by rw [z, z]; omega), Below.heap_alloc _ _ _ (by rw [z]; omega)]; exact heap_alloc_new _ _
  · rw [Below.heap_alloc _ _ _ (by rw [z, z]; omega)]
    have := heap_alloc_new (w.alloc (.cells #[.int .u8 122] 5 (1, 2))) (.cells #[.slice (some ⟨w.heap.size, 0, none⟩) 1 1] 28 (0, 0))
    rw [z] at this; exact this
  · have := heap_alloc_new ((w.alloc (.cells #[.int .u8 122] 5 (1, 2))).alloc (.cells #[.slice (some ⟨w.heap.size, 0, none⟩) 1 1] 28)) (.cells #[.slice (some ⟨w.heap.size + 1, 0, none⟩) 1 1] 62 (0, 0))
    rw [z, z] at this; exact this
end Go.Proofs.YtlmfohcdaahojaaGreatDoor
namespace Go.Proofs.YtlmfohcdaahojaaGreatDoor
open Go.RowKit Go.Maps

/-! What a crash may leave under a name -/
def lookI (img : Image) (x : Nm) : Option (List Nat) := (img.find? fun p => p.1 == x).map (·.2)
theorem look_idx : ∀ (l : List (Nm × Nat)) (f : Nat → Nm × Nat → List Nat) (x : Nm), (lookN l x = none ∧ lookI (l.mapIdx fun i p => (p.1, f i p)) x = none) ∨ ∃ i j, lookN l x = some i ∧ lookI (l.mapIdx fun i p => (p.1, f i p)) x = some (f j (x, i))
  | [], f, x => Or.inl ⟨rfl, rfl⟩
  | p :: l, f, x => by
    rw [List.mapIdx_cons]
    by_cases h : p.1 = x
    · right
      refine ⟨p.2, 0, by simp [lookN, h], ?_⟩
      subst h
      simp [lookI]
    · rcases look_idx l (fun i p => f (i + 1) p) x with ⟨h1, h2⟩ | ⟨i, j, h1, h2⟩
      · left
        refine ⟨by simp [lookN, h] at h1 ⊢; exact h1, ?_⟩
        simp [lookI, h] at h2 ⊢
        exact h2
      · right
        refine ⟨i, j + 1, ?_, ?_⟩
        · have : lookN (p :: l) x = lookN l x := by simp [lookN, h]
          rw [this]; exact h1
        · have : lookI ((p.1, f 0 p) :: l.mapIdx fun i p => (p.1, f (i + 1) p)) x = lookI (l.mapIdx fun i p => (p.1, f (i + 1) p)) x := by simp [lookI, h]
          rw [this]; exact h2
theorem crash_look (T : St) (ps : List Int) (x : Nm) : (lookN (T.leftN ps) x = none ∧ lookI (T.crash ps) x = none) ∨ ∃ i t, lookN (T.leftN ps) x = some i ∧ lookI (T.crash ps) x = some ((T.file i).left t) := by
  rcases look_idx (T.leftN ps) (fun i p => (T.file p.2).left (pickP ps (i + 1) (T.file p.2).units.length)) x with h | ⟨i, j, h1, h2⟩
  · exact Or.inl h
  · exact Or.inr ⟨i, _, h1, h2⟩
theorem laid_idx : ∀ (img : Image) (k : Nat) (g : Nat → List Nat) (x : Nm), (∀ i p, img[i]? = some p → g (k + i) = p.2) → (lookN (img.mapIdx fun i p => (p.1, k + i)) x).map g = lookI img x
  | [], k, g, x, _ => rfl
  | p :: img, k, g, x, h => by
    rw [List.mapIdx_cons]
    by_cases hp : p.1 = x
    · have h0 := h 0 p rfl
      simp [lookN, lookI, hp]
      simpa using h0
    · have e : (img.mapIdx fun i p => (p.1, k + (i + 1))) = img.mapIdx fun i p => (p.1, (k + 1) + i) := by
        congr 1; funext i p; congr 1; omega
      have ih := laid_idx img (k + 1) g x (fun i q hq => by rw [show k + 1 + i = k + (i + 1) by omega]; exact h (i + 1) q (by simpa using hq))
      rw [e]
      have e1 : lookN ((p.1, k + 0) :: img.mapIdx fun i p => (p.1, (k + 1) + i)) x = lookN (img.mapIdx fun i p => (p.1, (k + 1) + i)) x := by simp [lookN, hp]
      have e2 : lookI (p :: img) x = lookI img x := by simp [lookI, hp]
      rw [e1, e2]; exact ih
theorem laid_look (n : Nat) (img : Image) (x : Nm) : (St.laid n img).v x = lookI img x := by
  have := laid_idx img 0 (fun i => ((St.laid n img).file i).all) x (fun i p hp => by rw [Nat.zero_add, laid_file n img hp]; rfl)
  rw [← this]
  unfold St.v St.laid imgN
  simp

/-- What may be left under every name. -/
def Lv (T : St) (P : Nm → Option (List Nat) → Prop) : Prop := ∀ ps x, P x (lookI (T.crash ps) x)
theorem Lv.mono {T : St} {P Q : Nm → Option (List Nat) → Prop} (h : Lv T P) (hpq : ∀ x b, P x b → Q x b) : Lv T Q := fun ps x => hpq _ _ (h ps x)
theorem stl_left {S : St} {k : Nat} (h : Stl S k) {y : Nm} {j : Nat} (hl : lookN S.seen y = some j) (t : Nat) : (S.file j).left t = (S.file j).all := by
  have hu := h.un y
  unfold St.u at hu
  rw [hl] at hu
  simp only at hu
  unfold Fil.left Fil.all
  rw [hu]; simp
theorem stl_safe {S : St} {k : Nat} (h : Stl S k) : S.safe = S.seen := by have := h.inv.fold; rw [h.chg] at this; exact this.symm
theorem v_at {S : St} {y : Nm} {j : Nat} (hl : lookN S.seen y = some j) : S.v y = some (S.file j).all := by simp [St.v, hl]
theorem v_no {S : St} {y : Nm} (hl : lookN S.seen y = none) : S.v y = none := by simp [St.v, hl]
theorem left_zero {T : St} (h : T.chg = []) (ps : List Int) : T.leftN ps = T.safe := by unfold St.leftN; rw [h]; simp
theorem look_nil {S : St} (hv : Inv S) : lookN S.seen [] = none := look_none.2 (fun p hp e => by
  have := (hv.ins p hp).2
  rw [e] at this
  simp [isNm] at this)
/-- Nothing has turned. -/
theorem lv_same {S T : St} {k : Nat} (h : Stl S k) (h1 : T.safe = S.safe) (h2 : T.chg = []) (h3 : T.files = S.files) : Lv T fun y b => b = S.v y := fun ps y => by
  have hf : ∀ j, T.file j = S.file j := fun j => by unfold St.file; rw [h3]
  rcases crash_look T ps y with ⟨e1, e2⟩ | ⟨i, t, e1, e2⟩
  · rw [left_zero h2, h1, stl_safe h] at e1
    show lookI (T.crash ps) y = S.v y
    rw [e2, v_no e1]
  · rw [left_zero h2, h1, stl_safe h] at e1
    show lookI (T.crash ps) y = S.v y
    rw [e2, hf, stl_left h e1, v_at e1]
/-- A file that is there has another form. -/
theorem lv_turn {S T : St} {k : Nat} (h : Stl S k) {x : Nm} {i : Nat} (hx : lookN S.seen x = some i) (f : Fil) (h1 : T.safe = S.safe) (h2 : T.chg = []) (h3 : T.files = S.files.set i f) : Lv T fun y b => if y = x then ∃ t, b = some (f.left t) else b = S.v y := fun ps y => by
  have hi := S.seen_file h.inv hx
  have hf : ∀ j, T.file j = if j = i then f else S.file j := fun j => by
    unfold St.file
    rw [h3, List.getElem?_set]
    by_cases e : i = j
    · rw [if_pos e, if_pos e.symm, if_pos (by omega)]; rfl
    · rw [if_neg e, if_neg (fun h => e h.symm)]
  rcases crash_look T ps y with ⟨e1, e2⟩ | ⟨j, t, e1, e2⟩
  · rw [left_zero h2, h1, stl_safe h] at e1
    have hy : y ≠ x := fun e => by rw [e, hx] at e1; cases e1
    show if y = x then _ else _
    rw [if_neg hy, e2, v_no e1]
  · rw [left_zero h2, h1, stl_safe h] at e1
    show if y = x then _ else _
    by_cases hy : y = x
    · rw [hy, hx] at e1
      cases e1
      rw [if_pos hy]
      exact ⟨t, by rw [e2, hf, if_pos rfl]⟩
    · have hne : j ≠ i := fun e => hy (look_inj h.inv (e ▸ e1) hx)
      rw [if_neg hy, e2, hf, if_neg hne, stl_left h e1, v_at e1]
theorem app_file {S T : St} {f : Fil} (h3 : T.files = S.files ++ [f]) (j : Nat) : T.file j = if j = S.files.length then f else S.file j := by
  have := made_file5 S f j
  have e : T.file j = (S.made f).file j := by unfold St.file St.made; rw [h3]
  rw [e, this]
/-- A new file. -/
theorem lv_made {S T : St} {k : Nat} (h : Stl S k) {x : Nm} (hxn : isNm x = true) (hx : lookN S.seen x = none) (f : Fil) (h1 : T.safe = S.safe) (h2 : T.chg = [⟨[], x, S.files.length⟩]) (h3 : T.files = S.files ++ [f]) : Lv T fun y b => if y = x then b = none ∨ ∃ t, b = some (f.left t) else b = S.v y := fun ps y => by
  have hm : T.leftN ps = S.seen ∨ T.leftN ps = withN S.seen ⟨[], x, S.files.length⟩ := by
    unfold St.leftN
    rw [h1, h2, stl_safe h]
    have this : pickP ps 0 [(⟨[], x, S.files.length⟩ : Chg)].length ≤ 1 := pick_le ps 0 1
    rcases (show pickP ps 0 [(⟨[], x, S.files.length⟩ : Chg)].length = 0 ∨ pickP ps 0 [(⟨[], x, S.files.length⟩ : Chg)].length = 1 by omega) with e | e
    · left; rw [e]; rfl
    · right; rw [e]; rfl
  have hw : ∀ y, lookN (withN S.seen ⟨[], x, S.files.length⟩) y = if y = x then some S.files.length else lookN S.seen y := fun y => by
    rw [look_with S.seen ⟨[], x, S.files.length⟩ (nm_ne5 hxn)]
    by_cases e : y = x
    · rw [if_pos e, if_pos e]
    · rw [if_neg e, if_neg e]
      by_cases e2 : y = []
      · rw [if_pos e2, e2, look_nil h.inv]
      · rw [if_neg e2]
  have key : ∀ y, y ≠ x → lookN (T.leftN ps) y = lookN S.seen y := fun y hy => by
    rcases hm with e | e
    · rw [e]
    · rw [e, hw, if_neg hy]
  show if y = x then _ else _
  by_cases hy : y = x
  · rw [if_pos hy]
    rcases crash_look T ps y with ⟨_, e2⟩ | ⟨j, t, e1, e2⟩
    · exact Or.inl e2
    · right
      have hj : j = S.files.length := by
        rcases hm with e | e
        · rw [e, hy, hx] at e1; cases e1
        · rw [e, hw, if_pos hy] at e1; cases e1; rfl
      exact ⟨t, by rw [e2, app_file h3, if_pos hj]⟩
  · rw [if_neg hy]
    rcases crash_look T ps y with ⟨e1, e2⟩ | ⟨j, t, e1, e2⟩
    · rw [key y hy] at e1
      rw [e2, v_no e1]
    · rw [key y hy] at e1
      have := S.seen_file h.inv e1
      rw [e2, app_file h3, if_neg (by omega), stl_left h e1, v_at e1]
/-- A new file that was made safe, and has got the name of another. -/
theorem lv_ren {S T : St} {k : Nat} (h : Stl S k) {x z : Nm} (hxn : isNm x = true) (hzn : isNm z = true) (hne : z ≠ x) (hz : lookN S.seen z = none) (r : List Nat) (h1 : T.safe = S.safe) (h2 : T.chg = [⟨[], z, S.files.length⟩, ⟨z, x, S.files.length⟩]) (h3 : T.files = S.files ++ [⟨r, []⟩]) : Lv T fun y b => if y = x then b = S.v x ∨ b = some r else if y = z then b = none ∨ b = some r else b = S.v y := fun ps y => by
  have hl : ∀ t, (⟨r, []⟩ : Fil).left t = r := fun t => by unfold Fil.left; simp [carryL]
  have hw : ∀ y, lookN (withN S.seen ⟨[], z, S.files.length⟩) y = if y = z then some S.files.length else lookN S.seen y := fun y => by
    rw [look_with S.seen ⟨[], z, S.files.length⟩ (nm_ne5 hzn)]
    by_cases e : y = z
    · rw [if_pos e, if_pos e]
    · rw [if_neg e, if_neg e]
      by_cases e2 : y = []
      · rw [if_pos e2, e2, look_nil h.inv]
      · rw [if_neg e2]
  have hw2 : ∀ y, lookN (withN (withN S.seen ⟨[], z, S.files.length⟩) ⟨z, x, S.files.length⟩) y = if y = x then some S.files.length else if y = z then none else lookN S.seen y := fun y => by
    rw [look_with _ ⟨z, x, S.files.length⟩ (nm_ne5 hxn)]
    show (if y = x then some S.files.length else if y = z then none else lookN (withN S.seen ⟨[], z, S.files.length⟩) y) = _
    by_cases e : y = x
    · rw [if_pos e, if_pos e]
    · rw [if_neg e, if_neg e]
      by_cases e2 : y = z
      · rw [if_pos e2, if_pos e2]
      · rw [if_neg e2, if_neg e2, hw, if_neg e2]
  have hm : lookN (T.leftN ps) y = lookN S.seen y ∨ (y = z ∧ lookN (T.leftN ps) y = some S.files.length) ∨ (y = x ∧ lookN (T.leftN ps) y = some S.files.length) ∨ (y = z ∧ lookN (T.leftN ps) y = none) := by
    unfold St.leftN
    rw [h1, h2, stl_safe h]
    have this : pickP ps 0 [(⟨[], z, S.files.length⟩ : Chg), ⟨z, x, S.files.length⟩].length ≤ 2 := pick_le ps 0 2
    rcases (show pickP ps 0 [(⟨[], z, S.files.length⟩ : Chg), ⟨z, x, S.files.length⟩].length = 0 ∨ pickP ps 0 [(⟨[], z, S.files.length⟩ : Chg), ⟨z, x, S.files.length⟩].length = 1 ∨ pickP ps 0 [(⟨[], z, S.files.length⟩ : Chg), ⟨z, x, S.files.length⟩].length = 2 by omega) with e | e | e
    · left; rw [e]; rfl
    · rw [e]
      show lookN (withN S.seen ⟨[], z, S.files.length⟩) y = _ ∨ (_ ∧ lookN (withN S.seen ⟨[], z, S.files.length⟩) y = _) ∨ _
      rw [hw]
      by_cases e2 : y = z
      · exact Or.inr (Or.inl ⟨e2, if_pos e2⟩)
      · exact Or.inl (if_neg e2)
    · rw [e]
      show lookN (withN (withN S.seen ⟨[], z, S.files.length⟩) ⟨z, x, S.files.length⟩) y = _ ∨ (_ ∧ lookN (withN (withN S.seen ⟨[], z, S.files.length⟩) ⟨z, x, S.files.length⟩) y = _) ∨ (_ ∧ lookN (withN (withN S.seen ⟨[], z, S.files.length⟩) ⟨z, x, S.files.length⟩) y = _) ∨ (_ ∧ lookN (withN (withN S.seen ⟨[], z, S.files.length⟩) ⟨z, x, S.files.length⟩) y = _)
      rw [hw2]
      by_cases e2 : y = x
      · exact Or.inr (Or.inr (Or.inl ⟨e2, if_pos e2⟩))
      · by_cases e3 : y = z
        · exact Or.inr (Or.inr (Or.inr ⟨e3, by rw [if_neg e2, if_pos e3]⟩))
        · exact Or.inl (by rw [if_neg e2, if_neg e3])
  show if y = x then _ else if y = z then _ else _
  have hold : lookN (T.leftN ps) y = lookN S.seen y → lookI (T.crash ps) y = S.v y := fun e => by
    rcases crash_look T ps y with ⟨e1, e2⟩ | ⟨j, t, e1, e2⟩
    · rw [e] at e1; rw [e2, v_no e1]
    · rw [e] at e1
      have := S.seen_file h.inv e1
      rw [e2, app_file h3, if_neg (by omega), stl_left h e1, v_at e1]
  have hnew : lookN (T.leftN ps) y = some S.files.length → lookI (T.crash ps) y = some r := fun e => by
    rcases crash_look T ps y with ⟨e1, _⟩ | ⟨j, t, e1, e2⟩
    · rw [e] at e1; cases e1
    · rw [e] at e1
      cases e1
      rw [e2, app_file h3, if_pos rfl, hl]
  have hgone : lookN (T.leftN ps) y = none → lookI (T.crash ps) y = none := fun e => by
    rcases crash_look T ps y with ⟨_, e2⟩ | ⟨j, t, e1, _⟩
    · exact e2
    · rw [e] at e1; cases e1
  rcases hm with e | ⟨ey, e⟩ | ⟨ey, e⟩ | ⟨ey, e⟩
  · have e2 := hold e
    by_cases hy : y = x
    · rw [if_pos hy]; left; rw [e2, hy]
    · rw [if_neg hy]
      by_cases hy2 : y = z
      · rw [if_pos hy2]; left; rw [e2, hy2, v_no hz]
      · rw [if_neg hy2]; exact e2
  · rw [if_neg (by rw [ey]; exact hne), if_pos ey]; exact Or.inr (hnew e)
  · rw [if_pos ey]; exact Or.inr (hnew e)
  · rw [if_neg (by rw [ey]; exact hne), if_pos ey]; exact Or.inl (hgone e)
end Go.Proofs.YtlmfohcdaahojaaGreatDoor
namespace Go.Proofs.YtlmfohcdaahojaaGreatDoor
open Go.RowKit Go.Maps

/-! Calls while the power may go off -/
theorem stl_past {S : St} {k : Nat} (h : Stl S k) : Past S := by
  have e : ∀ m, (S.chg.take m).foldl withN S.safe = S.seen := fun m => by rw [h.chg, stl_safe h]; simp
  exact ⟨fun m => by rw [e]; exact h.inv.nod, fun m => by rw [e]; exact h.inv.most⟩
theorem step_next (S : St) (J : Jr) (s : Stk) : Nexts S (s.run S J).2.1 := by
  have hst : Nexts S S.stroked := Or.inl ⟨rfl, Or.inl rfl⟩
  cases s with
  | app x r =>
    show Nexts S (S.appendR x r).2
    unfold St.appendR
    split
    · exact nexts_self S
    split
    · exact nexts_self S
    split
    · exact hst
    split
    · exact Or.inl ⟨rfl, Or.inl rfl⟩
    · exact Or.inl ⟨rfl, Or.inr ⟨_, rfl⟩⟩
  | cut x n =>
    show Nexts S (S.cutR x n).2
    unfold St.cutR
    split
    · exact nexts_self S
    · dsimp only
      split
      · exact nexts_self S
      · exact Or.inl ⟨rfl, Or.inl rfl⟩
  | sync x =>
    show Nexts S (S.syncR x).2
    unfold St.syncR
    split
    · exact nexts_self S
    · dsimp only
      split
      · exact Or.inl ⟨rfl, Or.inl rfl⟩
      · exact hst
  | names =>
    show Nexts S S.namesR.2
    unfold St.namesR
    split
    · exact nexts_self S
    · dsimp only
      split
      · exact Or.inr rfl
      · exact hst
  | ren x y =>
    show Nexts S (S.renameR x y).2
    unfold St.renameR
    split
    · exact nexts_self S
    split
    · exact nexts_self S
    · dsimp only
      split
      · exact hst
      · exact Or.inl ⟨rfl, Or.inr ⟨_, rfl⟩⟩
  | rem x =>
    show Nexts S (S.removeR x).2
    unfold St.removeR
    split
    · exact nexts_self S
    · exact Or.inl ⟨rfl, Or.inr ⟨_, rfl⟩⟩
  | mend => exact nexts_self S
  | drop => exact nexts_self S
/-- Whatever strokes are run: the disk stays one. -/
theorem runs_good : ∀ (l : List Stk) (S : St) (J : Jr) (k : Nat), Inv S → Sz S k → Past S → (∀ s ∈ l, s.fits) → Inv (runs S J l).2.1 ∧ Sz (runs S J l).2.1 (k + 4194305 * l.length) ∧ Past (runs S J l).2.1 ∧ (runs S J l).2.1.room = S.room
  | [], S, J, k, hv, hz, hp, _ => ⟨hv, hz, hp, rfl⟩
  | s :: l, S, J, k, hv, hz, hp, hf => by
    have g := step_good hv hz J s (hf s (by simp))
    have p1 := hp.next g.inv (step_next S J s)
    unfold runs
    split
    · obtain ⟨h1, h2, h3, h4⟩ := runs_good l _ (s.run S J).2.2 (k + 4194305) g.inv g.sz p1 (fun s hs => hf s (List.mem_cons_of_mem _ hs))
      refine ⟨h1, ?_, h3, h4.trans g.room⟩
      rw [List.length_cons, show k + 4194305 * (l.length + 1) = k + 4194305 + 4194305 * l.length by omega]
      exact h2
    · refine ⟨g.inv, g.sz.mono ?_, p1, g.room⟩
      rw [List.length_cons]; omega
/-- The plan. -/
def St.offAt (S : St) (p : Nat) : St := { S with pOff := (p : Int), pFrom := 0, pTo := 0, planned := 0 }
theorem power_at {T : St} {c p : Nat} (h1 : T.planned = c) (h2 : T.pOff = (p : Int)) : T.power = if c + 1 = p then 45 else 0 := by
  unfold St.power
  rw [h1, h2]
  by_cases h : c + 1 = p
  · rw [if_pos h, if_pos (by omega)]
  · rw [if_neg h, if_neg (by omega)]
theorem stroked_at {T : St} {c p : Nat} (h0 : T.off = false) (h1 : T.planned = c) (h2 : T.pOff = (p : Int)) (h : c + 1 ≠ p) : T.stroked.off = false ∧ T.stroked.planned = c + 1 ∧ T.stroked.pOff = (p : Int) := by
  refine ⟨?_, by show T.planned + 1 = c + 1; rw [h1], h2⟩
  show (T.off || decide (((T.planned + 1 : Nat) : Int) = T.pOff)) = false
  rw [h0, h1, h2]
  simp
  omega
theorem sync_at {T : St} (h0 : T.off = false) {x : Nm} (hx : isNm x = true) {i : Nat} (hl : lookN T.seen x = some i) : T.syncR x = (T.power, if T.power = 0 then T.stroked.turn i (T.file i).settled else T.stroked) := by
  have he : T.err x = 0 := by rw [err_view h0 hx, if_neg (by rw [v_at hl]; simp)]
  unfold St.syncR
  rw [if_neg (by omega), hl]
  rfl
theorem names_at {T : St} (h0 : T.off = false) : T.namesR = (T.power, if T.power = 0 then T.stroked.settledN else T.stroked) := by
  unfold St.namesR
  rw [h0]; rfl
theorem ren_at {T : St} (h0 : T.off = false) {x y : Nm} (hx : isNm x = true) (hy : isNm y = true) (hne : x ≠ y) {i : Nat} (hl : lookN T.seen x = some i) : T.renameR x y = (T.power, T.stroked.ren ⟨x, y, i⟩) := by
  have he : T.err x = 0 := by rw [err_view h0 hx, if_neg (by rw [v_at hl]; simp)]
  unfold St.renameR
  rw [if_neg (by rw [hy]; simp), if_neg (by omega), hl]
  dsimp only
  rw [if_neg hne]
  rfl
theorem app_there {T : St} (h0 : T.off = false) {x : Nm} (hx : isNm x = true) {i : Nat} (hl : lookN T.seen x = some i) (r : List Nat) (hf : T.stroked.full r.length = false) : T.appendR x r = (T.power, T.stroked.turn i ((T.file i).add r)) := by
  unfold St.appendR
  rw [h0, if_neg (by simp), if_neg (by rw [hx, hl]; simp), hf, if_neg (by simp), hl]
theorem app_new {T : St} (h0 : T.off = false) {x : Nm} (hx : isNm x = true) (hl : lookN T.seen x = none) (h64 : T.seen.length < 64) (r : List Nat) (hf : T.stroked.full r.length = false) : T.appendR x r = (T.power, ((T.stroked.made ⟨[], []⟩).ren ⟨[], x, T.files.length⟩).turn T.files.length ((⟨[], []⟩ : Fil).add r)) := by
  unfold St.appendR
  rw [h0, if_neg (by simp), if_neg (by rw [hx, hl]; simp; omega), hf, if_neg (by simp), hl]
theorem left_busr (b r : List Nat) (t : Nat) : (⟨b, bus r⟩ : Fil).left t = b ++ r.take t := by
  unfold Fil.left
  have : (bus r).take t = bus (r.take t) := by simp [bus]
  show carryL b ((bus r).take t) = _
  rw [this, carry_bus]
/-- A new file whose name was made safe. -/
theorem lv_named {S T : St} {k : Nat} (h : Stl S k) {x : Nm} (hxn : isNm x = true) (r : List Nat) (h1 : T.safe = withN S.safe ⟨[], x, S.files.length⟩) (h2 : T.chg = []) (h3 : T.files = S.files ++ [⟨r, []⟩]) : Lv T fun y b => b = if y = x then some r else S.v y := fun ps y => by
  have hl : ∀ t, (⟨r, []⟩ : Fil).left t = r := fun t => by unfold Fil.left; simp [carryL]
  have hw : lookN (T.leftN ps) y = if y = x then some S.files.length else lookN S.seen y := by
    rw [left_zero h2, h1, stl_safe h, look_with S.seen ⟨[], x, S.files.length⟩ (nm_ne5 hxn)]
    by_cases e : y = x
    · rw [if_pos e, if_pos e]
    · rw [if_neg e, if_neg e]
      by_cases e2 : y = []
      · rw [if_pos e2, e2, look_nil h.inv]
      · rw [if_neg e2]
  show lookI (T.crash ps) y = if y = x then some r else S.v y
  by_cases hy : y = x
  · rw [if_pos hy] at hw ⊢
    rcases crash_look T ps y with ⟨e1, _⟩ | ⟨j, t, e1, e2⟩
    · rw [hw] at e1; cases e1
    · rw [hw] at e1
      cases e1
      rw [e2, app_file h3, if_pos rfl, hl]
  · rw [if_neg hy] at hw ⊢
    rcases crash_look T ps y with ⟨e1, e2⟩ | ⟨j, t, e1, e2⟩
    · rw [hw] at e1
      rw [e2, v_no e1]
    · rw [hw] at e1
      have := S.seen_file h.inv e1
      rw [e2, app_file h3, if_neg (by omega), stl_left h e1, v_at e1]
/-- .. and that got another's name. -/
theorem lv_rens {S T : St} {k : Nat} (h : Stl S k) {x z : Nm} (hxn : isNm x = true) (hzn : isNm z = true) (_hne : z ≠ x) (hz : lookN S.seen z = none) (r : List Nat) (h1 : T.safe = withN (withN S.safe ⟨[], z, S.files.length⟩) ⟨z, x, S.files.length⟩) (h2 : T.chg = []) (h3 : T.files = S.files ++ [⟨r, []⟩]) : Lv T fun y b => b = if y = x then some r else S.v y := fun ps y => by
  have hl : ∀ t, (⟨r, []⟩ : Fil).left t = r := fun t => by unfold Fil.left; simp [carryL]
  have hw : lookN (T.leftN ps) y = if y = x then some S.files.length else lookN S.seen y := by
    rw [left_zero h2, h1, stl_safe h, look_with _ ⟨z, x, S.files.length⟩ (nm_ne5 hxn)]
    show (if y = x then some S.files.length else if y = z then none else lookN (withN S.seen ⟨[], z, S.files.length⟩) y) = _
    by_cases e : y = x
    · rw [if_pos e, if_pos e]
    · rw [if_neg e, if_neg e]
      by_cases e2 : y = z
      · rw [if_pos e2, e2, hz]
      · rw [if_neg e2, look_with S.seen ⟨[], z, S.files.length⟩ (nm_ne5 hzn)]
        show (if y = z then some S.files.length else if y = [] then none else lookN S.seen y) = _
        rw [if_neg e2]
        by_cases e3 : y = []
        · rw [if_pos e3, e3, look_nil h.inv]
        · rw [if_neg e3]
  show lookI (T.crash ps) y = if y = x then some r else S.v y
  by_cases hy : y = x
  · rw [if_pos hy] at hw ⊢
    rcases crash_look T ps y with ⟨e1, _⟩ | ⟨j, t, e1, e2⟩
    · rw [hw] at e1; cases e1
    · rw [hw] at e1
      cases e1
      rw [e2, app_file h3, if_pos rfl, hl]
  · rw [if_neg hy] at hw ⊢
    rcases crash_look T ps y with ⟨e1, e2⟩ | ⟨j, t, e1, e2⟩
    · rw [hw] at e1
      rw [e2, v_no e1]
    · rw [hw] at e1
      have := S.seen_file h.inv e1
      rw [e2, app_file h3, if_neg (by omega), stl_left h e1, v_at e1]
end Go.Proofs.YtlmfohcdaahojaaGreatDoor
namespace Go.Proofs.YtlmfohcdaahojaaGreatDoor
open Go.RowKit Go.Maps

theorem runs_one (S : St) (J : Jr) (s : Stk) (l : List Stk) : runs S J (s :: l) = if (s.run S J).1 = 0 then runs (s.run S J).2.1 (s.run S J).2.2 l else s.run S J := rfl
/-- What may be left behind an Add of r, whenever the power went off; what is left behind one that was carried out. -/
def PA (S : St) (x : Nm) (r : List Nat) (y : Nm) (b : Option (List Nat)) : Prop := if y = x then b = S.v x ∨ ∃ t, b = some ((S.v x).getD [] ++ r.take t) else b = S.v y
def PN (S : St) (x : Nm) (b0 : List Nat) (y : Nm) (b : Option (List Nat)) : Prop := b = if y = x then some b0 else S.v y
/-- .. and behind a Checkpoint. -/
def PC (S : St) (x z : Nm) (r : List Nat) (y : Nm) (b : Option (List Nat)) : Prop := if y = x then b = S.v x ∨ b = some r else if y = z then b = none ∨ ∃ t, b = some (r.take t) else b = S.v y
theorem add_runs {S : St} {k : Nat} {J : Jr} (hS : Stl S k) (nm1 : isNm J.name = true) (ht : J.torn = false) (hnmd : J.named = true → S.v J.name ≠ none) (h64 : S.seen.length < 64) (r : List Nat) (p : Nat) (hf : (S.offAt p).stroked.full r.length = false) :
    ∃ e T, runs (S.offAt p) J (J.adds r) = (e, T, J) ∧ ((e = 45 ∧ Lv T (PA S J.name r)) ∨ (e = 0 ∧ Lv T (PN S J.name ((S.v J.name).getD [] ++ r)))) := by
  have h0 : (S.offAt p).off = false := hS.on.off
  have hadds : J.adds r = [.app J.name r, .sync J.name] ++ (if J.named then [] else [.names]) := by unfold Jr.adds; rw [ht]; simp
  rw [hadds]
  cases hl : lookN S.seen J.name with
  | some i =>
    have hu := hS.un J.name
    unfold St.u at hu
    rw [hl] at hu
    simp only at hu
    have hfa : (S.file i).all = (S.file i).safe := by unfold Fil.all; rw [hu]; rfl
    have hadd : (S.file i).add r = ⟨(S.file i).safe, bus r⟩ := by unfold Fil.add; rw [hu]; rfl
    have hvx : S.v J.name = some (S.file i).safe := by rw [v_at hl, hfa]
    have hi := S.seen_file hS.inv hl
    have hap := app_there (T := S.offAt p) h0 nm1 hl r hf
    have hpw := power_at (T := S.offAt p) (c := 0) (p := p) rfl rfl
    obtain ⟨T1, hT1⟩ : ∃ T1, (S.offAt p).stroked.turn i (((S.offAt p).file i).add r) = T1 := ⟨_, rfl⟩
    rw [hT1] at hap
    have t1s : T1.safe = S.safe := by rw [← hT1]; rfl
    have t1c : T1.chg = [] := by rw [← hT1]; exact hS.chg
    have t1f : T1.files = S.files.set i ⟨(S.file i).safe, bus r⟩ := by rw [← hT1, ← hadd]; rfl
    have t1e : T1.seen = S.seen := by rw [← hT1]; rfl
    have lvT1 : ∀ T, T.safe = S.safe → T.chg = [] → T.files = S.files.set i ⟨(S.file i).safe, bus r⟩ → Lv T (PA S J.name r) := fun T a1 a2 a3 => (lv_turn hS hl _ a1 a2 a3).mono fun y b hb => by
      unfold PA
      by_cases hy : y = J.name
      · rw [if_pos hy] at hb ⊢
        obtain ⟨t, e⟩ := hb
        exact Or.inr ⟨t, by rw [e, left_busr, hvx]; rfl⟩
      · rw [if_neg hy] at hb ⊢; exact hb
    have lvT2 : ∀ T, T.safe = S.safe → T.chg = [] → T.files = S.files.set i ⟨(S.file i).safe ++ r, []⟩ → Lv T (PN S J.name ((S.v J.name).getD [] ++ r)) := fun T a1 a2 a3 => (lv_turn hS hl _ a1 a2 a3).mono fun y b hb => by
      unfold PN
      by_cases hy : y = J.name
      · rw [if_pos hy] at hb ⊢
        obtain ⟨t, e⟩ := hb
        rw [e, hvx]
        unfold Fil.left
        simp [carryL]
      · rw [if_neg hy] at hb ⊢; exact hb
    have pn_pa : ∀ T, Lv T (PN S J.name ((S.v J.name).getD [] ++ r)) → Lv T (PA S J.name r) := fun T h => h.mono fun y b hb => by
      unfold PN at hb
      unfold PA
      by_cases hy : y = J.name
      · rw [if_pos hy] at hb ⊢; exact Or.inr ⟨r.length, by rw [hb, List.take_length]⟩
      · rw [if_neg hy] at hb ⊢; exact hb
    show ∃ e T, runs (S.offAt p) J (.app J.name r :: .sync J.name :: (if J.named then [] else [.names])) = _ ∧ _
    by_cases hp1 : 0 + 1 = p
    · rw [if_pos hp1] at hpw
      rw [hpw] at hap
      exact ⟨45, T1, by rw [runs_app _ hap]; rfl, Or.inl ⟨rfl, lvT1 T1 t1s t1c t1f⟩⟩
    · rw [if_neg hp1] at hpw
      rw [hpw] at hap
      rw [runs_app _ hap, if_pos rfl]
      obtain ⟨o1, o2, o3⟩ := stroked_at (T := S.offAt p) (c := 0) (p := p) h0 rfl rfl hp1
      have t1o : T1.off = false := by rw [← hT1]; exact o1
      have t1p : T1.planned = 1 := by rw [← hT1]; exact o2
      have t1q : T1.pOff = (p : Int) := by rw [← hT1]; exact o3
      have hf1 : T1.file i = ⟨(S.file i).safe, bus r⟩ := by unfold St.file; rw [t1f, List.getElem?_set, if_pos rfl, if_pos hi]; rfl
      have hsy := sync_at t1o nm1 (i := i) (by rw [t1e]; exact hl)
      have hpw2 := power_at (T := T1) (c := 1) (p := p) t1p t1q
      by_cases hp2 : 1 + 1 = p
      · rw [if_pos hp2] at hpw2
        rw [hpw2] at hsy
        exact ⟨45, T1.stroked, by rw [runs_sync _ hsy]; rfl, Or.inl ⟨rfl, lvT1 _ t1s t1c t1f⟩⟩
      · rw [if_neg hp2] at hpw2
        rw [hpw2, if_pos rfl] at hsy
        rw [runs_sync _ hsy, if_pos rfl]
        have hall : (T1.file i).settled = ⟨(S.file i).safe ++ r, []⟩ := by
          rw [hf1]
          unfold Fil.settled Fil.all
          rw [carry_bus]
        obtain ⟨T2, hT2⟩ : ∃ T2, T1.stroked.turn i (T1.file i).settled = T2 := ⟨_, rfl⟩
        rw [hT2]
        have t2s : T2.safe = S.safe := by rw [← hT2]; exact t1s
        have t2c : T2.chg = [] := by rw [← hT2]; exact t1c
        have t2f : T2.files = S.files.set i ⟨(S.file i).safe ++ r, []⟩ := by
          rw [← hT2, hall]
          show T1.files.set i _ = _
          rw [t1f, List.set_set]
        cases hN : J.named with
        | true => exact ⟨0, T2, by simp [runs], Or.inr ⟨rfl, lvT2 T2 t2s t2c t2f⟩⟩
        | false =>
          obtain ⟨q1, q2, q3⟩ := stroked_at t1o t1p t1q hp2
          have hna := names_at (T := T2) (by rw [← hT2]; exact q1)
          have hpw3 := power_at (T := T2) (c := 2) (p := p) (by rw [← hT2]; exact q2) (by rw [← hT2]; exact q3)
          show ∃ e T, runs T2 J [.names] = _ ∧ _
          by_cases hp3 : 2 + 1 = p
          · rw [if_pos hp3] at hpw3
            rw [hpw3] at hna
            exact ⟨45, T2.stroked, by rw [runs_names _ hna]; rfl, Or.inl ⟨rfl, pn_pa _ (lvT2 _ t2s t2c t2f)⟩⟩
          · rw [if_neg hp3] at hpw3
            rw [hpw3, if_pos rfl] at hna
            exact ⟨0, T2.stroked.settledN, by rw [runs_names _ hna]; rfl, Or.inr ⟨rfl, lvT2 _ (by show T2.stroked.chg.foldl withN T2.stroked.safe = _; rw [show T2.stroked.chg = [] from t2c]; exact t2s) rfl t2f⟩⟩
  | none =>
    have hvx : S.v J.name = none := v_no hl
    have hN : J.named = false := by
      cases h : J.named with
      | false => rfl
      | true => exact absurd hvx (hnmd h)
    have hap := app_new (T := S.offAt p) h0 nm1 hl h64 r hf
    have hpw := power_at (T := S.offAt p) (c := 0) (p := p) rfl rfl
    obtain ⟨T1, hT1⟩ : ∃ T1, (((S.offAt p).stroked.made ⟨[], []⟩).ren ⟨[], J.name, (S.offAt p).files.length⟩).turn (S.offAt p).files.length ((⟨[], []⟩ : Fil).add r) = T1 := ⟨_, rfl⟩
    rw [hT1] at hap
    have t1s : T1.safe = S.safe := by rw [← hT1]; rfl
    have t1c : T1.chg = [⟨[], J.name, S.files.length⟩] := by rw [← hT1]; show S.chg ++ _ = _; rw [hS.chg]; rfl
    have t1f : T1.files = S.files ++ [⟨[], bus r⟩] := by
      rw [← hT1]
      show (S.files ++ [(⟨[], []⟩ : Fil)]).set S.files.length _ = _
      rw [List.set_append_right _ _ (Nat.le_refl _)]
      simp [Fil.add]
    have t1e : lookN T1.seen J.name = some S.files.length := by
      rw [← hT1]
      show lookN (withN S.seen ⟨[], J.name, S.files.length⟩) J.name = _
      rw [look_with S.seen _ (nm_ne5 nm1), if_pos rfl]
    have lvT1 : ∀ T, T.safe = S.safe → T.chg = [⟨[], J.name, S.files.length⟩] → T.files = S.files ++ [⟨[], bus r⟩] → Lv T (PA S J.name r) := fun T a1 a2 a3 => (lv_made hS nm1 hl _ a1 a2 a3).mono fun y b hb => by
      unfold PA
      by_cases hy : y = J.name
      · rw [if_pos hy] at hb ⊢
        rcases hb with e | ⟨t, e⟩
        · exact Or.inl (by rw [e, hvx])
        · exact Or.inr ⟨t, by rw [e, left_busr, hvx]; rfl⟩
      · rw [if_neg hy] at hb ⊢; exact hb
    have lvT2 : ∀ T, T.safe = S.safe → T.chg = [⟨[], J.name, S.files.length⟩] → T.files = S.files ++ [⟨r, []⟩] → Lv T (PA S J.name r) := fun T a1 a2 a3 => (lv_made hS nm1 hl _ a1 a2 a3).mono fun y b hb => by
      unfold PA
      by_cases hy : y = J.name
      · rw [if_pos hy] at hb ⊢
        rcases hb with e | ⟨t, e⟩
        · exact Or.inl (by rw [e, hvx])
        · refine Or.inr ⟨r.length, ?_⟩
          rw [e, hvx, List.take_length]
          unfold Fil.left
          simp [carryL]
      · rw [if_neg hy] at hb ⊢; exact hb
    rw [hN]
    show ∃ e T, runs (S.offAt p) J (.app J.name r :: .sync J.name :: [.names]) = _ ∧ _
    by_cases hp1 : 0 + 1 = p
    · rw [if_pos hp1] at hpw
      rw [hpw] at hap
      exact ⟨45, T1, by rw [runs_app _ hap]; rfl, Or.inl ⟨rfl, lvT1 T1 t1s t1c t1f⟩⟩
    · rw [if_neg hp1] at hpw
      rw [hpw] at hap
      rw [runs_app _ hap, if_pos rfl]
      obtain ⟨o1, o2, o3⟩ := stroked_at (T := S.offAt p) (c := 0) (p := p) h0 rfl rfl hp1
      have t1o : T1.off = false := by rw [← hT1]; exact o1
      have t1p : T1.planned = 1 := by rw [← hT1]; exact o2
      have t1q : T1.pOff = (p : Int) := by rw [← hT1]; exact o3
      have hf1 : T1.file S.files.length = ⟨[], bus r⟩ := by rw [app_file t1f, if_pos rfl]
      have hsy := sync_at t1o nm1 t1e
      have hpw2 := power_at (T := T1) (c := 1) (p := p) t1p t1q
      by_cases hp2 : 1 + 1 = p
      · rw [if_pos hp2] at hpw2
        rw [hpw2] at hsy
        exact ⟨45, T1.stroked, by rw [runs_sync _ hsy]; rfl, Or.inl ⟨rfl, lvT1 _ t1s t1c t1f⟩⟩
      · rw [if_neg hp2] at hpw2
        rw [hpw2, if_pos rfl] at hsy
        rw [runs_sync _ hsy, if_pos rfl]
        have hall : (T1.file S.files.length).settled = ⟨r, []⟩ := by
          rw [hf1]
          unfold Fil.settled Fil.all
          rw [carry_bus]; rfl
        obtain ⟨T2, hT2⟩ : ∃ T2, T1.stroked.turn S.files.length (T1.file S.files.length).settled = T2 := ⟨_, rfl⟩
        rw [hT2]
        have t2s : T2.safe = S.safe := by rw [← hT2]; exact t1s
        have t2c : T2.chg = [⟨[], J.name, S.files.length⟩] := by rw [← hT2]; exact t1c
        have t2f : T2.files = S.files ++ [⟨r, []⟩] := by
          rw [← hT2, hall]
          show T1.files.set _ _ = _
          rw [t1f, List.set_append_right _ _ (Nat.le_refl _)]
          simp
        obtain ⟨q1, q2, q3⟩ := stroked_at t1o t1p t1q hp2
        have hna := names_at (T := T2) (by rw [← hT2]; exact q1)
        have hpw3 := power_at (T := T2) (c := 2) (p := p) (by rw [← hT2]; exact q2) (by rw [← hT2]; exact q3)
        by_cases hp3 : 2 + 1 = p
        · rw [if_pos hp3] at hpw3
          rw [hpw3] at hna
          exact ⟨45, T2.stroked, by rw [runs_names _ hna]; rfl, Or.inl ⟨rfl, lvT2 _ t2s t2c t2f⟩⟩
        · rw [if_neg hp3] at hpw3
          rw [hpw3, if_pos rfl] at hna
          refine ⟨0, T2.stroked.settledN, by rw [runs_names _ hna]; rfl, Or.inr ⟨rfl, (lv_named hS nm1 r (T := T2.stroked.settledN) (by show T2.stroked.chg.foldl withN T2.stroked.safe = _; rw [show T2.stroked.chg = _ from t2c, show T2.stroked.safe = _ from t2s]; rfl) rfl t2f).mono fun y b hb => ?_⟩⟩
          unfold PN
          rw [hb, hvx]
          rfl
end Go.Proofs.YtlmfohcdaahojaaGreatDoor
