import Derived.Test.YtlnldipiofddkabPlace
namespace Go.Proofs.Ytlnldipiofddkab
open Go.RowKit

theorem Try.elemBy : Try.prog.elem 22 = 5 := by kernel_rfl

set_option maxRecDepth 100000 in
set_option maxHeartbeats 400000 in
theorem head_any (w : World) (sp : Option Addr) (m cap : Nat) (xs : List Nat) (hm : xs.length = m) (hmc : m ≤ cap) (hcap : cap ≤ 140737488351232) (hx : Bytes w sp xs) :
    Calls Try.prog 5 #[.slice sp m cap] w fun e w' => e = .returned (.slice sp (xs.take 4194304).length cap) ∧ w' = w := by
  have HM := hide hm
  by_cases h : 4194304 < m
  · obtain ⟨g, o, rfl⟩ : ∃ g o, sp = some ⟨g, o, none⟩ := by
      rcases hx.lie with h' | ⟨g, o, e, _⟩
      · subst h'; simp at hm; omega
      · exact ⟨g, o, e⟩
    clear hx hm
    have HL : Hid ((xs.take 4194304).length = 4194304) := by show _ = _; rw [List.length_take, HM.out, Nat.min_eq_left (by omega)]
    rw [HL.out]
    have l1 : (4194304 : Int) < (m : Int) := by omega
    have l2 : (4194304 : Int) ≤ (cap : Int) := by omega
    have l3 : ¬ cap = 0 := by omega
    go_enter Try.func5, Try.ntmps5
    go_wp2
    go_ret
    exact ⟨rfl, rfl⟩
  · clear hx hm
    have HL : Hid ((xs.take 4194304).length = m) := by show _ = _; rw [List.length_take, HM.out, Nat.min_eq_right (by omega)]
    rw [HL.out]
    have l1 : ¬ (4194304 : Int) < (m : Int) := by omega
    go_enter Try.func5, Try.ntmps5
    go_wp2
    go_ret
    exact ⟨rfl, rfl⟩

/-- IN ONE PLACE: the list, the other bytes, the Writer, the script's block. -/
structure PL (w wm : World) (N g c1 bw : Nat) (C : Array Value) (so : Option Addr) (cur ys : List Nat) (v : Value) (T : List Nat) : Prop where
  below : Below N w wm
  box : wm.heap[N]? = some (.cells C 26 (0, 0))
  own : Own N wm g c1 (cur ++ marks)
  oth : Bytes wm so ys
  wr : Wr wm bw v T
  gN : N < g
  bN : N < bw
  vN : ∀ k, v.ownBlock = some k → N < k ∧ k ≠ g
  sN : ∀ p, so = some p → N < p.block ∧ p.block < wm.heap.size ∧ p.block ≠ g ∧ p.block ≠ bw ∧ v.ownBlock ≠ some p.block

section
variable {w wm w' : World} {N g c1 bw : Nat} {C : Array Value} {so : Option Addr} {cur ys : List Nat} {v : Value} {T : List Nat}
theorem PL.on (p : PL w wm N g c1 bw C so cur ys v T) (k : Below wm.heap.size wm w') : PL w w' N g c1 bw C so cur ys v T := by
  have hg := p.own.lt
  have hN := p.gN
  exact ⟨p.below.trans (k.mono (by omega)), (k.block _ (by omega)).trans p.box, p.own.kept (k.block g hg), p.oth.below k, p.wr.below k, p.gN, p.bN, p.vN, fun q e => by have := k.size; obtain ⟨s1, s2, s3, s4, s5⟩ := p.sN q e; exact ⟨s1, by omega, s3, s4, s5⟩⟩
theorem PL.into (p : PL w wm N g c1 bw C so cur ys v T) {cur' : List Nat} (k : But g wm w') (ho : Own N w' g c1 (cur' ++ marks)) : PL w w' N g c1 bw C so cur' ys v T := by
  have hg := p.own.lt
  have hN := p.gN
  have hb := p.wr.lt
  have hs := k.size
  have hne : bw ≠ g := fun e => p.own.ne p.wr.blk (by decide) e.symm
  exact ⟨k.below p.below (by omega) (by omega), (k.block _ (by omega) (by omega)).trans p.box, ho, bytes_block p.oth (fun q e => k.block _ (p.sN q e).2.1 (p.sN q e).2.2.1) hs, p.wr.kept (k.block _ hb hne) (fun j e => k.block j (p.wr.rowLt j e) (p.vN j e).2), p.gN, p.bN, p.vN, fun q e => by obtain ⟨s1, s2, s3, s4, s5⟩ := p.sN q e; exact ⟨s1, by omega, s3, s4, s5⟩⟩
theorem PL.laid (p : PL w wm N g c1 bw C so cur ys v T) {new : List Nat} (l : Laid wm w' bw v T new) : ∃ v', PL w w' N g c1 bw C so cur ys v' (T ++ new) := by
  obtain ⟨v', hw, hat, k⟩ := l
  have hg := p.own.lt
  have hN := p.gN
  have hb := p.wr.lt
  have hs := k.size
  have hne : g ≠ bw := p.own.ne p.wr.blk (by decide)
  have hbN := p.bN
  refine ⟨v', ⟨k.below p.below (by omega) (by omega) (fun j e => by have := p.vN j e; omega), ?_, p.own.kept (k.block g hg hne (fun e => (p.vN g e.symm).2 rfl)), bytes_block p.oth (fun q e => k.block _ (p.sN q e).2.1 (p.sN q e).2.2.2.1 (fun e' => (p.sN q e).2.2.2.2 e'.symm)) hs, hw, p.gN, p.bN, ?_, ?_⟩⟩
  · rw [k.block N (by omega) (by omega) (fun e => by have := p.vN N e.symm; omega)]; exact p.box
  · intro j e
    rcases hat with e' | ⟨i, e', hi⟩
    · exact p.vN j (by rw [← e', e])
    · rw [e'] at e; cases e; omega
  · intro q e
    obtain ⟨s1, s2, s3, s4, s5⟩ := p.sN q e
    refine ⟨s1, by omega, s3, s4, fun e2 => ?_⟩
    rcases hat with e' | ⟨i, e', hi⟩
    · exact s5 (by rw [← e', e2])
    · rw [e'] at e2; cases e2; omega
end

theorem box3 {w : World} {b : Nat} {x0 x1 x2 : Value} {t : TypeId} (h : w.heap[b]? = some (.cells #[x0, x1, x2] t (0, 0))) : w.cell? ⟨b, 0, none⟩ = some x0 ∧ w.cell? ⟨b, 1, none⟩ = some x1 ∧ w.cell? ⟨b, 2, none⟩ = some x2 ∧ (∀ o, w.frozen? ⟨b, o, none⟩ = false) :=
  ⟨by simp [World.cell?, h], by simp [World.cell?, h], by simp [World.cell?, h], fun o => by simp [World.frozen?, h]⟩

theorem PL.past {w wm w' : World} {N g c1 bw : Nat} {C : Array Value} {so : Option Addr} {cur ys : List Nat} {v : Value} {T : List Nat} {b n m : Nat} {s : Option Addr} {x1 x3 : Int} (p : PL w wm N g c1 bw C so cur ys v T) (k : But b wm w') (hb : wm.heap[b]? = some (.cells #[.slice s n m, .int .i64 x1, .int .i64 x3] 66 (0, 0))) (hN : N ≤ b) : Wr w' bw v T ∧ Bytes w' so ys ∧ Below N w w' := by
  have hg := p.own.lt
  have hgN := p.gN
  refine ⟨p.wr.kept (k.block bw p.wr.lt (fun e => ?_)) (fun j e => k.block j (p.wr.rowLt j e) (fun e' => owns_ne p.wr.own hb (by decide) (by rw [e, e']))), p.oth.kept b (fun i hi hl => k.block i hl hi) k.size (fun _ _ _ => not_bytes' hb), k.below p.below hN (by omega)⟩
  have := p.wr.blk
  rw [e, hb] at this
  simp at this

theorem raw_all (xs : List Nat) : got xs 0 (rRaw (xs.length : Int) xs 0 0) = xs ∧ (rRaw (xs.length : Int) xs 0 0).2 = (xs.length, 0) := by
  have e : rRaw (xs.length : Int) xs 0 0 = (⟨0, 0, xs.length, xs.length, 0⟩, 0 + xs.length, 0) := by
    rw [rRaw, if_neg (by omega), Int.toNat_natCast]
    simp [rNext, pFind, pRaw]
  rw [e]
  simp [got]

set_option maxRecDepth 100000 in
set_option maxHeartbeats 4000000 in
theorem place_walk (w : World) (p0 p1 po : Option Addr) (l0 c0 l1 c1 lo co : Nat) (x0 : List Nat) (ops : List Op1) (hl0 : x0.length = l0) (hlc : l0 ≤ c0) (hm0 : c0 ≤ 140737488351232) (hx0 : Bytes w p0 x0) (hlo : ops.length = lo) (hO : OpsIn w po ops) :
    Calls Try.prog 3 #[.agg #[.slice p0 l0 c0, .slice p1 l1 c1, .slice po lo co]] w fun e w' => e = .returned (.bool true) ∧ Below w.heap.size w w' := by
  have HA : Hid (Below w.heap.size w (w.alloc (.cells #[.slice p0 l0 c0, .slice p1 l1 c1, .slice po lo co] 26))) := (Below.refl _ _).alloc (Nat.le_refl _) _
  have HBx : Hid ((w.alloc (.cells #[.slice p0 l0 c0, .slice p1 l1 c1, .slice po lo co] 26)).heap[w.heap.size]? = some (.cells #[.slice p0 l0 c0, .slice p1 l1 c1, .slice po lo co] 26 (0, 0))) := heap_alloc_new _ _
  have HC0 := hide (head_any _ p0 l0 c0 x0 hl0 hlc hm0 (hx0.below HA.out))
  have HLo := hide hlo
  have HOp := hide hO.s
  obtain ⟨xs, hxs⟩ : ∃ xs, xs = x0.take 4194304 := ⟨_, rfl⟩
  have HXw : Hid (Bytes w p0 xs) := by rw [hxs]; exact hx0.take _
  obtain ⟨m, hm⟩ : ∃ m, xs.length = m := ⟨_, rfl⟩
  have hml : m ≤ 4194304 := by rw [← hm, hxs, List.length_take]; omega
  rw [← hxs, hm] at HC0
  have HM := hide hm
  have HPn : Hid (xs ≠ [] → ∀ a, p0 = some a → a.block < w.heap.size) := fun hne a e => by
    rcases HXw.out.lie with h | ⟨g, o, e', hg, _⟩
    · exact absurd h hne
    · rw [e'] at e; cases e; exact hg
  clear hl0 hx0 hlo hO hm hxs
  have HN0 : Hid ((w.alloc (.cells #[.slice p0 l0 c0, .slice p1 l1 c1, .slice po lo co] 26)).heap.size = w.heap.size + 1) := by show _ = _; simp
  go_enter Try.func3, Try.ntmps3
  go_wp2_with fail
  refine HC0.out.mono ?_
  rintro e wa ⟨rfl, rfl⟩
  generalize w.alloc (.cells #[.slice p0 l0 c0, .slice p1 l1 c1, .slice po lo co] 26) = w0 at *
  clear HC0
  go_wp2_with fail
  refine (lend_any w0 p0 m c0 xs HM.out (HXw.out.below HA.out) (by omega)).mono ?_
  rintro e w1 ⟨g, k1, rfl, ho1, hb1⟩
  have HO1 := hide ho1
  have HB1 : Hid (Below w.heap.size w w1) := HA.out.trans (hb1.mono HA.out.size)
  have HX1 := hide ((hb1.block w.heap.size (by rw [HN0.out]; omega)).trans HBx.out)
  have HG1 : Hid (w.heap.size < g ∧ g < w1.heap.size) := ⟨by have := ho1.base; rw [HN0.out] at this; omega, ho1.lt⟩
  clear ho1 hb1
  go_wp2_with fail
  refine (other_any w1 p0 m c0 xs HM.out (HXw.out.below HB1.out) (by omega)).mono ?_
  rintro e w2 ⟨so, ko, ys, rfl, hyl, hby, hfar, hb2⟩
  have HYl := hide hyl
  have HY2 := hide hby
  have HFar := hide hfar
  have HO2 := hide ((HO1.out.mono HA.out.size).kept (hb2.block g HG1.out.2))
  have HB2 : Hid (Below w.heap.size w w2) := HB1.out.trans (hb2.mono HB1.out.size)
  have HX2 := hide ((hb2.block _ (lt_of_block HX1.out)).trans HX1.out)
  have HS2 := hide hb2.size
  clear hyl hby hfar hb2 HO1 HB1 HX1 HN0 HBx HA
  go_wp2_with fail
  refine (new_any w2).mono ?_
  rintro e w3 ⟨rfl, rfl⟩
  have HP3 : Hid (PL w (w2.alloc (.cells #[.slice none 0 0] 53)) w.heap.size g k1 w2.heap.size #[.slice p0 l0 c0, .slice p1 l1 c1, .slice po lo co] so xs ys (.slice none 0 0) []) := by
    have hbl : Below w2.heap.size w2 (w2.alloc (.cells #[.slice none 0 0] 53)) := (Below.refl _ _).alloc (Nat.le_refl _) _
    have h1 := HG1.out
    have h2 := HS2.out
    refine ⟨HB2.out.trans (hbl.mono HB2.out.size), (hbl.block _ (lt_of_block HX2.out)).trans HX2.out, HO2.out.kept (hbl.block g HO2.out.lt), HY2.out.below hbl, new_wr w2, h1.1, by omega, fun k e => by simp [Value.ownBlock] at e, fun q e => ?_⟩
    obtain ⟨f1, f2⟩ := HFar.out q e
    have h3 := hbl.size
    exact ⟨by omega, by omega, by omega, by omega, by simp [Value.ownBlock]⟩
  generalize w2.alloc (.cells #[.slice none 0 0] 53) = w3 at *
  generalize w2.heap.size = bw at *
  clear HY2 HFar HO2 HB2 HX2 HS2 HG1
  obtain ⟨x0', x1', x2', xf⟩ := box3 HP3.out.box
  go_wp2_with fail
  refine (doc_read _ w3 (some ⟨g, 0, none⟩) p0 po m k1 c0 lo co xs ops HM.out (by omega) HP3.out.own.front (HXw.out.below HP3.out.below) HLo.out (HOp.out.kept (fun k hk _ => HP3.out.below.block k hk) HP3.out.below.size)).mono ?_
  rintro e w4 ⟨rfl, hb4⟩
  have HP4 := hide (HP3.out.on hb4)
  clear hb4 HP3 x0' x1' x2' xf
  go_wp2_with fail
  refine (wbytes_any w4 bw _ [] _ m k1 xs HP4.out.wr HM.out HP4.out.own.front (by simp; omega) (fun g' o' e _ => by cases e; exact ⟨HP4.out.own.ne HP4.out.wr.blk (by decide), by simp [Value.ownBlock]⟩)).mono ?_
  rintro e w5 ⟨rfl, hl5⟩
  obtain ⟨v5, hp5⟩ := HP4.out.laid hl5
  rw [List.nil_append] at hp5
  have HP5 := hide hp5
  clear hl5 hp5 HP4
  go_wp2_with fail
  refine (read_any w5 _ m k1 xs HM.out (by omega) HP5.out.own.front).mono ?_
  rintro e w6 ⟨rfl, hr6, hb6⟩
  have HP6 := hide (HP5.out.on hb6)
  have HR6 := hide hr6
  have HH6 : Hid (w5.heap.size < w6.heap.size ∧ w.heap.size ≤ w5.heap.size + 1) := ⟨by have := hr6.lt; omega, by have := HP5.out.below.size; omega⟩
  have HF6 : Hid (g ≠ w5.heap.size + 1 ∧ g ≠ w5.heap.size ∧ bw ≠ w5.heap.size + 1 ∧ bw ≠ w5.heap.size ∧ ∀ k, v5.ownBlock = some k → k ≠ w5.heap.size + 1 ∧ k ≠ w5.heap.size) := by
    have h1 := HP5.out.own.lt
    have h2 := HP5.out.wr.lt
    exact ⟨by omega, by omega, by omega, by omega, fun k e => by have := HP5.out.wr.rowLt k e; omega⟩
  clear hr6 hb6 HP5
  generalize w5.heap.size + 1 = bf at *
  generalize w5.heap.size = hf at *
  go_wp2_with fail
  refine (intob_any w6 _ g k1 m so ko xs ys marks HM.out HYl.out HP6.out.own (fun _ a e => (HP6.out.sN a e).2.2.1) HP6.out.oth (by omega)).mono ?_
  rintro e w7 ⟨rfl, ho7, hb7⟩
  have HP7 := hide (HP6.out.into hb7 ho7)
  have HH7 : Hid (hf < w7.heap.size) := Nat.lt_of_lt_of_le HH6.out.1 hb7.size
  have HR7 := hide (HR6.out.blocks (hb7.block bf HR6.out.lt HF6.out.1.symm) (hb7.block hf HH6.out.1 HF6.out.2.1.symm) hb7.size)
  clear ho7 hb7 HP6 HR6
  obtain ⟨x0', x1', x2', xf⟩ := box3 HP7.out.box
  go_wp2_with fail
  refine (doc_read _ w7 (some ⟨g, 0, none⟩) so po m k1 ko lo co ys ops HYl.out (by omega) HP7.out.own.front HP7.out.oth HLo.out (HOp.out.kept (fun k hk _ => HP7.out.below.block k hk) HP7.out.below.size)).mono ?_
  rintro e w8 ⟨rfl, hb8⟩
  have HP8 := hide (HP7.out.on hb8)
  have HR8 := hide (HR7.out.below hb8)
  have HH8 : Hid (hf < w8.heap.size) := Nat.lt_of_lt_of_le HH7.out hb8.size
  clear hb8 HP7 HR7 HH7 x0' x1' x2' xf
  have hvs := vs_bounds m (by omega)
  have HTl : Hid ((varOf m (vs m - 1) ++ xs).length = vs m + m) := by show _ = _; rw [List.length_append, varOf_length, HM.out]; omega
  have HTs : Hid (∀ x ∈ varOf m (vs m - 1) ++ xs, x < 256) := HP8.out.wr.small
  have HCt := hide (fun w hw => ref_text w p0 m c0 xs HM.out hw (by omega))
  generalize varOf m (vs m - 1) ++ xs = T at *
  generalize vs m = s at *
  go_wp2_with fail
  refine (wraw_any w8 bw v5 T _ m k1 ys HP8.out.wr HYl.out HP8.out.own.front (by rw [HTl.out]; omega)).mono ?_
  rintro e w9 ⟨rfl, hl9⟩
  have HR9 : Hid (Rd w9 bf hf xs 0 0) := by
    obtain ⟨_, _, _, hw9⟩ := hl9
    obtain ⟨f1, f2, f3, f4, f5⟩ := HF6.out
    exact HR8.out.blocks (hw9.block bf HR8.out.lt f3.symm (fun e => (f5 bf e.symm).1 rfl)) (hw9.block hf HH8.out f4.symm (fun e => (f5 hf e.symm).2 rfl)) hw9.size
  have HH9 : Hid (hf < w9.heap.size) := by
    obtain ⟨_, _, _, hw9⟩ := hl9
    exact Nat.lt_of_lt_of_le HH8.out hw9.size
  obtain ⟨v9, hp9⟩ := HP8.out.laid hl9
  have HP9 := hide hp9
  clear hl9 hp9 HP8 HR8 HH8
  go_wp2_with fail
  refine (intob_any w9 _ g k1 m p0 c0 ys xs marks HYl.out HM.out HP9.out.own (fun hne a e => by have := HPn.out hne a e; have := HP9.out.gN; omega) (HXw.out.below HP9.out.below) (by omega)).mono ?_
  rintro e w10 ⟨rfl, ho10, hb10⟩
  have HP10 := hide (HP9.out.into hb10 ho10)
  have HR10 := hide (HR9.out.blocks (hb10.block bf HR9.out.lt HF6.out.1.symm) (hb10.block hf HH9.out HF6.out.2.1.symm) hb10.size)
  clear ho10 hb10 HP9 HR9 HH9
  obtain ⟨x0', x1', x2', xf⟩ := box3 HP10.out.box
  go_wp2_with fail
  refine (doc_read _ w10 (some ⟨g, 0, none⟩) p0 po m k1 c0 lo co xs ops HM.out (by omega) HP10.out.own.front (HXw.out.below HP10.out.below) HLo.out (HOp.out.kept (fun k hk _ => HP10.out.below.block k hk) HP10.out.below.size)).mono ?_
  rintro e w11 ⟨rfl, hb11⟩
  have HP11 := hide (HP10.out.on hb11)
  have HR11 := hide (HR10.out.below hb11)
  clear hb11 HP10 HR10 x0' x1' x2' xf
  have HC12 : Hid (Calls Try.prog 15 #[.pointer (some ⟨bf, 0, none⟩), .int .i64 m] w11 fun e w' => TookBytes w11 w' bf hf xs xs m 0 e) := by
    have C := raw_read w11 bf hf xs 0 0 (xs.length : Int) (by rw [HM.out]; omega) HR11.out
    rw [(raw_all xs).1, (raw_all xs).2, HM.out] at C
    exact C
  go_wp2_with fail
  refine HC12.out.mono ?_
  rintro e w12 ⟨s12, rfl, hm12, _, hr12, hb12⟩
  obtain ⟨hw12, hs12, hbl12⟩ := HP11.out.past hb12 HR11.out.blk HH6.out.2
  have HM12 := hide (hm12.bytes HXw.out.small)
  have HW12 := hide hw12
  have HS12 := hide hs12
  have HB12 := hide hbl12
  clear hm12 hr12 hb12 hw12 hs12 hbl12 HC12 HR11 HP11 HF6 HH6
  rw [HM.out]
  go_wp2_with fail
  refine (eq_true w12 s12 p0 m m c0 xs HM.out (by omega) HM12.out (HXw.out.below HB12.out)).mono ?_
  rintro e w13 ⟨rfl, hb13⟩
  have HW13 := hide (HW12.out.below hb13)
  have HS13 := hide (HS12.out.below hb13)
  have HB13 : Hid (Below w.heap.size w w13) := HB12.out.trans (hb13.mono HB12.out.size)
  clear hb13 HW12 HS12 HB12 HM12
  have HL9 : Hid ((T ++ ys).length = s + m + m) := by show _ = _; rw [List.length_append, HTl.out, HYl.out]
  have HSm9 := hide HW13.out.small
  go_wp2_with fail
  refine (out_any w13 bw v9 (T ++ ys) HW13.out (by rw [HL9.out]; omega)).mono ?_
  rintro e w14 ⟨rfl, rfl⟩
  rw [HL9.out]
  have HO14 := hide (made_bytes w13 (T ++ ys) HSm9.out)
  have HBl14 : Hid (Below w13.heap.size w13 (w13.alloc (.cells (vals (T ++ ys)).toArray 5))) := (Below.refl _ _).alloc (Nat.le_refl _) _
  have HS14 := hide (HS13.out.below HBl14.out)
  have HB14 : Hid (Below w.heap.size w (w13.alloc (.cells (vals (T ++ ys)).toArray 5))) := HB13.out.trans (HBl14.out.mono HB13.out.size)
  generalize w13.alloc (.cells (vals (T ++ ys)).toArray 5) = w14 at *
  generalize w13.heap.size = go at *
  clear HBl14 HS13 HB13 HW13
  go_wp2_with fail
  refine (HCt.out w14 (HXw.out.below HB14.out)).mono ?_
  rintro e w15 ⟨g15, k15, rfl, hown15, hb15⟩
  have HO15 := hide hown15
  have HB15 := hide hb15
  have HS15 := hide (HS14.out.below hb15)
  clear hown15 hb15 HCt HS14
  go_wp2_with (at_builtin; refine wpList_append_bytes rfl (.tmp 69) (.tmp 70) rfl w14.heap.size g15 (s + m) k15 (vals T) rfl HO15.out so m ko ys rfl HYl.out HS15.out (by omega) HB15.out.size ?_; intro g16 k16 w16 hown16 hgrow16 hat16)
  have HB16 : Hid (Below w14.heap.size w14 w16) := HB15.out.grown hgrow16 HB15.out.size (fun k e => by cases e; exact (owns_le HO15.out).2.1)
  rw [← vals_app] at hown16
  have HO16 := hide (owns_bytes hown16 HSm9.out)
  clear hown16 hgrow16 hat16
  go_wp2_with fail
  refine (eq_true w16 _ _ (s + m + m) (s + m + m) k16 (T ++ ys) HL9.out (by omega) (HO14.out.below HB16.out) HO16.out).mono ?_
  rintro e w17 ⟨rfl, hb17⟩
  have HB17 : Hid (Below w.heap.size w w17) := (HB14.out.trans (HB16.out.mono HB14.out.size)).trans (hb17.mono (Nat.le_trans HB14.out.size HB16.out.size))
  clear hb17
  go_wp2
  go_ret
  exact ⟨rfl, HB17.out⟩

end Go.Proofs.Ytlnldipiofddkab
