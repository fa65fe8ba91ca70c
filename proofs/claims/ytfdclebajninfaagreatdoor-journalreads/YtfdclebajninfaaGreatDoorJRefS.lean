import Derived.Test.YtfdclebajninfaaGreatDoorJRefP
import Derived.Test.YtfdclebajninfaaGreatDoorCEye5
import Derived.Test.YtfdclebajninfaaGreatDoorCRefSum
namespace Go.Proofs.YtfdclebajninfaaGreatDoor.C
open Go.RowKit

theorem owns_bs {w : World} {B n k : Nat} {t : TypeId} {v : Value} {ys : List Value} (h : w.ownsRow B t 1 v n ys) (e : v.ownBlock = some k) : B ≤ k := by
  rcases h.2 with ⟨h1, _⟩ | ⟨g, cap, cur, h1, h2, hg, h3, _⟩
  · rw [h1] at e; simp [Value.ownBlock] at e
  · rw [h1] at e; simp [Value.ownBlock] at e; omega
/-- 'append(l, b...)', l any row of the call's own, none too, b any bytes. -/
theorem wpList_append_row {w : World} {ops : Array Oper} {rest : List Oper} {o : Oper} {a : Act} {Q : Exit → Act → World → Prop} (hgd : o.guard = none) (s x : Operand)
    (ho : o.op = .call { callee := .builtin .append, args := #[s, x], argTypes := #[22, 22] }) (B : Nat) (s0 : Option Addr) (n c0 : Nat) (ys : List Value)
    (hs : a.eval s = .slice s0 n c0) (hown : w.ownsRow B 5 1 (.slice s0 n c0) n ys) (sp : Option Addr) (m c : Nat) (xs : List Nat) (hx : a.eval x = .slice sp m c) (hm : xs.length = m) (hb : Bytes w sp xs)
    (h63 : n + m ≤ 140737488355328) (hB : B ≤ w.heap.size)
    (h : ∀ s' c' w', w'.ownsRow B 5 1 (.slice s' (n + m) c') (n + m) (ys ++ vals xs) → w.grownBy w' (Value.slice s0 n c0).ownBlock → wpList Tryz.prog ops Q rest (a.put o.dst (.slice s' (n + m) c')) w') :
    wpList Tryz.prog ops Q (o :: rest) a w := by
  obtain ⟨i0, hi, hz0, hz1, hz2⟩ := info_parts Tryz.info5'
  by_cases h0 : m = 0
  · subst h0
    have hxs : xs = [] := List.eq_nil_of_length_eq_zero hm
    subst hxs
    have hle : n ≤ c0 := by
      rcases hown.2 with ⟨h1, h2⟩ | ⟨g, cap, cur, h1, _, _, h3, _⟩
      · cases h1; omega
      · cases h1; exact h3
    refine wpList_append_zero hgd s x 22 ho 5 i0 Tryz.underlying22 hi s0 n c0 hle hs sp c hx ?_
    exact h _ _ w (by simpa [vals] using hown) ⟨rfl, rfl, rfl, Nat.le_refl _, fun _ _ _ => rfl⟩
  · rcases hb.lie with h' | ⟨g, o', rfl, hg, hc⟩
    · subst h'; simp at hm; omega
    · refine wpList_append_lies _ hgd s x 22 ho B 5 i0 (.int .u8 0) 1 1 Tryz.underlying22 hi hz0 hz1 hz2 rfl (by omega) _ n ys hs hown ⟨g, o', none⟩ m c (vals xs) hx (by rw [vals_len, hm, Nat.mul_one]) (bytes_cells hb) (vals_one xs) (by omega) (by unfold maxLen; omega) (by omega) hB _ rfl ?_
      intro g' cap w' h1 h2 _ _
      exact h _ _ w' h1 h2
/-- Bytes of the call's own, since w0. -/
structure Lr (w0 w : World) (sp : Option Addr) (n c : Nat) (ys : List Nat) : Prop where
  len : ys.length = n
  own : w.ownsRow w0.heap.size 5 1 (.slice sp n c) n (vals ys)
  bel : Below w0.heap.size w0 w
  small : ∀ y ∈ ys, y < 256
theorem lr_nil (w : World) : Lr w w none 0 0 [] := ⟨rfl, nil_owns w _, Below.refl _ _, by simp⟩
theorem Lr.app {w0 w w' : World} {sp s' : Option Addr} {n c c' m : Nat} {ys xs : List Nat} (h : Lr w0 w sp n c ys) (hm : xs.length = m) (hx : ∀ x ∈ xs, x < 256) (ho : w'.ownsRow w0.heap.size 5 1 (.slice s' (n + m) c') (n + m) (vals ys ++ vals xs)) (hg : w.grownBy w' (Value.slice sp n c).ownBlock) : Lr w0 w' s' (n + m) c' (ys ++ xs) :=
  ⟨by rw [List.length_append, h.len, hm], by rw [vals_app]; exact ho, h.bel.grown hg h.bel.size (fun _ e => owns_bs h.own e), fun y hy => by
    rcases List.mem_append.1 hy with q | q
    · exact h.small y q
    · exact hx y q⟩
theorem Lr.below {w0 w w' : World} {sp : Option Addr} {n c : Nat} {ys : List Nat} (h : Lr w0 w sp n c ys) (hb : Below w.heap.size w w') : Lr w0 w' sp n c ys :=
  ⟨h.len, owns_below h.own hb, h.bel.trans (hb.mono h.bel.size), h.small⟩
theorem Lr.bytes {w0 w : World} {sp : Option Addr} {n c : Nat} {ys : List Nat} (h : Lr w0 w sp n c ys) : Bytes w sp ys := by
  have hown := h.own
  rw [← h.len] at hown
  refine ⟨h.small, ?_⟩
  rcases hown.2 with ⟨h1, h2⟩ | ⟨g, cap, cur, h1, h2, hg, h3, h4, h5, h6⟩
  · left; exact List.eq_nil_of_length_eq_zero h2
  · right
    cases h1
    refine ⟨g, 0, rfl, lt_of_block hg, fun j hj => ?_⟩
    have hv : (vals ys)[j]? = some (.int .u8 (ys.getD j 0 : Nat)) := by
      simp only [vals, List.getElem?_map, List.getElem?_eq_getElem hj, Option.map_some, List.getD, Option.getD_some]
    rw [← h6, List.getElem?_take, if_pos (by omega)] at hv
    simp only [World.cell?, hg, Nat.zero_add]
    simpa using hv
theorem Lr.le {w0 w : World} {sp : Option Addr} {n c : Nat} {ys : List Nat} (h : Lr w0 w sp n c ys) : n ≤ c ∧ (0 < n → ∃ g, sp = some ⟨g, 0, none⟩ ∧ w0.heap.size ≤ g ∧ g < w.heap.size) := by
  rcases h.own.2 with ⟨h1, h2⟩ | ⟨g, cap, cur, h1, h2, hg, h3, h4, h5, h6⟩
  · cases h1; exact ⟨by omega, fun q => by omega⟩
  · cases h1; exact ⟨h3, fun _ => ⟨g, rfl, h2, lt_of_block hg⟩⟩
/-- What U32, U64 leave. -/
theorem made_lr (w : World) (xs : List Nat) (hs : ∀ x ∈ xs, x < 256) : Bytes (w.alloc (.cells (vals xs).toArray 5)) (some ⟨w.heap.size, 0, none⟩) xs ∧ Below w.heap.size w (w.alloc (.cells (vals xs).toArray 5)) :=
  ⟨lie_row (heap_alloc_new _ _) hs (fun j hj => by simp [vals, List.getD, List.getElem?_eq_getElem hj]), (Below.refl _ _).alloc (Nat.le_refl _) _⟩
theorem one_lr (w : World) (y : Nat) (hy : y < 256) : Lr w (w.alloc (.cells #[.int .u8 (y : Int)] 5)) (some ⟨w.heap.size, 0, none⟩) 1 1 [y] :=
  ⟨rfl, owns_built w _, (Below.refl _ _).alloc (Nat.le_refl _) _, by simpa using hy⟩
end Go.Proofs.YtfdclebajninfaaGreatDoor.C
namespace Go.Proofs.YtfdclebajninfaaGreatDoor
open Go.RowKit

theorem pow_small (n : Nat) : C.beOf n 1 = [n % 256] := by simp [C.beOf]

set_option maxRecDepth 100000 in
set_option maxHeartbeats 1000000 in
/-- The document's Record. -/
theorem rrec_any (w : World) (num : Nat) (hnum : num < 18446744073709551616) (pp : Option Addr) (k cap : Nat) (ps : List (List Nat)) (hk : ps.length = k) (hkl : k ≤ 4096) (hP : Pts w pp ps) (hlen : (partsB ps).length ≤ 4194304) :
    Calls Tryz.prog 63 #[.int .u64 (num : Int), .slice pp k cap] w fun e w' => ∃ sp n c, n = (recB num ps).length ∧ e = .returned (.slice sp n c) ∧ Bytes w' sp (recB num ps) ∧ Below w.heap.size w w' := by
  have HP := hide hP
  have HK := hide hk
  have HLen := hide hlen
  clear hP hk hlen
  go_enter Tryz.func63, Tryz.ntmps63
  go_wp2_with fail
  refine (C.ref_u64 w num hnum).mono ?_
  rintro e w1 ⟨rfl, rfl⟩
  obtain ⟨m1, m2⟩ := C.made_lr w (C.beOf num 8) (be_small _ _)
  have HL1 := hide ((C.lr_nil w).below m2)
  have HM1 := hide m1
  clear m1 m2
  generalize w.alloc (.cells (C.vals (C.beOf num 8)).toArray 5) = w1 at *
  go_wp2_with (at_builtin; refine C.wpList_append_row rfl (.tmp 8) (.tmp 10) rfl w.heap.size none 0 0 _ rfl HL1.out.own _ 8 8 (C.beOf num 8) rfl (be_len _ _) HM1.out (by omega) HL1.out.bel.size ?_; intro s2 c2 w2 ho2 hg2)
  have HL2 := hide (HL1.out.app (be_len _ _) (be_small _ _) ho2 hg2)
  clear ho2 hg2 HL1 HM1
  have hk32 : (k : Int) % 4294967296 = (k : Int) := by omega
  have HU := hide (C.ref_u32 w2 k (by omega))
  go_wp2_with fail
  refine HU.out.mono ?_
  rintro e w3 ⟨rfl, rfl⟩
  obtain ⟨m1, m2⟩ := C.made_lr w2 (C.beOf k 4) (be_small _ _)
  have HL3 := hide (HL2.out.below m2)
  have HM3 := hide m1
  clear m1 m2 HL2 HU
  generalize w2.alloc (.cells (C.vals (C.beOf k 4)).toArray 5) = w3 at *
  go_wp2_with (at_builtin; refine C.wpList_append_row rfl (.tmp 12) (.tmp 16) rfl w.heap.size _ _ _ _ rfl HL3.out.own _ 4 4 (C.beOf k 4) rfl (be_len _ _) HM3.out (by omega) HL3.out.bel.size ?_; intro s4 c4 w4 ho4 hg4)
  have HL4 : Hid (C.Lr w w4 s4 12 c4 ((C.beOf num 8 ++ C.beOf k 4) ++ partsB (ps.take 0))) := by
    have := HL3.out.app (be_len _ _) (be_small _ _) ho4 hg4
    show C.Lr _ _ _ _ _ _
    simpa [partsB] using this
  clear ho4 hg4 HL3 HM3
  go_wp2
  go_loopw [5, 6] (fun b i wr => ∃ (j n c : Nat) (sp : Option Addr), j ≤ k ∧ i = .int .i64 (j : Int) ∧ b = .slice sp n c ∧ n = 12 + (partsB (ps.take j)).length ∧ Hid (C.Lr w wr sp n c ((C.beOf num 8 ++ C.beOf k 4) ++ partsB (ps.take j)))) (fun _ i _ => k - (intOf i).toNat)
  case atStart => exact ⟨0, 12, c4, s4, Nat.zero_le _, rfl, rfl, by simp [partsB], HL4⟩
  case round =>
    obtain ⟨j, n, c, sp, hj, rfl, rfl, hn, HL⟩ := hrel
    clear HL4
    have hle := partsB_le (ps := ps) (k := j)
    have hlt12 := HLen.out
    by_cases hlt : j < k
    · have i1 : (0 : Int) ≤ (j : Int) := by omega
      have i2 : (j : Int) < (k : Int) := by omega
      obtain ⟨p, hp⟩ : ∃ p, ps[j]? = some p := ⟨_, List.getElem?_eq_getElem (by rw [HK.out]; exact hlt)⟩
      obtain ⟨g, o, ap, cp, e1, hg, c0, c1⟩ := (HP.out.below HL.out.bel).at hp
      have hsm := HP.out.small p (List.mem_of_getElem? hp)
      have HTx := hide (C.ref_text wr ap p.length cp p rfl c1.c hsm)
      have HPi := hide (part_in ps j p hp)
      have HTk := hide (take_snoc' ps j p hp)
      have hpl := partB_len2 p (by omega)
      have HPb : Hid (C.varOf p.length (C.vs p.length - 1) ++ p = partB p) := rfl
      rw [HPb.out] at HTx
      have hle2 := partsB_le (ps := ps) (k := j + 1)
      have HPs : Hid (∀ x ∈ partB p, x < 256) := partB_small c1.small (by omega)
      obtain ⟨q, hq⟩ : ∃ q, C.vs p.length + p.length = q := ⟨_, rfl⟩
      rw [hq] at HTx hpl
      have HPl := hide hpl
      have hb1 : n + q ≤ 140737488355328 := by have := HPi.out; omega
      have HN2 : Hid (n + q = 12 + (partsB (ps.take (j + 1))).length) := by show _ = _; have := HPi.out; omega
      clear c1 hq hsm hp hpl hle hle2 hlt12 hn
      generalize p.length = pl at *
      subst e1
      go_wp2_with fail
      refine HTx.out.mono ?_
      rintro e w5 ⟨g5, c5, rfl, ho5, hb5⟩
      have HL5 := hide (HL.out.below hb5)
      have HB5 : Hid (C.Bytes w5 (some ⟨g5, 0, none⟩) (partB p)) := by
        have h5 : C.Lr wr w5 (some ⟨g5, 0, none⟩) q c5 (partB p) := ⟨HPl.out, ho5, hb5, HPs.out⟩
        exact h5.bytes
      clear ho5 hb5 HTx
      go_wp2_with (at_builtin; refine C.wpList_append_row rfl (.tmp 24) (.tmp 29) rfl w.heap.size _ _ _ _ rfl HL5.out.own _ q c5 (partB p) rfl HPl.out HB5.out hb1 HL5.out.bel.size ?_; intro s6 c6 w6 ho6 hg6)
      have HL6 : Hid (C.Lr w w6 s6 (n + q) c6 ((C.beOf num 8 ++ C.beOf k 4) ++ partsB (ps.take (j + 1)))) := by
        have := HL5.out.app HPl.out HPs.out ho6 hg6
        show C.Lr _ _ _ _ _ _
        rw [HTk.out, partsB_snoc, ← List.append_assoc]
        exact this
      clear ho6 hg6 HL5 HB5
      go_wp2
      go_roundw
      case rel => exact ⟨j + 1, n + q, c6, s6, by omega, by go_num, rfl, HN2.out, HL6⟩
      case measure => simp [intOf]; omega
    · have i2 : ¬ (j : Int) < (k : Int) := by omega
      have ej : j = k := by omega
      subst ej
      have HLb : Hid (C.Lr w wr sp n c (bodyB num ps)) := by
        have := HL.out
        rw [List.take_of_length_le (by rw [HK.out]; exact Nat.le_refl _)] at this
        show C.Lr _ _ _ _ _ _
        unfold bodyB
        rw [HK.out]
        exact this
      have hbl : (bodyB num ps).length = n := HLb.out.len
      have hn2 : n ≤ 4194316 := by omega
      have HBd := hide (HLb.out.bytes)
      have HBe := hide (HLb.out.bel)
      have HBl := hide hbl
      have HBs := hide (HLb.out.small)
      have HRe : Hid (recB num ps = ((([167] ++ C.beOf n 4) ++ C.beOf (C.sumOf ([167] ++ C.beOf n 4)) 4) ++ bodyB num ps) ++ C.beOf (C.sumOf (bodyB num ps)) 4) := by
        show _ = _
        unfold recB framedB headB hd5
        rw [hbl, pow_small]
      have hs2 := sum_lt _ (HLb.out.small)
      have hs1 := sum_lt ([167] ++ C.beOf n 4) (fun x hx => by
        rcases List.mem_append.1 hx with h | h
        · simp at h; omega
        · exact be_small _ _ x h)
      clear HL hbl hle hlt12 hn HLb hlt
      generalize bodyB num ps = body at *
      have hn32 : (n : Int) % 4294967296 = (n : Int) := by omega
      have H1 := hide (C.one_lr wr 167 (by omega))
      go_wp2_with fail
      generalize wr.alloc (.cells #[.int .u8 167] 5) = v1 at *
      refine (C.ref_u32 v1 n (by omega)).mono ?_
      rintro e w3 ⟨rfl, rfl⟩
      obtain ⟨m1, m2⟩ := C.made_lr v1 (C.beOf n 4) (be_small _ _)
      have H2 := hide (H1.out.below m2)
      have HM2 := hide m1
      clear m1 m2 H1
      generalize v1.alloc (.cells (C.vals (C.beOf n 4)).toArray 5) = v2 at *
      go_wp2_with (at_builtin; refine C.wpList_append_row rfl (.tmp 32) (.tmp 36) rfl wr.heap.size _ _ _ _ rfl H2.out.own _ 4 4 (C.beOf n 4) rfl (be_len _ _) HM2.out (by omega) H2.out.bel.size ?_; intro s3 c3 v3 ho3 hg3)
      have H3 := hide (H2.out.app (be_len _ _) (be_small _ _) ho3 hg3)
      clear ho3 hg3 H2 HM2
      have HSm := hide (C.refsum_any v3 s3 5 c3 ([167] ++ C.beOf n 4) (H3.out.len) H3.out.bytes (by omega))
      generalize hR1 : C.sumOf ([167] ++ C.beOf n 4) = r1 at *
      generalize hX1 : [167] ++ C.beOf n 4 = x1 at *
      clear hR1 hX1
      go_wp2_with fail
      refine HSm.out.mono ?_
      rintro e w4 ⟨rfl, q4, rfl⟩
      have H4 := hide (H3.out.below (below_drewN (Below.refl _ v3) q4))
      clear H3 HSm
      generalize v3.drewN q4 = v4 at *
      go_wp2_with fail
      refine (C.ref_u32 v4 r1 hs1).mono ?_
      rintro e w5 ⟨rfl, rfl⟩
      obtain ⟨m1, m2⟩ := C.made_lr v4 (C.beOf r1 4) (be_small _ _)
      have H5 := hide (H4.out.below m2)
      have HM5 := hide m1
      clear m1 m2 H4
      generalize v4.alloc (.cells (C.vals (C.beOf r1 4)).toArray 5) = v5 at *
      go_wp2_with (first
        | (at_builtin; refine C.wpList_append_row rfl (.tmp 38) (.tmp 41) rfl wr.heap.size _ _ _ _ rfl H5.out.own _ 4 4 (C.beOf r1 4) rfl (be_len _ _) HM5.out (by omega) H5.out.bel.size ?_; intro s6 c6 v6 ho6 hg6; have H6 := hide (H5.out.app (be_len _ _) (be_small _ _) ho6 hg6); clear ho6 hg6 H5 HM5)
        | (at_builtin; refine C.wpList_append_row rfl (.tmp 43) (.tmp 44) rfl wr.heap.size _ _ _ _ rfl H6.out.own _ n c body rfl HBl.out (HBd.out.below H6.out.bel) (by omega) H6.out.bel.size ?_; intro s7 c7 v7 ho7 hg7; have H7 := hide (H6.out.app HBl.out HBs.out ho7 hg7); clear ho7 hg7 H6))
      have HSm := hide (C.refsum_any v7 sp n c body HBl.out (HBd.out.below H7.out.bel) (by omega))
      generalize C.sumOf body = r2 at *
      go_wp2_with fail
      refine HSm.out.mono ?_
      rintro e w8 ⟨rfl, q8, rfl⟩
      have H8 := hide (H7.out.below (below_drewN (Below.refl _ v7) q8))
      clear H7 HSm
      generalize v7.drewN q8 = v8 at *
      go_wp2_with fail
      refine (C.ref_u32 v8 r2 hs2).mono ?_
      rintro e w9 ⟨rfl, rfl⟩
      obtain ⟨m1, m2⟩ := C.made_lr v8 (C.beOf r2 4) (be_small _ _)
      have H9 := hide (H8.out.below m2)
      have HM9 := hide m1
      clear m1 m2 H8
      generalize v8.alloc (.cells (C.vals (C.beOf r2 4)).toArray 5) = v9 at *
      go_wp2_with (at_builtin; refine C.wpList_append_row rfl (.tmp 46) (.tmp 49) rfl wr.heap.size _ _ _ _ rfl H9.out.own _ 4 4 (C.beOf r2 4) rfl (be_len _ _) HM9.out (by omega) H9.out.bel.size ?_; intro s10 c10 v10 ho10 hg10)
      have H10 := hide (H9.out.app (be_len _ _) (be_small _ _) ho10 hg10)
      clear ho10 hg10 H9 HM9
      go_wp2
      go_ret
      rw [HRe.out]
      exact ⟨s10, _, c10, H10.out.len.symm, rfl, Bytes.of_c H10.out.bytes, HBe.out.trans (H10.out.bel.mono HBe.out.size)⟩

end Go.Proofs.YtfdclebajninfaaGreatDoor
namespace Go.Proofs.YtfdclebajninfaaGreatDoor
open Go.RowKit

set_option maxRecDepth 100000 in
set_option maxHeartbeats 1000000 in
/-- The document's small. -/
theorem rsmall_any (w : World) (pp : Option Addr) (k cap : Nat) (ps : List (List Nat)) (hk : ps.length = k) (hkl : k ≤ 4294967296) (hP : Pts w pp ps) (hlen : (partsB ps).length ≤ 4194304) :
    Calls Tryz.prog 62 #[.slice pp k cap] w fun e w' => e = .returned (.bool (decide (k ≤ 4096) && decide (25 + (partsB ps).length ≤ 4194304))) ∧ Below w.heap.size w w' := by
  have HP := hide hP
  have HK := hide hk
  have HLen := hide hlen
  clear hP hk hlen
  obtain ⟨bb, hbb⟩ : ∃ bb, (decide (k ≤ 4096) && decide (25 + (partsB ps).length ≤ 4194304)) = bb := ⟨_, rfl⟩
  rw [hbb]
  have HBB := hide hbb
  clear hbb
  go_enter Tryz.func62, Tryz.ntmps62
  go_wp2
  go_loopw [3, 4] (fun b i wr => ∃ (j n : Nat), j ≤ k ∧ i = .int .i64 (j : Int) ∧ b = .int .i64 (n : Int) ∧ n = 25 + (partsB (ps.take j)).length ∧ Hid (Below w.heap.size w wr)) (fun _ i _ => k - (intOf i).toNat)
  case atStart => exact ⟨0, 25, Nat.zero_le _, rfl, rfl, by simp [partsB], hide (Below.refl _ _)⟩
  case round =>
    obtain ⟨j, n, hj, rfl, rfl, hn, HB⟩ := hrel
    have hle := partsB_le (ps := ps) (k := j)
    have hlt12 := HLen.out
    by_cases hlt : j < k
    · have i1 : (0 : Int) ≤ (j : Int) := by omega
      have i2 : (j : Int) < (k : Int) := by omega
      obtain ⟨p, hp⟩ : ∃ p, ps[j]? = some p := ⟨_, List.getElem?_eq_getElem (by rw [HK.out]; exact hlt)⟩
      obtain ⟨g, o, ap, cp, e1, hg, c0, c1⟩ := (HP.out.below HB.out).at hp
      have hsm := HP.out.small p (List.mem_of_getElem? hp)
      have HPi := hide (part_in ps j p hp)
      have hpl := partB_len2 p (by omega)
      have hle2 := partsB_le (ps := ps) (k := j + 1)
      have hq2 := HPi.out
      obtain ⟨q, hq⟩ : ∃ q, C.vs p.length = q := ⟨_, rfl⟩
      have HV := hide (fun w => C.ref_var_any p.length (by omega) w)
      unfold C.Vared at HV
      rw [hq] at HV hpl
      have HN2 : Hid (n + p.length + q = 25 + (partsB (ps.take (j + 1))).length) := by show _ = _; omega
      have hb1 : n + p.length + q ≤ 140737488355328 := by omega
      generalize C.vals (C.varOf p.length (q - 1)) = VV at *
      clear c1 hq hp hpl hle hle2 hlt12 hn hq2 HPi
      generalize p.length = pl at *
      subst e1
      have HW := hide (show IntKind.u64.wrap (pl : Int) = (pl : Int) by rw [IntKind.wrap_u64]; omega)
      have HWs : Hid (IntKind.i64.wrap (IntKind.i64.wrap ((n : Int) + (pl : Int)) + (q : Int)) = ((n + pl + q : Nat) : Int)) := by
        show _ = _
        rw [IntKind.wrap_i64, IntKind.wrap_i64]
        omega
      have HP2 := hide HP.out
      clear HP
      go_wp2
      go_region_held3 (fun w' => w'.cell? ⟨g, o + j, none⟩ = some (.slice ap pl cp)) (first | assumption | go_keep)
        (first | (go_at_call 95; rw [HW.out]; refine (HV.out _).mono ?_; rintro e w3 ⟨g3, k3, rfl, hown3, hb3⟩; have HB3 : Hid (Below w.heap.size w w3) := HB.out.drew.trans (hb3.mono HB.out.size); have hc3 : w3.cell? ⟨g, o + j, none⟩ = some (.slice ap pl cp) := (hb3.cell (p := ⟨g, o + j, none⟩) hg).trans c0; clear hown3 hb3))
      go_wp2
      go_roundw
      case rel => exact ⟨j + 1, n + pl + q, by omega, by go_num, by rw [HWs.out], HN2.out, HB3⟩
      case measure => simp [intOf]; omega
    · have i2 : ¬ (j : Int) < (k : Int) := by omega
      have ej : j = k := by omega
      subst ej
      rw [List.take_of_length_le (by rw [HK.out]; exact Nat.le_refl _)] at hn
      have HN := hide hn
      clear hn hle hlt12
      by_cases h1 : j ≤ 4096
      · have h1' : (j : Int) ≤ 4096 := by omega
        by_cases h2 : n ≤ 4194304
        · have h2' : (n : Int) ≤ 4194304 := by omega
          obtain rfl : bb = true := by rw [← HBB.out, decide_eq_true h1, ← HN.out, decide_eq_true h2]; rfl
          go_wp2
          go_ret
          exact ⟨rfl, HB.out⟩
        · have h2' : ¬ (n : Int) ≤ 4194304 := by omega
          obtain rfl : bb = false := by rw [← HBB.out, decide_eq_true h1, ← HN.out, decide_eq_false h2]; rfl
          go_wp2
          go_ret
          exact ⟨by first | rfl | (rw [decide_eq_false (show ¬ ((n : Int) ≤ 4194304) by omega)]; rfl), HB.out⟩
      · have h1' : ¬ (j : Int) ≤ 4096 := by omega
        obtain rfl : bb = false := by rw [← HBB.out, decide_eq_false h1]; rfl
        go_wp2
        go_ret
        exact ⟨by first | rfl | (rw [decide_eq_false (show ¬ ((j : Int) ≤ 4096) by omega)]; rfl), HB.out⟩

end Go.Proofs.YtfdclebajninfaaGreatDoor
