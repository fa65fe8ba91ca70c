import Derived.Test.YtfjhbbekeibpkaaDoorMqE
import Derived.Test.YtfjhbbekeibpkaaDoorLqC
import Derived.Test.YtfjhbbekeibpkaaDoorRfD
namespace Go.Proofs.YtfjhbbekeibpkaaDoor
open Go.RowKit

/-! Many links -/
def mnL (j : Nat) : Lk := ⟨0, 1, j + 1, 3, 7 + j, [(1, str [j, 120])], 1, 0, 0, false, 0, 1, some 4, false, false⟩
def mnF (j : Nat) : Fr := ⟨0, 1, j + 1, 7 + j, 1, 0, [j, 120]⟩
def mnH (j : Nat) : Lk := ⟨0, 1, j + 1, 3, 7 + j, [], 0, 0, 0, false, 0, 1, some 4, false, false⟩
theorem mn_hear (j : Nat) : hearW (Lk.new 0 1 (j + 1) 3 4) (7 + j) (j + 1) = mnH j := by
  have h : (Lk.new 0 1 (j + 1) 3 4).known < 7 + j := by show 0 < 7 + j; omega
  unfold hearW hear1
  rw [if_pos h]
  simp [lreset, lanew, Lk.new, mnH]
  omega
theorem mn_send (j : Nat) : sendN (mnH j) (str [j, 120]) = mnL j := by
  simp [sendN, sendL, mnH, mnL, lreset]
theorem mn_small {j : Nat} (h : j < 256) : ∀ x ∈ [j, 120], x < 256 := by
  intro x hx
  simp at hx
  omega
theorem mn_fit {j : Nat} (h : j < 256) : (mnF j).fit := by
  unfold Fr.fit mnF
  simp
  omega
theorem mn_mid {j : Nat} (h : j < 256) : midO (mnL j) = [encB (mnF j)] := by
  have hb : bodO (mnL j) = [encB (mnF j)] := by
    have hi : inWin (mnL j) = [(1, str [j, 120])] := by
      unfold inWin
      rw [if_neg (by show ¬ 7 + j = 0; omega)]
      rfl
    have hf : lfr (mnL j) 1 (str [j, 120]) = mnF j := by
      unfold lfr mnL mnF
      simp only
      rw [nums_str (mn_small h)]
    unfold bodO outs
    rw [hi]
    have hg : goN (tmL (mnL j)) (mnL j).gone (1, str [j, 120]) = true := by
      unfold goN
      show (_ || decide (0 < 1)) = true
      simp
    rw [List.filter_cons_of_pos hg, List.filter_nil, List.map_cons, List.map_nil, hf]
  unfold midO
  rw [hb]
  simp
theorem mn_pok (j : Nat) : (mnL j).Pok := ⟨by simp [mnL], by simp [mnL], fun m h => by simp [mnL] at h; omega⟩
theorem mn_enc {j : Nat} (h : j < 256) : decB (encB (mnF j)) = some (mnF j) := by
  unfold encB
  rw [if_pos (mn_fit h)]
  exact dec_bytes (mn_fit h) (mn_small h)

def ptrs (bs : List Nat) : List Value := bs.map fun b => .pointer (some ⟨b, 0, none⟩)
theorem Tryd.infoPl : (Tryd.prog.info? 24).map (fun i => (i.zero, i.size, i.bytes)) = some (some (.pointer none), 1, 8) := by kernel_rfl
structure Mny (w0 w : World) (lv : Value) (bs : List Nat) (i : Nat) : Prop where
  bel : Below w0.heap.size w0 w
  own : w.ownsRow w0.heap.size 24 1 lv bs.length (ptrs bs)
  lk : ∀ j b, i ≤ j → bs[j]? = some b → ∃ rv, Lw w b (mnL j) rv ∧ w0.heap.size ≤ b
theorem Mny.below {w0 w wd : World} {lv : Value} {bs : List Nat} {i : Nat} (h : Mny w0 w lv bs i) (hb : Below w.heap.size w wd) : Mny w0 wd lv bs i :=
  ⟨h.bel.trans (hb.mono h.bel.size), C.owns_below h.own hb, fun j b hj he => by obtain ⟨rv, h1, h2⟩ := h.lk j b hj he; exact ⟨rv, h1.below hb, h2⟩⟩
theorem own_ne {w : World} {B n s k : Nat} {t t' : TypeId} {v : Value} {xs : List Value} {D : Array Value} {fr : Nat × Nat} (h : w.ownsRow B t s v n xs) (hk : w.heap[k]? = some (.cells D t' fr)) (ht : t' ≠ t) : some k ≠ v.ownBlock := by
  intro e
  rcases h.2 with ⟨h1, _⟩ | ⟨g, cap, cur, h1, _, hg, _⟩
  · rw [h1] at e; simp [Value.ownBlock] at e
  · rw [h1] at e; simp [Value.ownBlock] at e; subst e
    rw [hg] at hk; simp at hk; exact ht hk.2.1.symm
theorem Lw.grown {w w' : World} {b : Nat} {L : Lk} {rv lv : Value} {B n : Nat} {xs : List Value} (h : Lw w b L rv) (ho : w.ownsRow B 24 1 lv n xs) (hg : w.grownBy w' lv.ownBlock) : Lw w' b L rv := by
  refine ⟨h.lb.kept (hg.block b (C.lt_of_block h.lb) (own_ne ho h.lb (by decide))), h.row.same (fun g hgo => hg.block g (h.row.lt g hgo).2 ?_)⟩
  rcases h.row.2 with ⟨h1, _⟩ | ⟨g', o, cap, cur, h1, _, hg', _⟩
  · rw [h1] at hgo; simp [Value.ownBlock] at hgo
  · rw [h1] at hgo; simp [Value.ownBlock] at hgo; subst hgo
    exact own_ne ho hg' (by decide)
/-- One more link. -/
theorem Mny.push {w0 w w' : World} {lv lv' : Value} {bs : List Nat} {b : Nat} {rv : Value} (h : Mny w0 w lv bs 0) (hl : Lw w b (mnL bs.length) rv) (hb : w0.heap.size ≤ b) (hg : w.grownBy w' lv.ownBlock)
    (ho : w'.ownsRow w0.heap.size 24 1 lv' (bs.length + 1) (ptrs bs ++ [.pointer (some ⟨b, 0, none⟩)])) : Mny w0 w' lv' (bs ++ [b]) 0 := by
  refine ⟨h.bel.grown hg h.bel.size (fun k e => ?_), ?_, fun j c _ hj => ?_⟩
  · rcases h.own.2 with ⟨h1, _⟩ | ⟨g, cap, cur, h1, h2, _⟩
    · rw [h1] at e; simp [Value.ownBlock] at e
    · rw [h1] at e; simp [Value.ownBlock] at e; omega
  · rw [List.length_append]
    have e : ptrs (bs ++ [b]) = ptrs bs ++ [.pointer (some ⟨b, 0, none⟩)] := by simp [ptrs]
    rw [e]
    exact ho
  · by_cases hlt : j < bs.length
    · rw [List.getElem?_append_left hlt] at hj
      obtain ⟨rv', h1, h2⟩ := h.lk j c (Nat.zero_le _) hj
      exact ⟨rv', h1.grown h.own hg, h2⟩
    · have hj2 : j = bs.length := by
        have := (List.getElem?_eq_some_iff.1 hj).1
        simp at this
        omega
      subst hj2
      rw [List.getElem?_append_right (Nat.le_refl _)] at hj
      simp at hj
      subst hj
      exact ⟨rv, hl.grown h.own hg, hb⟩
theorem Lw.life_eq {w : World} {b : Nat} {L M : Lk} {rv sv : Value} (h : Lw w b L rv) (k : Lw w b M sv) : L.life = M.life := by
  have h1 : lkC L rv = lkC M sv := by
    have e := h.lb.symm.trans k.lb
    simpa using e
  have h2 := congrArg (fun a : Array Value => a[2]?) h1
  simp [lkC] at h2
  omega
/-- One link ticks. -/
theorem Mny.tick {w0 w w' : World} {lv : Value} {bs : List Nat} {i b : Nat} (h : Mny w0 w lv bs i) (hb : bs[i]? = some b) (hk : C.But b w w') : Mny w0 w' lv bs (i + 1) := by
  obtain ⟨rv, h1, h2⟩ := h.lk i b (Nat.le_refl _) hb
  refine ⟨hk.below h.bel h2 h.bel.size, ?_, fun j c hj hc => ?_⟩
  · refine ⟨h.own.1, h.own.2.imp id ?_⟩
    rintro ⟨g, cap, cur, e1, e2, hg, r⟩
    refine ⟨g, cap, cur, e1, e2, (hk.block g (C.lt_of_block hg) (fun e => ?_)).trans hg, r⟩
    subst e
    have := h1.lb
    unfold Lb at this
    rw [hg] at this
    simp at this
  · obtain ⟨sv, h3, h4⟩ := h.lk j c (by omega) hc
    have hne : c ≠ b := fun e => by
      subst e
      have := h1.life_eq h3
      simp [mnL] at this
      omega
    refine ⟨sv, ⟨h3.lb.kept (hk.block c (C.lt_of_block h3.lb) hne), h3.row.same (fun g hg => hk.block g (h3.row.lt g hg).2 (fun e => ?_))⟩, h4⟩
    exact h3.row.ne h1.lb (by decide) (by rw [hg, e])
end Go.Proofs.YtfjhbbekeibpkaaDoor
namespace Go.Proofs.YtfjhbbekeibpkaaDoor
open Go.RowKit

theorem Tw.bel {b B : Nat} {v : Option Nat} {W w w' : World} (h : Tw b v w w') (hb : Below B W w) (h1 : B ≤ b) (h2 : ∀ g, v = some g → B ≤ g) (h3 : ∀ c, c < B → c < w.heap.size) : Below B W w' := by
  have hs := h.size
  have hz := hb.size
  exact ⟨h.os.trans hb.os, h.tape.trans hb.tape, h.output.trans hb.output, by omega, fun c hc => (h.block c (h3 c hc) (by omega) (fun e => by have := h2 c e.symm; omega)).trans (hb.block c hc)⟩
theorem two_bytes (w : World) (x y : Nat) (hx : x < 256) (hy : y < 256) : Bytes (w.alloc (.cells #[.int .u8 (x : Int), .int .u8 (y : Int)] 5)) (some ⟨w.heap.size, 0, none⟩) [x, y] := by
  refine Bytes.of_c ?_
  have := made_by w [x, y] (by intro z hz; simp at hz; omega)
  exact this
set_option maxRecDepth 100000 in
set_option maxHeartbeats 4000000 in
theorem many_all (w : World) (hT : C.Tab w) (n : Int) :
    Calls Tryd.prog 3 #[.int .i64 n] w fun e w' => e = .returned (.bool true) ∧ Below w.heap.size w w' := by
  have HT := hide hT
  obtain ⟨i0, hi, hz0, hz1, hz2⟩ := info_parts Tryd.infoPl
  have HWi := hide (within_any w n 60 (by omega) (by omega))
  obtain ⟨m, hm⟩ : ∃ m : Nat, (n % ((60 : Nat) : Int)).toNat = m := ⟨_, rfl⟩
  have hm60 : m < 60 := by omega
  rw [hm] at HWi
  clear hm hT
  go_enter Tryd.func3, Tryd.ntmps3
  go_wp2_with fail
  refine HWi.out.mono ?_
  rintro e w1 ⟨rfl, rfl⟩
  clear HWi
  go_wp2
  go_loopw [4, 5] (fun lv iv w' => ∃ (bs : List Nat) (a : Option Addr) (k c : Nat), k ≤ m + 2 ∧ iv = .int .i64 (k : Int) ∧ lv = .slice a k c ∧ Hid (bs.length = k ∧ Mny w1 w' (.slice a k c) bs 0)) (fun _ iv _ => m + 2 - (intOf iv).toNat)
  case atStart => exact ⟨[], none, 0, 0, by omega, rfl, rfl, hide ⟨rfl, Below.refl _ _, ⟨rfl, Or.inl ⟨rfl, rfl⟩⟩, fun j b _ h => by simp at h⟩⟩
  case round =>
  obtain ⟨bs, a, k, c, hk, rfl, rfl, HM⟩ := hrel
  rename World => wr
  by_cases hlt : k < m + 2
  · have i1 : (k : Int) < 2 + (m : Int) := by omega
    have i2 : (0 : Int) ≤ (k : Int) := by omega
    have i3 : (k : Int) + 1 < 18446744073709551616 := by omega
    have i4 : 7 + (k : Int) < 18446744073709551616 := by omega
    have i5 : (k : Int) % 256 = (k : Int) := by omega
    have HN := hide (new_any wr 0 1 (k + 1) 3 4)
    rw [show ((k + 1 : Nat) : Int) = (k : Int) + 1 by omega] at HN
    go_wp2_with fail
    refine HN.out.mono ?_
    rintro e w2 ⟨rfl, hl2, hb2⟩
    have HH := hide (hear_word w2 wr.heap.size (Lk.new 0 1 (k + 1) 3 4) (7 + k) (k + 1) 0 none 0 hl2 (by show (⟨1, 0, 7 + k, k + 1, 0, 0, []⟩ : Fr).fit; unfold Fr.fit; simp; omega) (Nat.zero_le _))
    rw [mn_hear, show ((k + 1 : Nat) : Int) = (k : Int) + 1 by omega, show ((7 + k : Nat) : Int) = 7 + (k : Int) by omega, decide_eq_true (show (Lk.new 0 1 (k + 1) 3 4).known < 7 + k by show 0 < 7 + k; omega), decide_eq_true (show k + 1 = (Lk.new 0 1 (k + 1) 3 4).life by rfl), show (Lk.new 0 1 (k + 1) 3 4).other = 1 from rfl, show (Lk.new 0 1 (k + 1) 3 4).me = 0 from rfl] at HH
    have HB2 := hide hb2
    have HL2 := hide hl2
    clear hl2 hb2 HN
    go_wp2_with fail
    refine HH.out.mono ?_
    rintro e w3 ⟨rfl, hl3, hb3⟩
    have HL3 := hide hl3
    have HB3 : Hid (Below wr.heap.size wr w3) := hb3.below HB2.out (Nat.le_refl _) HB2.out.size
    clear hl3 hb3 HH HL2 HB2
    go_upto_region 10 with (fail)
    obtain ⟨w4, hw4⟩ : ∃ w4, w3.alloc (.cells #[.slice none 0 0, .bool false, .bool true, .bool true] 29) = w4 := ⟨_, rfl⟩
    rw [hw4]
    have hb4 : Below w3.heap.size w3 w4 := by rw [← hw4]; exact (Below.refl _ _).alloc (Nat.le_refl _) _
    have hk4 : w4.heap[w3.heap.size]? = some (.cells #[.slice none 0 0, .bool false, .bool true, .bool true] 29 (0, 0)) := by rw [← hw4]; exact heap_alloc_new _ _
    have y2 : w4.cell? ⟨w3.heap.size, 2, none⟩ = some (.bool true) := by simp [World.cell?, hk4]
    have y3 : w4.cell? ⟨w3.heap.size, 3, none⟩ = some (.bool true) := by simp [World.cell?, hk4]
    obtain ⟨w5, hw5⟩ : ∃ w5, w4.alloc (.cells #[.int .u8 (k : Int), .int .u8 120] 5) = w5 := ⟨_, rfl⟩
    have hb5 : Below w4.heap.size w4 w5 := by rw [← hw5]; exact (Below.refl _ _).alloc (Nat.le_refl _) _
    have HB5 : Hid (Below wr.heap.size wr w5) := HB3.out.trans ((hb4.mono HB3.out.size).trans (hb5.mono (Nat.le_trans HB3.out.size hb4.size)))
    have hl5 : Lw w5 wr.heap.size (mnH k) (.slice none 0 0) := ⟨(HL3.out.below hb4).below hb5, ⟨rfl, Or.inl ⟨rfl, rfl⟩⟩⟩
    have hlt3 := C.lt_of_block HL3.out
    have hs4 := hb4.size
    have HS := hide (send_any w5 wr.heap.size (mnH k) _ hl5 (by simp [mnH]) (some ⟨w4.heap.size, 0, none⟩) 2 2 [k, 120] (by rw [← hw5]; exact two_bytes w4 k 120 (by omega) (by omega)) rfl (by omega) (by simp [mnH]) (fun a ha => by cases ha; show w4.heap.size ≠ _; omega))
    have HW5 := hide hw5
    clear hw4 hw5 hb4 hb5 hk4 hl5 hlt3 hs4 HL3 HB3
    go_wp2_with fail
    rw [HW5.out]
    refine HS.out.mono ?_
    rintro e w6 ⟨rfl, rv, hl6, ht6, -⟩
    rw [mn_send] at hl6
    have hb6 : Below wr.heap.size wr w6 := ht6.bel HB5.out (Nat.le_refl _) (fun g hg => by cases hg) (fun c hc => by have := HB5.out.size; omega)
    have hM6 : Mny w1 w6 (.slice a k c) bs 0 := HM.out.2.below hb6
    obtain ⟨w7, hw7⟩ : ∃ w7, w6.alloc (.cells #[.pointer (some ⟨wr.heap.size, 0, none⟩)] 24) = w7 := ⟨_, rfl⟩
    have hb7 : Below w6.heap.size w6 w7 := by rw [← hw7]; exact (Below.refl _ _).alloc (Nat.le_refl _) _
    have HM7 := hide (hM6.below hb7)
    have HL7 : Hid (Lw w7 wr.heap.size (mnL bs.length) rv) := by show Lw _ _ _ _; rw [HM.out.1]; exact hl6.below hb7
    have HO7 : Hid (w7.ownsRow w1.heap.size 24 1 (.slice a k c) k (ptrs bs)) := by have := HM7.out.own; rw [HM.out.1] at this; exact this
    have HNw : Hid (∀ j u, [Value.pointer (some ⟨wr.heap.size, 0, none⟩)][j]? = some u → w7.cell? ((⟨w6.heap.size, 0, none⟩ : Addr).add j) = some u) := by rw [← hw7]; exact World.news_of_block (heap_alloc_new w6 _)
    have HLo : Hid (w1.heap.size ≤ wr.heap.size) := HM.out.2.bel.size
    have hz7 : w1.heap.size ≤ w7.heap.size := HM7.out.bel.size
    have HW7 := hide hw7
    clear hl6 ht6 hb6 hM6 hw7 hb7 HS HW5 HB5
    go_wp2_with (at_builtin; rw [HW7.out]; refine wpList_append_lies _ rfl (.tmp 51) (.tmp 53) 23 rfl w1.heap.size 24 i0 (.pointer none) 1 8 Tryd.underlying23 hi hz0 hz1 hz2 rfl (by omega) (.slice a k c) k (ptrs bs) rfl HO7.out ⟨w6.heap.size, 0, none⟩ 1 1 [.pointer (some ⟨wr.heap.size, 0, none⟩)] rfl rfl HNw.out (by simp [Value.oneCell']) (by omega) (by unfold maxLen; omega) (by omega) hz7 _ rfl ?_; intro g' cap' w8 hown hgrow hat hltg; have HP := hide (HM7.out.push HL7.out HLo.out hgrow (by rw [HM.out.1]; exact hown)); clear hown hgrow hat hltg)
    have HK : Hid ((bs ++ [wr.heap.size]).length = k + 1) := by show _ = _; rw [List.length_append, HM.out.1]; rfl
    exact ⟨⟨bs ++ [wr.heap.size], _, k + 1, cap', by omega, by go_num, rfl, hide ⟨HK.out, HP.out⟩⟩, by simp [intOf]; omega⟩
  · obtain rfl : k = m + 2 := by omega
    have j3 : ¬ ((m + 2 : Nat) : Int) < 2 + (m : Int) := by omega
    obtain ⟨g, rfl⟩ : ∃ g, a = some ⟨g, 0, none⟩ := by
      rcases HM.out.2.own.2 with ⟨h1, h2⟩ | ⟨g, _, _, h1, _⟩
      · have := HM.out.1; omega
      · injection h1 with h3; exact ⟨g, h3⟩
    go_wp2
    go_loopw [8] (fun iv w' => ∃ i : Nat, i ≤ m + 2 ∧ iv = .int .i64 (i : Int) ∧ Hid (Mny w1 w' (.slice (some ⟨g, 0, none⟩) (m + 2) c) bs i)) (fun iv _ => m + 2 - (intOf iv).toNat)
    case atStart => exact ⟨0, by omega, rfl, hide HM.out.2⟩
    case round =>
    obtain ⟨i, hile, rfl, HI⟩ := hrel
    have HLen := hide HM.out.1
    clear HM
    rename World => ws
    by_cases hlt2 : i < m + 2
    · have i1 : (i : Int) < 2 + (m : Int) := by omega
      have i1' : (i : Int) < ((m + 2 : Nat) : Int) := by omega
      have i2 : (0 : Int) ≤ (i : Int) := by omega
      have i3 : (i : Int) + 1 < 18446744073709551616 := by omega
      have i4 : 7 + (i : Int) < 18446744073709551616 := by omega
      have i5 : (i : Int) % 256 = (i : Int) := by omega
      obtain ⟨b, hb⟩ : ∃ b, bs[i]? = some b := ⟨_, List.getElem?_eq_getElem (by rw [HLen.out]; omega)⟩
      obtain ⟨rv, hl, hlo⟩ := HI.out.lk i b (Nat.le_refl _) hb
      have hcell : ws.cell? ⟨g, i, none⟩ = some (.pointer (some ⟨b, 0, none⟩)) := by
        have h1 := HI.out.own
        rw [HLen.out] at h1
        have := C.owns_cells h1 i (.pointer (some ⟨b, 0, none⟩)) (by simp [ptrs, hb])
        rwa [show (⟨g, 0, none⟩ : Addr).add i = ⟨g, i, none⟩ by unfold Addr.add; split <;> simp_all] at this
      have hpos := HT.out.pos
      have HTk := hide (tick_any ws b (mnL i) rv hl (by simp [mnL]) (mn_pok i) (HT.out.below HI.out.bel hpos) (by omega) (by simp [mnL]))
      have HMid := hide (mn_mid (show i < 256 by omega))
      have HBi := hide hb
      clear hl hlo hb
      go_wp2_with fail
      refine HTk.out.mono ?_
      rintro e w2 ⟨sa, cc, q, rfl, ht⟩
      have hrow := ht.row
      have hq := ht.len
      rw [HMid.out] at hrow hq
      obtain rfl : q = 1 := by simpa using hq.symm
      have HM2 := hide (HI.out.tick HBi.out ht.but)
      obtain ⟨vs, ho2, hel⟩ := hrow
      obtain ⟨sp, hv, hmine, hsm⟩ := hel 0 _ rfl
      obtain ⟨X, hX⟩ : ∃ X, encB (mnF i) = X := ⟨_, rfl⟩
      have HDec := hide (mn_enc (show i < 256 by omega))
      have hlen8 := encB_len (mnF i)
      rw [hX] at hv hmine hsm HDec hlen8
      obtain ⟨N, hN⟩ : ∃ N, X.length = N := ⟨_, rfl⟩
      rw [hN] at hv hlen8
      have hvs : vs = [.slice sp N N] := by
        have h1 := ho2.1
        simp at h1
        match vs, h1, hv with
        | [v], _, hv => simpa using hv
      rw [hvs] at ho2
      obtain ⟨h, rfl, hc0, -, -⟩ := own_cell0 ho2
      have HMi := hide hmine
      have HSm := hide hsm
      have HN := hide hN
      have HRd := hide (rdec_any w2 sp N N X hN (Nat.le_refl _) (by omega) (by omega) (hmine.bytes hsm) (by
        rcases hmine with ⟨_, h2⟩ | ⟨g2, h2, _⟩
        · exact Or.inl ⟨by rw [← hN, h2]; rfl, h2⟩
        · exact Or.inr ⟨g2, 0, h2⟩))
      clear ht hq ho2 hel hv hvs hmine hsm hX hN hcell HTk HMid hlen8
      go_wp2_with fail
      refine HRd.out.mono ?_
      rintro e w3 hd
      rw [HDec.out] at hd
      rcases hd with ⟨f, sq, kk, hf, rfl, hby, -, hb3⟩ | ⟨hf, -⟩
      · obtain rfl : mnF i = f := by injection hf
        have HM3 := hide (HM2.out.below hb3)
        have HBy := hide hby
        clear hf hby hb3 HRd HM2 hc0
        unfold frV mnF
        go_upto_region 20 with (fail)
        obtain ⟨w4, hw4⟩ : ∃ w4, w3.alloc (.cells #[.int .i64 0, .int .i64 1, .int .u64 ((i : Int) + 1), .int .u64 (7 + (i : Int)), .int .u64 1, .int .u64 0, .slice sq 2 kk] 32) = w4 := ⟨_, rfl⟩
        rw [hw4]
        have hb4 : Below w3.heap.size w3 w4 := by rw [← hw4]; exact (Below.refl _ _).alloc (Nat.le_refl _) _
        have hk4 : w4.heap[w3.heap.size]? = some (.cells #[.int .i64 0, .int .i64 1, .int .u64 ((i : Int) + 1), .int .u64 (7 + (i : Int)), .int .u64 1, .int .u64 0, .slice sq 2 kk] 32 (0, 0)) := by rw [← hw4]; exact heap_alloc_new _ _
        obtain ⟨y0, y1, y2, y3, y4, y5, y6, -⟩ := blk7 hk4
        obtain ⟨w5, hw5⟩ : ∃ w5, w4.alloc (.cells #[.int .u8 (i : Int), .int .u8 120] 5) = w5 := ⟨_, rfl⟩
        have hb5 : Below w4.heap.size w4 w5 := by rw [← hw5]; exact (Below.refl _ _).alloc (Nat.le_refl _) _
        have HM5 := hide ((HM3.out.below hb4).below hb5)
        have HEq := hide (eqfr_any w5 (mnF i) (mnF i) sq (some ⟨w4.heap.size, 0, none⟩) kk 2 (Bytes.of_c ((HBy.out.below hb4).below hb5)) (by rw [← hw5]; exact two_bytes w4 i 120 (by omega) (by omega)) (by simp [mnF]) (by simp [mnF]))
        unfold frV mnF at HEq
        simp only [List.length_cons, List.length_nil, Nat.reduceAdd] at HEq
        rw [show ((i + 1 : Nat) : Int) = (i : Int) + 1 by omega, show ((7 + i : Nat) : Int) = 7 + (i : Int) by omega] at HEq
        have hlt4 := C.lt_of_block hk4
        have HW5 := hide hw5
        clear hw4 hw5 hb4 hb5 hk4 HM3 HBy
        go_wp2_with fail
        rw [HW5.out]
        refine HEq.out.mono ?_
        rintro e w6 ⟨r, rfl, hr, hb6⟩
        obtain rfl : r = true := hr.2 (by first | trivial | rfl)
        have HM6 := hide (HM5.out.below hb6)
        clear hr hb6 HEq HM5 HW5 y0 y1 y2 y3 y4 y5 y6
        go_wp2
        exact ⟨⟨i + 1, by omega, by go_num, HM6⟩, by simp [intOf]; omega⟩
      · cases hf
    · obtain rfl : i = m + 2 := by omega
      have j4 : ¬ ((m + 2 : Nat) : Int) < 2 + (m : Int) := by omega
      have HBg := hide (begun_any ws (HT.out.below HI.out.bel HT.out.pos))
      go_wp2_with fail
      refine HBg.out.mono ?_
      rintro e w9 ⟨rfl, hb9⟩
      have HB9 := hide (HI.out.bel.trans (hb9.mono HI.out.bel.size))
      clear hb9 HBg
      go_wp2
      go_ret
      exact ⟨rfl, HB9.out⟩
end Go.Proofs.YtfjhbbekeibpkaaDoor
