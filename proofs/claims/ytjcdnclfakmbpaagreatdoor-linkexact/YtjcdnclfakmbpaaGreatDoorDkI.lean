import Derived.Test.YtjcdnclfakmbpaaGreatDoorDkF
import Derived.Test.YtjcdnclfakmbpaaGreatDoorDkE
import Derived.Test.YtjcdnclfakmbpaaGreatDoorMqI
import Derived.Deep.CutBlock
import Derived.Deep.CutRange
import Derived.Deep.AppendLies
namespace Go.Proofs.YtjcdnclfakmbpaaGreatDoor
open Go.RowKit Go.Sort
def Orw (B : Nat) (w : World) (v : Value) (ps : List (List Nat)) : Prop :=
  ∃ vs : List Value, w.ownsRow B 31 1 v ps.length vs ∧ ∀ (i : Nat) (p : List Nat), ps[i]? = some p → ∃ a k, vs[i]? = some (Value.slice a p.length k) ∧ w.ownsRow B 5 1 (Value.slice a p.length k) p.length (C.vals p) ∧ ∀ x ∈ p, x < 256
theorem orw_nil (B : Nat) (w : World) : Orw B w (.slice none 0 0) [] := ⟨[], ⟨rfl, Or.inl ⟨rfl, rfl⟩⟩, fun i p hp => by simp at hp⟩
theorem owns_sm2 {w w' : World} {B n s : Nat} {e : TypeId} {v : Value} {xs : List Value} (h : w.ownsRow B e s v n xs) (hk : ∀ g cur, B ≤ g → w.heap[g]? = some (.cells cur e (0, 0)) → w'.heap[g]? = w.heap[g]?) : w'.ownsRow B e s v n xs := by
  refine ⟨h.1, h.2.imp id ?_⟩
  rintro ⟨g, cap, cur, q1, q2, q3, q4⟩
  exact ⟨g, cap, cur, q1, q2, (hk g cur q2 q3).trans q3, q4⟩
theorem owns_bs2 {w : World} {B B' n s : Nat} {e : TypeId} {v : Value} {xs : List Value} (h : w.ownsRow B e s v n xs) (hb : B' ≤ B) : w.ownsRow B' e s v n xs := by
  refine ⟨h.1, h.2.imp id ?_⟩
  rintro ⟨g, cap, cur, q1, q2, q3⟩
  exact ⟨g, cap, cur, q1, Nat.le_trans hb q2, q3⟩
theorem Orw.same {B : Nat} {w w' : World} {v : Value} {ps : List (List Nat)} (h : Orw B w v ps) (hk : ∀ g, B ≤ g → g < w.heap.size → w'.heap[g]? = w.heap[g]?) : Orw B w' v ps := by
  obtain ⟨vs, h1, h2⟩ := h
  refine ⟨vs, owns_sm2 h1 (fun g cur hg hc => hk g hg (C.lt_of_block hc)), fun i p hp => ?_⟩
  obtain ⟨a, k, q1, q2, q3⟩ := h2 i p hp
  exact ⟨a, k, q1, owns_sm2 q2 (fun g cur hg hc => hk g hg (C.lt_of_block hc)), q3⟩
theorem Orw.form {B : Nat} {w : World} {v : Value} {ps : List (List Nat)} (h : Orw B w v ps) : ∃ a c, v = .slice a ps.length c := by
  obtain ⟨vs, h1, _⟩ := h
  rcases h1.2 with ⟨e1, e2⟩ | ⟨g, cap, cur, e, _⟩
  · exact ⟨none, 0, by rw [e1, e2]⟩
  · exact ⟨_, cap, e⟩
theorem Orw.add {B : Nat} {w w6 : World} {v' : Value} {ps : List (List Nat)} {vs : List Value} {p : List Nat} {a : Option Addr} {k : Nat}
    (hel : ∀ (i : Nat) (p : List Nat), ps[i]? = some p → ∃ a k, vs[i]? = some (Value.slice a p.length k) ∧ w.ownsRow B 5 1 (Value.slice a p.length k) p.length (C.vals p) ∧ ∀ x ∈ p, x < 256)
    (hvl : vs.length = ps.length) (hown : w6.ownsRow B 31 1 v' (ps.length + 1) (vs ++ [.slice a p.length k]))
    (hp : w.ownsRow B 5 1 (Value.slice a p.length k) p.length (C.vals p)) (hs : ∀ x ∈ p, x < 256) (hk : ∀ g cur, B ≤ g → w.heap[g]? = some (.cells cur 5 (0, 0)) → w6.heap[g]? = w.heap[g]?) : Orw B w6 v' (ps ++ [p]) := by
  refine ⟨vs ++ [.slice a p.length k], by simpa using hown, fun i q hq => ?_⟩
  by_cases hi : i < ps.length
  · rw [List.getElem?_append_left hi] at hq
    obtain ⟨a', k', q1, q2, q3⟩ := hel i q hq
    exact ⟨a', k', by rw [List.getElem?_append_left (by omega)]; exact q1, owns_sm2 q2 hk, q3⟩
  · have hi2 : i = ps.length := by
      have := (List.getElem?_eq_some_iff.1 hq).1
      simp at this; omega
    subst hi2
    simp at hq
    subst hq
    exact ⟨a, k, by rw [List.getElem?_append_right (by omega)]; simp [hvl], owns_sm2 hp hk, hs⟩
theorem foldl_max {n : Nat} (l : List (Nat × ByteArray)) : ∀ q, q ≤ l.foldl (fun a m => max a m.1) q ∧ (q < n → (∀ m ∈ l, m.1 < n) → l.foldl (fun a m => max a m.1) q < n) := by
  induction l with
  | nil => exact fun q => ⟨Nat.le_refl _, fun h _ => h⟩
  | cons x l ih =>
    intro q
    have h1 := ih (max q x.1)
    refine ⟨Nat.le_trans (Nat.le_max_left _ _) h1.1, fun hq hm => h1.2 ?_ (fun m hm' => hm m (List.mem_cons_of_mem _ hm'))⟩
    have := hm x (List.mem_cons_self)
    omega
theorem gonM_lt {tm : Bool} {gn n : Nat} {ms : List (Nat × ByteArray)} (hm : ∀ m ∈ ms, m.1 < n) : gonM gn tm gn ms < n ↔ gn < n := by
  have h := foldl_max (n := n) (ms.filter (goN tm gn)) gn
  unfold gonM
  exact ⟨fun hl => Nat.lt_of_le_of_lt h.1 hl, fun hl => h.2 hl (fun m hm' => hm m (List.mem_filter.1 hm').1)⟩
def tickT (L : Lk) (t : Nat) : Nat := if (decide (0 < L.row.length) || L.paced) = true then t + 1 else t
theorem Pce.tkR {L : Lk} {m t : Nat} (h : Pce L m t) : Pce (tkR L) m (tickT L t) := by
  unfold Go.Proofs.YtjcdnclfakmbpaaGreatDoor.tkR tickT
  by_cases e : (decide (0 < L.row.length) || L.paced) = true
  · rw [if_pos e, if_pos e]; exact h.tick
  · rw [if_neg e, if_neg e]; exact h
theorem tickL_same (L : Lk) : (tickL L).row = L.row ∧ (tickL L).numbered = L.numbered ∧ (tickL L).left = (tkR L).left ∧ (tickL L).gap = (tkR L).gap ∧ (tickL L).lim = (tkR L).lim := by
  have h1 : (tkR L).row = L.row ∧ (tkR L).numbered = L.numbered := by
    unfold tkR ltick; split
    · split <;> exact ⟨rfl, rfl⟩
    · exact ⟨rfl, rfl⟩
  unfold tickL bodL gonL
  split <;> exact ⟨h1.1, h1.2, rfl, rfl, rfl⟩
theorem Lcon.tick {L : Lk} (h : Lcon L) : Lcon (tickL L) := by
  have e := tickL_same L
  exact ⟨by rw [e.1, e.2.1]; exact h.p4, by rw [e.1, e.2.1]; exact h.p5⟩
theorem Pce.ticked {L : Lk} {m t : Nat} (h : Pce L m t) : Pce (tickL L) m (tickT L t) := by
  have e := tickL_same L
  have p := h.tkR
  exact ⟨by rw [e.2.2.2.2]; exact p.lim, p.m1, p.m2, by rw [e.2.2.1]; exact p.left, by rw [e.2.2.2.1]; exact p.gap⟩
theorem dkC_tkR (L : Lk) (rv : Value) (m t : Nat) : dkC (tkR L) rv m t = dkC L rv m t := by
  unfold tkR ltick dkC; split
  · split <;> rfl
  · rfl
structure E5 (w wr : World) (b : Nat) (L : Lk) (rv : Value) (m t : Nat) (v : Value) (ps : List (List Nat)) : Prop where
  db : Db wr b L rv m t
  but : C.But b w wr
  out : Orw w.heap.size wr v ps
  lt : b < w.heap.size
section
variable {w wr wd : World} {b : Nat} {L L' : Lk} {rv : Value} {m t : Nat} {v : Value} {ps : List (List Nat)}
theorem E5.below (h : E5 w wr b L rv m t v ps) (hb : Below wr.heap.size wr wd) : E5 w wd b L rv m t v ps :=
  ⟨h.db.kept (hb.block _ (C.lt_of_block h.db)), h.but.trans (C.but_of hb b), h.out.same (fun g _ hg => hb.block g hg), h.lt⟩
theorem E5.set (h : E5 w wr b L rv m t v ps) (i : Nat) (x : Value) (he : (dkC L rv m t).setIfInBounds i x = dkC L' rv m t) : E5 w (wr.setCell ⟨b, i, none⟩ x) b L' rv m t v ps := by
  have hl := h.lt
  exact ⟨h.db.set i x he, h.but.trans ((C.But.refl b wr).setCell (p := ⟨b, i, none⟩) (Or.inl rfl) x), h.out.same (fun g hg _ => Below.heap_setCell _ _ _ _ (show g ≠ b by omega)), h.lt⟩
theorem E5.byk {K : Knd} {kd kb : Nat × Nat} (h : E5 w wr b L rv m t v ps) (hkk : kd ≠ kb) (hkb : K b = kd) {sp : Option Addr} {xs : List Nat} (hx : Byk w K kb sp xs) : Bytes wr sp xs := by
  refine ⟨hx.by_.small, hx.by_.lie.imp id ?_⟩
  rintro ⟨g, o, e, hg, hc⟩
  refine ⟨g, o, e, Nat.lt_of_lt_of_le hg h.but.size, fun j hj => ?_⟩
  rw [← hc j hj]
  exact World.cell?_of_block (a := ⟨g, o + j, none⟩) (h.but.block g hg (fun e' => hkk (by rw [← hkb, ← e']; exact (hx.kind _ e).2)))
theorem E5.add (h : E5 w wr b L rv m t v ps) {vs : List Value} {p : List Nat} {a : Option Addr} {k : Nat} {w6 : World} {v' : Value} (hvl : vs.length = ps.length)
    (hel : ∀ (i : Nat) (p : List Nat), ps[i]? = some p → ∃ a k, vs[i]? = some (Value.slice a p.length k) ∧ wr.ownsRow w.heap.size 5 1 (Value.slice a p.length k) p.length (C.vals p) ∧ ∀ x ∈ p, x < 256)
    (hp : wr.ownsRow w.heap.size 5 1 (Value.slice a p.length k) p.length (C.vals p)) (hs : ∀ x ∈ p, x < 256)
    (hown : w6.ownsRow w.heap.size 31 1 v' (ps.length + 1) (vs ++ [.slice a p.length k])) (hg : (wr.alloc (.cells #[.slice a p.length k] 31)).grownBy w6 v.ownBlock) (hv : wr.ownsRow w.heap.size 31 1 v ps.length vs) : E5 w w6 b L rv m t v' (ps ++ [p]) := by
  have hl := h.lt
  have hb : ∀ g, some g ≠ v.ownBlock → g < wr.heap.size → w6.heap[g]? = wr.heap[g]? := fun g hn hlt => (hg.block g (by simp; omega) hn).trans (Below.heap_alloc _ _ _ hlt)
  have hvn : ∀ g, some g = v.ownBlock → w.heap.size ≤ g := fun g e => by
    rcases hv.2 with ⟨e1, _⟩ | ⟨g', cap, cur, e1, q, _⟩
    · rw [e1] at e; cases e
    · rw [e1] at e; cases e; exact q
  have hsz : wr.heap.size ≤ w6.heap.size := by have := hg.size; simp at this; omega
  refine ⟨h.db.kept (hb b (fun e => by have := hvn b e; omega) (C.lt_of_block h.db)), ⟨hg.os.trans h.but.os, hg.tape.trans h.but.tape, hg.output.trans h.but.output, Nat.le_trans h.but.size hsz, fun g hlt hn => (hb g (fun e => by have := hvn g e; omega) (Nat.lt_of_lt_of_le hlt h.but.size)).trans (h.but.block g hlt hn)⟩, Orw.add hel hvl hown hp hs (fun g cur hg2 hc => hb g (fun e => ?_) (C.lt_of_block hc)), h.lt⟩
  rcases hv.2 with ⟨e1, _⟩ | ⟨g', cap, cur', e1, _, q, _⟩
  · rw [e1] at e; cases e
  · rw [e1] at e; cases e
    rw [hc] at q
    simp at q
theorem E5.dk {K : Knd} {kd kb : Nat × Nat} (h : E5 w wr b L rv m t v ps) (hkk : kd ≠ kb) (hkb : K b = kd) (hr : Drow w K kb rv L.row) (hk : ∀ g, rv.ownBlock = some g → K g = kd ∧ g ≠ b) (hc : Lcon L) (hp : Pce L m t) : Dk wr (ext K w.heap.size kd) kd kb b L rv m t ∧ Kp (fun q => q = kd) K (ext K w.heap.size kd) w wr := by
  obtain ⟨vs, r1, r2⟩ := hr
  refine ⟨⟨h.db, by rw [ext_old K kd h.lt]; exact hkb, ⟨vs, r1.same (fun g hg => h.but.block g (r1.lt g hg).2 (hk g hg).2), fun j x hx => ?_⟩, fun g hg => by rw [ext_old K kd (r1.lt g hg).2]; exact (hk g hg).1, hc, hp⟩, ⟨h.but.os, h.but.tape, h.but.output, h.but.size, fun i hi => ext_old K kd hi, fun i hi hn => h.but.block i hi (fun e => hn (by rw [e]; exact hkb))⟩⟩
  obtain ⟨sp, c, q1, q2⟩ := r2 j x hx
  exact ⟨sp, c, q1, ⟨h.byk hkk hkb q2, fun a ha => ⟨Nat.lt_of_lt_of_le (q2.kind a ha).1 h.but.size, by rw [ext_old K kd (q2.kind a ha).1]; exact (q2.kind a ha).2⟩⟩⟩
end
structure DtPost (w : World) (K : Knd) (kd kb : Nat × Nat) (b : Nat) (L : Lk) (rv : Value) (m t : Nat) (w' : World) (v : Value) : Prop where
  out : Orw w.heap.size w' v (midO L)
  dk : Dk w' (ext K w.heap.size kd) kd kb b (tickL L) rv m (tickT L t)
  kp : Kp (fun q => q = kd) K (ext K w.heap.size kd) w w'
end Go.Proofs.YtjcdnclfakmbpaaGreatDoor
namespace Go.Proofs.YtjcdnclfakmbpaaGreatDoor
open Go.RowKit Go.Sort
set_option maxRecDepth 100000 in
set_option maxHeartbeats 8000000 in
theorem dtick_any (w : World) (K : Knd) (kd kb : Nat × Nat) (hkk : kd ≠ kb) (b : Nat) (L : Lk) (rv : Value) (m t : Nat) (h : Dk w K kd kb b L rv m t) (hN : L.numbered ≤ 1099511627776) (hhd : L.handed ≤ 1099511627776) (ht : t < 1000000) (hwin : 0 ≤ L.window) (hwb : L.window ≤ 1000) :
    Calls Tryz.prog 61 #[.pointer (some ⟨b, 0, none⟩)] w fun e w' => ∃ v, e = .returned v ∧ DtPost w K kd kb b L rv m t w' v := by
  obtain ⟨i1, hi1, hz10, hz11, hz12⟩ := info_parts Tryz.infoSl
  obtain ⟨q, hq⟩ : ∃ q, L.row.length = q := ⟨_, rfl⟩
  obtain ⟨ra, rc, hrv, hrc, hrm, hsome⟩ := Drow.form (w := w) (K := K) (kb := kb) (rv := rv) (row := L.row) h.row
  have hp5 := h.con.p5
  rw [hq] at hrv hrc hsome hp5
  have HQ := hide hq
  have HRv := hide hrv
  have HRow : Hid (Drow w K kb rv L.row) := h.row
  have HCon := hide h.con
  have HPc := hide h.pc
  have HKk := hide hkk
  have HKb := hide h.kind
  have HKr : Hid (∀ g, rv.ownBlock = some g → K g = kd ∧ g ≠ b) := fun g hg => ⟨h.kr g hg, fun e => h.d0.ne (by rw [hg, e])⟩
  have HHd := hide hhd
  have HTp := hide (dtick_pace w b L rv m t h.db h.pc.m1 h.pc.m2 ht)
  have HNow := hide h.pc.now
  have HDb := hide h.db
  have hlt := C.lt_of_block h.db
  have hqb : q ≤ 1099511627776 := by omega
  obtain ⟨-, -, -, -, -, l5, -, -, -, -, -, -, -, l13, lf⟩ := blk14 h.db
  rw [hrv] at l5
  clear h hq hrv hkk
  go_enter Tryz.func61, Tryz.ntmps61
  go_upto_region 2 with (fail)
  go_cut [18] from 7 to 17 (fun s18 wc => s18 = .bool (decide (0 < q) || L.paced) ∧ wc = w)
  case first =>
    by_cases h0 : 0 < q
    · have j0 : (0 : Int) < (q : Int) := by omega
      go_wp2_with fail
      go_meet
      exact ⟨by simp [h0], rfl⟩
    · have j0 : ¬ (0 : Int) < (q : Int) := by omega
      go_wp2_with fail
      go_meet
      exact ⟨by simp [h0], rfl⟩
  case rest =>
    obtain ⟨rfl, hwc⟩ := hcut
    rw [hwc]
    clear l5 l13 lf hwc
    go_upto_if 18 with (fail)
    go_cut [3] from 7 to 22 (fun s3 wx => s3 = .bool (tmL L) ∧ Hid (Db wx b (tkR L) rv m (tickT L t) ∧ C.But b w wx))
    case first =>
      by_cases hB : (decide (0 < q) || L.paced) = true
      · have e1 : tmL L = (D.it m t).now := by unfold tmL; rw [HQ.out, hB, Bool.true_and, HNow.out]
        have e2 : tickT L t = t + 1 := by unfold tickT; rw [HQ.out, if_pos hB]
        have HE1 := hide e1
        have HE2 := hide e2
        rw [hB]
        clear e1 e2 hB
        go_wp2_with fail
        refine HTp.out.mono ?_
        rintro e w2 ⟨rfl, hd2, ho2⟩
        have HD2 := hide hd2
        have HO2 := hide ho2
        clear hd2 ho2
        go_wp2_with fail
        go_meet
        refine ⟨by rw [HE1.out], hide ⟨?_, HO2.out.but⟩⟩
        have := HD2.out
        unfold Db at this ⊢
        rw [dkC_tkR, HE2.out]; exact this
      · have hB' : (decide (0 < q) || L.paced) = false := by simpa using hB
        have e1 : tmL L = false := by unfold tmL; rw [HQ.out, hB', Bool.false_and]
        have e2 : tickT L t = t := by unfold tickT; rw [HQ.out, if_neg hB]
        have HE1 := hide e1
        have HE2 := hide e2
        rw [hB']
        clear e1 e2 hB hB'
        go_wp2_with fail
        go_meet
        refine ⟨by rw [HE1.out], hide ⟨?_, C.But.refl b w⟩⟩
        have := HDb.out
        unfold Db at this ⊢
        rw [dkC_tkR, HE2.out]; exact this
    case rest =>
      obtain ⟨rfl, hc2⟩ := hcut
      have HD2 := hide hc2.out.1
      have HB2 := hide hc2.out.2
      clear hc2 HTp HDb
      obtain ⟨w2, hw2⟩ : ∃ w2, wc = w2 := ⟨_, rfl⟩
      rw [hw2] at HD2 HB2 ⊢
      clear hw2
      have HE0 : Hid (E5 w w2 b (gonL (tkR L) (tmL L) L.gone (L.row.take 0)) rv m (tickT L t) (.slice none 0 0) (outs L (tmL L) L.gone (L.row.take 0))) := ⟨HD2.out, HB2.out, orw_nil _ _, hlt⟩
      have hs := tkR_same L
      have HSm := hide hs
      obtain ⟨W, hW⟩ : ∃ W : Nat, L.window = (W : Int) := ⟨L.window.toNat, by omega⟩
      have HIn : Hid (∀ i, i ≤ q → i ≤ W → (L.known = 0 → i = 0) → (i = q ∨ i = W ∨ L.known = 0) → L.row.take i = inWin L) := fun i h1 h2 h3 h4 => by
        unfold inWin
        by_cases hk : L.known = 0
        · rw [if_pos hk, h3 hk]; rfl
        · rw [if_neg hk, hW]
          rcases h4 with e | e | e
          · rw [List.take_of_length_le (by rw [HQ.out]; omega), List.take_of_length_le (by rw [HQ.out]; simp; omega)]
          · rw [e]; rfl
          · exact absurd e hk
      have hWb : W ≤ 1000 := by omega
      clear HD2 HB2 hs
      go_upto_block 0 with (fail)
      go_cut [4] from 23 to 85 (fun s4 wd => Hid (E5 w wd b (bodL L) rv m (tickT L t) s4 (bodO L)))
      case first =>
        go_wp2_with fail
        go_loopg [4, 5] q (fun k s4 s5 wr => ∃ i : Nat, i + k = q ∧ i ≤ W ∧ s5 = .int .i64 i ∧ Hid (L.known = 0 → i = 0) ∧ Hid (E5 w wr b (gonL (tkR L) (tmL L) L.gone (L.row.take i)) rv m (tickT L t) s4 (outs L (tmL L) L.gone (L.row.take i))))
        case atStart => exact ⟨0, by omega, by omega, rfl, fun _ => rfl, HE0⟩
        case round =>
          clear HE0
          obtain ⟨i, hik, hiW, rfl, HK0, HE⟩ := hrel
          obtain ⟨G, hG⟩ : ∃ G, gonL (tkR L) (tmL L) L.gone (L.row.take i) = G := ⟨_, rfl⟩
          have g1 : G.window = (W : Int) := by rw [← hG]; exact HSm.out.1.trans hW
          have g2 : G.known = L.known := by rw [← hG]; exact HSm.out.2.1
          have g3 : G.row = L.row := by rw [← hG]; exact HSm.out.2.2.2.2.2.2.1
          have g4 : G.numbered = L.numbered := by rw [← hG]; exact (by unfold tkR ltick; split; split <;> rfl; rfl : (tkR L).numbered = L.numbered)
          have g5 : G.handed ≤ 1099511627776 := by rw [← hG]; exact (by unfold tkR ltick; split; split <;> exact HHd.out; exact HHd.out : (tkR L).handed ≤ 1099511627776)
          have g6 : ∀ n s, lfr G n s = lfr L n s := fun n s => by rw [← hG]; exact HSm.out.2.2.2.2.2.2.2 n s
          have g7 : G.gone = gonM L.gone (tmL L) L.gone (L.row.take i) := by rw [← hG]; show gonM (tkR L).gone _ _ _ = _; rw [HSm.out.2.2.1]
          have HG := hide hG
          have HG5 := hide g5
          have HG6 := hide g6
          have HG7 := hide g7
          rw [hG] at HE
          obtain ⟨-, -, -, n3, n4, n5, n6, n7, -, -, -, -, -, -, nf⟩ := blk14 HE.out.db
          have hbl := C.lt_of_block HE.out.db
          rw [g1] at n4
          rw [g2] at n3
          rw [g3, g4, HQ.out] at n6
          rw [HRv.out] at n5
          obtain ⟨F, hF⟩ : ∃ F, L.numbered - q + 1 = F := ⟨_, rfl⟩
          rw [hF] at n6
          have HFe := hide hF
          have hFb : F ≤ 1099511627777 := by omega
          clear hG g1 g2 g3 g4 g5 g6 g7 hF
          by_cases hiq : i < q
          · have j1 : (i : Int) < (q : Int) := by omega
            by_cases hiw : i < W
            · have j2 : (i : Int) < (W : Int) := by omega
              by_cases hkn : 0 < L.known
              · have j3 : (0 : Int) < (L.known : Int) := by omega
                obtain ⟨x, hx⟩ : ∃ x, L.row[i]? = some x := ⟨_, List.getElem?_eq_getElem (by rw [HQ.out]; exact hiq)⟩
                have hxn : x.1 = F + i := by
                  have := HCon.out.p4 i x hx
                  rw [HQ.out] at this
                  have := HFe.out
                  omega
                have HTk := hide (take_next hx)
                have hlow : ∀ y ∈ L.row.take i, y.1 < F + i := by
                  intro y hy
                  obtain ⟨j, hj⟩ := List.getElem?_of_mem hy
                  rw [List.getElem?_take] at hj
                  split at hj
                  · have := HCon.out.p4 j y hj
                    rw [HQ.out] at this
                    have := HFe.out
                    omega
                  · cases hj
                have hcmp : G.gone < F + i ↔ L.gone < F + i := by rw [HG7.out]; exact gonM_lt hlow
                have HGo : Hid (goN (tmL L) L.gone x = (tmL L || decide (G.gone < F + i))) := by
                  show _ = _
                  unfold goN
                  rw [hxn]
                  congr 1
                  exact decide_eq_decide.2 hcmp.symm
                have HXn := hide hxn
                obtain ⟨ro, hro⟩ : ∃ g o, ra = some ⟨g, o, none⟩ := hsome (by omega)
                obtain ⟨o, rfl⟩ := hro
                obtain ⟨vs, r1, r2⟩ := HRow.out
                obtain ⟨sp, cx, hv1, hv2⟩ := r2 i x hx
                have hcell : wr.cell? ⟨ro, o + i, none⟩ = some (.slice sp x.2.size cx) := by
                  have r1' := r1
                  rw [HRv.out, HQ.out] at r1'
                  have := r1'.cells i _ hv1
                  rw [← this]
                  exact World.cell?_of_block (a := ⟨ro, o + i, none⟩) (HE.out.but.block ro (r1.lt ro (by rw [HRv.out]; rfl)).2 (HKr.out ro (by rw [HRv.out]; rfl)).2)
                have hby := HE.out.byk HKk.out HKb.out hv2
                have HSz : Hid (w.heap.size ≤ wr.heap.size) := HE.out.but.size
                obtain ⟨p, hp⟩ : ∃ p, encB (lfr L (F + i) x.2) = p := ⟨_, rfl⟩
                have HPs : Hid (∀ y ∈ p, y < 256) := by
                  show ∀ y ∈ p, y < 256
                  rw [← hp]; exact encB_small (fun y hy => hv2.by_.small y hy)
                obtain ⟨pn, hpn⟩ : ∃ pn, p.length = pn := ⟨_, rfl⟩
                have HFr : Hid (Calls Tryz.prog 102 #[.pointer (some ⟨b, 0, none⟩), .int .u64 ((F : Int) + (i : Int)), .slice sp x.2.size cx] wr fun e w' => ∃ a cc, e = .returned (.slice a pn cc) ∧ w'.ownsRow wr.heap.size 5 1 (.slice a pn cc) pn (C.vals p) ∧ Below wr.heap.size wr w') := by
                  have h0 := dframe_any wr b G rv m (tickT L t) HE.out.db HG5.out (F + i) sp x.2.size cx x.2 hby rfl
                  rw [HG6.out, hp, show ((F + i : Nat) : Int) = (F : Int) + (i : Int) by omega] at h0
                  refine h0.mono ?_
                  rintro e w' ⟨a, q9, cc, rfl, ho, hb⟩
                  have hq9 : q9 = pn := by have := ho.1; rw [C.vals_len, hpn] at this; omega
                  subst hq9
                  exact ⟨a, cc, rfl, ho, hb⟩
                have HP := hide hp
                have HPn := hide hpn
                have HHx := hide hx
                have i2 : (0 : Int) ≤ (i : Int) := by omega
                have hFi : F + i ≤ 1099511628777 := by omega
                clear hx hxn hlow hcmp r1 r2 hv1 hv2 hby vs hp hpn
                go_upto_region 9 with (fail)
                go_cut [3, 62] from 54 to 61 (fun s3 s62 wx => s3 = .bool (tmL L) ∧ s62 = .bool (goN (tmL L) L.gone x) ∧ wx = wr)
                case first =>
                  by_cases hT : tmL L = true
                  · have e62 : goN (tmL L) L.gone x = true := by rw [HGo.out, hT]; rfl
                    have HE62 := hide e62
                    have HT := hide hT
                    rw [hT]
                    clear hT e62
                    go_wp2_with fail
                    go_meet
                    exact ⟨by rw [HT.out], by rw [HE62.out], rfl⟩
                  · have hT' : tmL L = false := by simpa using hT
                    have e62 : goN (tmL L) L.gone x = decide (G.gone < F + i) := by rw [HGo.out, hT']; rfl
                    have HE62 := hide e62
                    have HT := hide hT'
                    rw [hT']
                    clear hT e62 hT'
                    by_cases hgo : G.gone < F + i
                    · have j4 : (G.gone : Int) < (F : Int) + (i : Int) := by omega
                      go_wp2_with fail
                      go_meet
                      exact ⟨by rw [HT.out], by rw [HE62.out, decide_eq_true hgo], rfl⟩
                    · have j4 : ¬ (G.gone : Int) < (F : Int) + (i : Int) := by omega
                      go_wp2_with fail
                      go_meet
                      exact ⟨by rw [HT.out], by rw [HE62.out, decide_eq_false hgo], rfl⟩
                case rest =>
                  obtain ⟨rfl, rfl, hwx⟩ := hcut
                  rw [hwx]
                  clear hwx
                  by_cases hgn : goN (tmL L) L.gone x = true
                  · have HGy := hide hgn
                    rw [hgn]
                    clear hgn
                    obtain ⟨vs, hv, hel⟩ := HE.out.out
                    obtain ⟨pl, hpl⟩ : ∃ pl, (outs L (tmL L) L.gone (L.row.take i)).length = pl := ⟨_, rfl⟩
                    rw [hpl] at hv
                    have hplb : pl ≤ 1000 := by
                      have := outs_len L (tmL L) L.gone (L.row.take i)
                      rw [hpl] at this
                      have h2 := List.length_take_le i L.row
                      omega
                    have HV := hide hv
                    have HEl := hide hel
                    have HPl := hide hpl
                    clear hv hel hpl
                    go_wp2_with fail
                    refine HFr.out.mono ?_
                    rintro e w5 ⟨a5, c5, rfl, ho5, hb5⟩
                    have HE5 := hide (HE.out.below hb5)
                    have HO5 := hide (owns_bs2 ho5 HSz.out)
                    have HV5 : Hid (w5.ownsRow w.heap.size 31 1 u4 pl vs) := owns_sm2 HV.out (fun g cur _ hc => hb5.block g (C.lt_of_block hc))
                    have HEl5 : Hid (∀ (j : Nat) (p : List Nat), (outs L (tmL L) L.gone (L.row.take i))[j]? = some p → ∃ a k, vs[j]? = some (Value.slice a p.length k) ∧ w5.ownsRow w.heap.size 5 1 (Value.slice a p.length k) p.length (C.vals p) ∧ ∀ x ∈ p, x < 256) := fun j p hp => by
                      obtain ⟨a, k, k1, k2, k3⟩ := HEl.out j p hp
                      exact ⟨a, k, k1, owns_sm2 k2 (fun g cur _ hc => hb5.block g (C.lt_of_block hc)), k3⟩
                    have HSz5 : Hid (w.heap.size ≤ w5.heap.size) := Nat.le_trans HSz.out hb5.size
                    clear hb5 ho5 HV HEl HFr n3 n4 n5 n6 n7 nf hbl HE hcell
                    go_upto_region 11 with (at_builtin; refine wpList_append_lies _ rfl (.tmp 63) (.tmp 74) 44 rfl w.heap.size 31 i1 (.slice none 0 0) 1 24 Tryz.underlying44 hi1 hz10 hz11 hz12 rfl (by omega) u4 pl vs rfl (HV5.out.alloc _) ⟨w5.heap.size, 0, none⟩ 1 1 [.slice a5 pn c5] rfl rfl (World.news_of_block (heap_alloc_new w5 (.cells #[.slice a5 pn c5] 31))) (by simp [Value.oneCell']) (by omega) (by unfold maxLen; omega) (by omega) (by have := HSz5.out; simp; omega) _ rfl ?_; intro gl cl w6 hown6 hgrow6 hat6 hlt6; have HOw6 := hide hown6; have HGr6 := hide hgrow6; clear hown6 hgrow6 hat6 hlt6)
                    have HE6 : Hid (E5 w w6 b G rv m (tickT L t) (.slice (some ⟨gl, 0, none⟩) (pl + 1) cl) (outs L (tmL L) L.gone (L.row.take i) ++ [p])) := by
                      have ho6 := HOw6.out
                      have hg6 := HGr6.out
                      have ho := HO5.out
                      have hv := HV5.out
                      have hvl : vs.length = (outs L (tmL L) L.gone (L.row.take i)).length := by have := hv.1; rw [HPl.out]; omega
                      rw [← HPl.out] at ho6 hv ⊢
                      rw [← HPn.out] at ho6 hg6 ho
                      exact HE5.out.add hvl HEl5.out ho HPs.out ho6 hg6 hv
                    clear HOw6 HGr6 HE5 HO5 HV5 HEl5
                    obtain ⟨-, -, -, -, -, -, -, n7, -, -, -, -, -, -, nf⟩ := blk14 HE6.out.db
                    have hbl := C.lt_of_block HE6.out.db
                    by_cases hgo : G.gone < F + i
                    · have j4 : (G.gone : Int) < (F : Int) + (i : Int) := by omega
                      have HEn : Hid (E5 w (w6.setCell ⟨b, 7, none⟩ (.int .u64 ((F : Int) + (i : Int)))) b (gonL (tkR L) (tmL L) L.gone (L.row.take (i + 1))) rv m (tickT L t) (.slice (some ⟨gl, 0, none⟩) (pl + 1) cl) (outs L (tmL L) L.gone (L.row.take (i + 1)))) := by
                        show E5 _ _ _ _ _ _ _ _ _
                        rw [HTk.out, outs_yes HGy.out, gonL_yes HGy.out, HG.out, HXn.out, HP.out]
                        refine HE6.out.set 7 _ ?_
                        rw [Nat.max_eq_right (by omega)]
                        rw [show ((F : Int) + (i : Int)) = ((F + i : Nat) : Int) by omega]
                        rfl
                      have HK1 : Hid (L.known = 0 → i + 1 = 0) := fun e => by omega
                      go_wp2
                      go_roundg (gk - 1)
                      case measure => omega
                      case rel => exact ⟨i + 1, by omega, by omega, by go_num, HK1, HEn⟩
                    · have j4 : ¬ (G.gone : Int) < (F : Int) + (i : Int) := by omega
                      have HEn : Hid (E5 w w6 b (gonL (tkR L) (tmL L) L.gone (L.row.take (i + 1))) rv m (tickT L t) (.slice (some ⟨gl, 0, none⟩) (pl + 1) cl) (outs L (tmL L) L.gone (L.row.take (i + 1)))) := by
                        show E5 _ _ _ _ _ _ _ _ _
                        rw [HTk.out, outs_yes HGy.out, gonL_yes HGy.out, HG.out, HXn.out, HP.out]
                        rw [Nat.max_eq_left (by omega)]
                        exact HE6.out
                      have HK1 : Hid (L.known = 0 → i + 1 = 0) := fun e => by omega
                      go_wp2
                      go_roundg (gk - 1)
                      case measure => omega
                      case rel => exact ⟨i + 1, by omega, by omega, by go_num, HK1, HEn⟩
                  · have hgn' : goN (tmL L) L.gone x = false := by simpa using hgn
                    have HEn : Hid (E5 w wr b (gonL (tkR L) (tmL L) L.gone (L.row.take (i + 1))) rv m (tickT L t) u4 (outs L (tmL L) L.gone (L.row.take (i + 1)))) := by
                      show E5 _ _ _ _ _ _ _ _ _
                      rw [HTk.out, outs_no hgn', gonL_no hgn', HG.out]
                      exact HE.out
                    have HK1 : Hid (L.known = 0 → i + 1 = 0) := fun e => by omega
                    rw [hgn']
                    clear hgn hgn'
                    go_wp2
                    go_roundg (gk - 1)
                    case measure => omega
                    case rel => exact ⟨i + 1, by omega, by omega, by go_num, HK1, HEn⟩
              · have j3 : ¬ (0 : Int) < (L.known : Int) := by omega
                have e := HIn.out i (by omega) hiW HK0.out (Or.inr (Or.inr (by omega)))
                have HEx : Hid (E5 w wr b (bodL L) rv m (tickT L t) u4 (bodO L)) := by
                  show E5 _ _ _ _ _ _ _ _ _
                  unfold bodL bodO
                  rw [← e, HG.out]; exact HE.out
                clear e
                go_wp2
                go_meet
                exact HEx
            · have j2 : ¬ (i : Int) < (W : Int) := by omega
              have e := HIn.out i (by omega) hiW HK0.out (Or.inr (Or.inl (by omega)))
              have HEx : Hid (E5 w wr b (bodL L) rv m (tickT L t) u4 (bodO L)) := by
                show E5 _ _ _ _ _ _ _ _ _
                unfold bodL bodO
                rw [← e, HG.out]; exact HE.out
              clear e
              go_wp2
              go_meet
              exact HEx
          · have j1 : ¬ (i : Int) < (q : Int) := by omega
            have e := HIn.out i (by omega) hiW HK0.out (Or.inl (by omega))
            have HEx : Hid (E5 w wr b (bodL L) rv m (tickT L t) u4 (bodO L)) := by
              show E5 _ _ _ _ _ _ _ _ _
              unfold bodL bodO
              rw [← e, HG.out]; exact HE.out
            clear e
            go_wp2
            go_meet
            exact HEx
      case rest =>
        have HE := hide hcut.out
        obtain ⟨w3, hw3⟩ : ∃ w3, wc = w3 := ⟨_, rfl⟩
        rw [hw3] at HE ⊢
        clear hw3 hcut HE0 HIn
        obtain ⟨oa, oc, hoe⟩ := HE.out.out.form
        obtain ⟨ol, hol⟩ : ∃ ol, (bodO L).length = ol := ⟨_, rfl⟩
        rw [hol] at hoe
        subst hoe
        have HOl := hide hol
        have holb : ol ≤ 1000 := by
          rw [← hol]
          have h1 := outs_len L (tmL L) L.gone (inWin L)
          have h2 : (inWin L).length ≤ W := by
            unfold inWin; split
            · simp
            · rw [hW]; have := List.length_take_le W L.row; simpa using this
          unfold bodO
          omega
        have hbs := bodL_same L
        have HBs := hide hbs
        have hbh : (bodL L).handed ≤ 1099511627776 := (by unfold tkR ltick; split; split <;> exact HHd.out; exact HHd.out : (tkR L).handed ≤ 1099511627776)
        have HBh := hide hbh
        obtain ⟨-, -, -, -, -, -, -, -, -, -, -, n11, n12, n13, nf⟩ := blk14 HE.out.db
        rw [hbs.1] at n11
        rw [hbs.2.1] at n12
        rw [hbs.2.2.1] at n13
        have hbl := C.lt_of_block HE.out.db
        clear hbs hbh hol
        go_upto_region 13 with (fail)
        go_cut [3, 4, 109] from 86 to 108 (fun s3 s4 s109 wx => s3 = .bool (tmL L) ∧ s4 = .slice oa ol oc ∧ s109 = .bool (decide (ol = 0) && sayL L) ∧ wx = w3)
        case first =>
          have HSay : Hid (sayL L = (L.ack || (L.asked || (L.paced && tmL L)))) := rfl
          by_cases h0 : ol = 0
          · have e0 : ((ol : Int) == 0) = true := by simp [h0]
            have HD0 : Hid (decide (ol = 0) = true) := decide_eq_true h0
            clear h0
            obtain ⟨A, hA⟩ : ∃ A, L.ack = A := ⟨_, rfl⟩
            obtain ⟨S, hS⟩ : ∃ S, L.asked = S := ⟨_, rfl⟩
            obtain ⟨P, hP⟩ : ∃ P, L.paced = P := ⟨_, rfl⟩
            obtain ⟨T, hT⟩ : ∃ T, tmL L = T := ⟨_, rfl⟩
            rw [hA] at n11
            rw [hS] at n12
            rw [hP] at n13
            rw [hA, hS, hP, hT] at HSay
            have HT := hide hT
            rw [hT]
            clear hA hS hP hT
            cases A <;> cases S <;> cases P <;> cases T <;> (go_wp2_with fail; go_meet; exact ⟨by rw [HT.out], rfl, by rw [HD0.out, HSay.out]; rfl, rfl⟩)
          · have e0 : ((ol : Int) == 0) = false := by simp; omega
            have HD0 : Hid (decide (ol = 0) = false) := decide_eq_false h0
            clear h0
            go_wp2_with fail
            go_meet
            exact ⟨rfl, rfl, by rw [HD0.out, Bool.false_and], rfl⟩
        case rest =>
          obtain ⟨rfl, rfl, rfl, hwx⟩ := hcut
          rw [hwx]
          clear hwx n11 n12 n13 nf hbl
          go_upto_if 109 with (fail)
          go_cut [4] from 86 to 114 (fun s4 wx => Hid (E5 w wx b (bodL L) rv m (tickT L t) s4 (midO L)))
          case first =>
            by_cases hB : (decide (ol = 0) && sayL L) = true
            · have h0 : ol = 0 := by have := (Bool.and_eq_true_iff.1 hB).1; exact of_decide_eq_true this
              have hs : sayL L = true := (Bool.and_eq_true_iff.1 hB).2
              have hb0 : bodO L = [] := List.eq_nil_of_length_eq_zero (by rw [HOl.out, h0])
              obtain ⟨p, hp⟩ : ∃ p, encB (lfr L 0 ⟨#[]⟩) = p := ⟨_, rfl⟩
              have HMid : Hid (midO L = bodO L ++ [p]) := by show _ = _; unfold midO; rw [if_pos hb0, if_pos hs, hb0, hp]; rfl
              have HPs : Hid (∀ y ∈ p, y < 256) := by
                show ∀ y ∈ p, y < 256
                rw [← hp]; exact encB_small (fun y hy => by simp [lfr, nums] at hy)
              obtain ⟨pn, hpn⟩ : ∃ pn, p.length = pn := ⟨_, rfl⟩
              have HFr : Hid (Calls Tryz.prog 102 #[.pointer (some ⟨b, 0, none⟩), .int .u64 0, .slice none 0 0] w3 fun e w' => ∃ a cc, e = .returned (.slice a pn cc) ∧ w'.ownsRow w3.heap.size 5 1 (.slice a pn cc) pn (C.vals p) ∧ Below w3.heap.size w3 w') := by
                have h0 := dframe_any w3 b (bodL L) rv m (tickT L t) HE.out.db HBh.out 0 none 0 0 ⟨#[]⟩ ⟨fun y hy => by simp [nums] at hy, Or.inl rfl⟩ rfl
                rw [HBs.out.2.2.2.2, hp] at h0
                refine h0.mono ?_
                rintro e w' ⟨a, q9, cc, rfl, ho, hb⟩
                have hq9 : q9 = pn := by have := ho.1; rw [C.vals_len, hpn] at this; omega
                subst hq9
                exact ⟨a, cc, rfl, ho, hb⟩
              have HPn := hide hpn
              obtain ⟨vs, hv, hel⟩ := HE.out.out
              rw [HOl.out] at hv
              have HV := hide hv
              have HEl := hide hel
              have HSz : Hid (w.heap.size ≤ w3.heap.size) := HE.out.but.size
              rw [hB]
              clear hv hel hp hpn hB h0 hs hb0
              go_wp2_with fail
              refine HFr.out.mono ?_
              rintro e w5 ⟨a5, c5, rfl, ho5, hb5⟩
              have HE5 := hide (HE.out.below hb5)
              have HO5 := hide (owns_bs2 ho5 HSz.out)
              have HV5 : Hid (w5.ownsRow w.heap.size 31 1 (.slice oa ol oc) ol vs) := owns_sm2 HV.out (fun g cur _ hc => hb5.block g (C.lt_of_block hc))
              have HEl5 : Hid (∀ (j : Nat) (p : List Nat), (bodO L)[j]? = some p → ∃ a k, vs[j]? = some (Value.slice a p.length k) ∧ w5.ownsRow w.heap.size 5 1 (Value.slice a p.length k) p.length (C.vals p) ∧ ∀ x ∈ p, x < 256) := fun j p hp => by
                obtain ⟨a, k, k1, k2, k3⟩ := HEl.out j p hp
                exact ⟨a, k, k1, owns_sm2 k2 (fun g cur _ hc => hb5.block g (C.lt_of_block hc)), k3⟩
              have HSz5 : Hid (w.heap.size ≤ w5.heap.size) := Nat.le_trans HSz.out hb5.size
              clear hb5 ho5 HV HEl HFr HE
              go_wp2_with (at_builtin; refine wpList_append_lies _ rfl (.tmp 110) (.tmp 113) 44 rfl w.heap.size 31 i1 (.slice none 0 0) 1 24 Tryz.underlying44 hi1 hz10 hz11 hz12 rfl (by omega) (.slice oa ol oc) ol vs rfl (HV5.out.alloc _) ⟨w5.heap.size, 0, none⟩ 1 1 [.slice a5 pn c5] rfl rfl (World.news_of_block (heap_alloc_new w5 (.cells #[.slice a5 pn c5] 31))) (by simp [Value.oneCell']) (by omega) (by unfold maxLen; omega) (by omega) (by have := HSz5.out; simp; omega) _ rfl ?_; intro gl cl w6 hown6 hgrow6 hat6 hlt6; have HOw6 := hide hown6; have HGr6 := hide hgrow6; clear hown6 hgrow6 hat6 hlt6)
              go_meet
              show Hid (E5 _ _ _ _ _ _ _ _ _)
              refine hide ?_
              rw [HMid.out]
              have ho6 := HOw6.out
              have hg6 := HGr6.out
              have ho := HO5.out
              have hv := HV5.out
              have hvl : vs.length = (bodO L).length := by have := hv.1; rw [HOl.out]; omega
              rw [← HOl.out] at ho6 hv ⊢
              rw [← HPn.out] at ho6 hg6 ho
              have h5 : E5 w w5 b (bodL L) rv m (tickT L t) (.slice oa (bodO L).length oc) (bodO L) := by rw [HOl.out]; exact HE5.out
              exact h5.add hvl HEl5.out ho HPs.out ho6 (by rw [← HOl.out] at hg6; exact hg6) hv
            · have hB' : (decide (ol = 0) && sayL L) = false := by simpa using hB
              have HMid : Hid (midO L = bodO L) := by
                show _ = _
                unfold midO
                by_cases hb0 : bodO L = []
                · have h0 : ol = 0 := by rw [← HOl.out, hb0]; rfl
                  have hs : sayL L = false := by rw [decide_eq_true h0, Bool.true_and] at hB'; exact hB'
                  rw [if_pos hb0, hs, hb0]; rfl
                · rw [if_neg hb0]
              rw [hB']
              clear hB hB'
              go_wp2_with fail
              go_meet
              show Hid (E5 _ _ _ _ _ _ _ _ _)
              rw [HMid.out]
              exact HE
          case rest =>
            have HE4 := hide hcut.out
            obtain ⟨w4, hw4⟩ : ∃ w4, wc = w4 := ⟨_, rfl⟩
            rw [hw4] at HE4 ⊢
            clear hw4 hcut HE
            obtain ⟨ma, mc, hme⟩ := HE4.out.out.form
            obtain ⟨ml, hml⟩ : ∃ ml, (midO L).length = ml := ⟨_, rfl⟩
            rw [hml] at hme
            subst hme
            obtain ⟨-, -, -, -, -, -, -, -, -, -, -, n11, n12, -, nf⟩ := blk14 HE4.out.db
            have hbl := C.lt_of_block HE4.out.db
            have HRw2 : Hid (Drow w K kb rv (tickL L).row) := by show Drow _ _ _ _ _; rw [(tickL_same L).1]; exact HRow.out
            by_cases h0 : 0 < ml
            · have j0 : (0 : Int) < (ml : Int) := by omega
              have hne : midO L ≠ [] := fun e => by rw [e] at hml; simp at hml; omega
              have HTl : Hid (tickL L = { bodL L with ack := false, asked := false }) := by show _ = _; unfold tickL; rw [if_neg hne]
              have HE6 := hide ((HE4.out.set (L' := { bodL L with ack := false }) 11 (.bool false) rfl).set (L' := { bodL L with ack := false, asked := false }) 12 (.bool false) rfl)
              rw [← HTl.out] at HE6
              have HDk := hide (HE6.out.dk HKk.out HKb.out HRw2.out HKr.out HCon.out.tick HPc.out.ticked)
              clear h0 hne hml
              go_wp2
              go_ret
              exact ⟨_, rfl, HE6.out.out, HDk.out.1, HDk.out.2⟩
            · have j0 : ¬ (0 : Int) < (ml : Int) := by omega
              have hne : midO L = [] := List.eq_nil_of_length_eq_zero (by omega)
              have HTl : Hid (tickL L = bodL L) := by show _ = _; unfold tickL; rw [if_pos hne]
              have HE6 := HE4
              rw [← HTl.out] at HE6
              have HDk := hide (HE6.out.dk HKk.out HKb.out HRw2.out HKr.out HCon.out.tick HPc.out.ticked)
              clear h0 hne hml
              go_wp2
              go_ret
              exact ⟨_, rfl, HE6.out.out, HDk.out.1, HDk.out.2⟩
end Go.Proofs.YtjcdnclfakmbpaaGreatDoor
