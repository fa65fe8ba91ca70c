import Derived.Test.YtjcdnclfakmbpaaGreatDoorMqC
import Derived.Test.YtjcdnclfakmbpaaGreatDoorMbB
namespace Go.Proofs.YtjcdnclfakmbpaaGreatDoor
open Go.RowKit
def inWin (L : Lk) : List (Nat × ByteArray) := if L.known = 0 then [] else L.row.take L.window.toNat
theorem msv_get (ms : List (Nat × ByteArray)) : ∀ (j : Nat) (m : Nat × ByteArray), ms[j]? = some m → (msv ms)[j * 2]? = some (.int .u64 (m.1 : Int)) ∧ (msv ms)[j * 2 + 1]? = some (.string m.2) := by
  induction ms with
  | nil => intro j m h; simp at h
  | cons x ms ih =>
    intro j m h
    cases j with
    | zero => simp at h; subst h; exact ⟨rfl, rfl⟩
    | succ j =>
      have := ih j m (by simpa using h)
      rw [show (j + 1) * 2 = j * 2 + 2 by omega, show j * 2 + 2 + 1 = j * 2 + 1 + 2 by omega]
      exact ⟨by simpa [msv] using this.1, by simpa [msv] using this.2⟩
theorem Lw.ms {w : World} {b : Nat} {L : Lk} {g o c : Nat} (h : Lw w b L (.slice (some ⟨g, o, none⟩) L.row.length c)) : Ms w g o L.row ∧ L.row.length ≤ c ∧ g ≠ b := by
  have hc := h.row.cells
  refine ⟨⟨(h.row.lt g rfl).2, fun j m hm => hc _ _ (msv_get _ j m hm).1, fun j m hm => ?_⟩, ?_, fun e => h.ne (by rw [← e]; rfl)⟩
  · have := hc _ _ (msv_get _ j m hm).2
    rw [Nat.add_assoc]
    exact this
  · rcases h.row.2 with ⟨e, _⟩ | ⟨g', o', cap, cur, e, _, _, h4, _⟩
    · cases e
    · cases e; exact h4
theorem bodies_all (w : World) (b : Nat) (L : Lk) (rv : Value) (tb gb : Nat) (tm : Bool) (gn : Nat) (h : Lw w b L rv) (hwin : 0 ≤ L.window)
    (ht : w.heap[tb]? = some (.cells #[.bool tm] 4 (0, 0))) (htb : tb ≠ b) (hgo : w.heap[gb]? = some (.cells #[.int .u64 (gn : Int)] 22 (0, 0))) (hgb : gb ≠ b) (hT : C.Tab w) (hb0 : 0 < b) (hlen : L.row.length ≤ 1099511627776) :
    Calls Tryz.prog 37 #[.pointer (some ⟨b, 0, none⟩), .func (.func 38) #[] #[.pointer (some ⟨tb, 0, none⟩), .pointer (some ⟨gb, 0, none⟩)]] w fun e w' => ∃ a cc q, e = .returned (.slice a q cc) ∧ Bd w w' b L rv tm gn a cc q (inWin L) := by
  by_cases hk : L.known = 0
  · have hi : inWin L = [] := by unfold inWin; rw [if_pos hk]
    rw [hi]
    refine (bodies_none w b L rv h.lb hk _).mono ?_
    rintro e w' ⟨rfl, rfl⟩
    exact ⟨none, 0, 0, rfl, h.lb, C.But.refl _ _, orow_nil _ _, rfl⟩
  · have hi : inWin L = L.row.take L.window.toNat := by unfold inWin; rw [if_neg hk]
    rw [hi]
    obtain ⟨a, c, hrv⟩ := h.form
    subst hrv
    cases a with
    | none =>
      have h0 : L.row.length = 0 ∧ c = 0 := by
        rcases h.row.2 with ⟨e, e2⟩ | ⟨_, _, _, _, e, _⟩
        · injection e with _ _ e3; exact ⟨e2, e3⟩
        · cases e
      have hr : L.row = [] := List.eq_nil_of_length_eq_zero h0.1
      have hl : Lb w b L (.slice none 0 0) := by have := h.lb; rw [h0.1, h0.2] at this; exact this
      refine (bodies_nil w b L hwin hl (by omega) _).mono ?_
      rintro e w' ⟨rfl, hb⟩
      rw [hr, List.take_nil, h0.2]
      exact ⟨none, 0, 0, rfl, hl.below hb, C.but_of hb b, orow_nil _ _, rfl⟩
    | some ad =>
      have hf : ∃ g o, ad = ⟨g, o, none⟩ := by
        rcases h.row.2 with ⟨e, _⟩ | ⟨g, o, _, _, e, _⟩
        · cases e
        · cases e; exact ⟨g, o, rfl⟩
      obtain ⟨g, o, rfl⟩ := hf
      obtain ⟨h1, h2, h3⟩ := h.ms
      exact bodies_any w b L g o c tb gb tm gn L.row h.lb h1 h2 h3 hwin (by omega) ht htb hgo hgb hT hb0 hlen
end Go.Proofs.YtjcdnclfakmbpaaGreatDoor
namespace Go.Proofs.YtjcdnclfakmbpaaGreatDoor
open Go.RowKit
def tmL (L : Lk) : Bool := (decide (0 < L.row.length) || L.paced) && lnow L
def tkR (L : Lk) : Lk := if (decide (0 < L.row.length) || L.paced) = true then ltick L else L
def bodO (L : Lk) : List (List Nat) := outs L (tmL L) L.gone (inWin L)
def bodL (L : Lk) : Lk := gonL (tkR L) (tmL L) L.gone (inWin L)
def sayL (L : Lk) : Bool := L.ack || (L.asked || (L.paced && tmL L))
def midO (L : Lk) : List (List Nat) := if bodO L = [] then (if sayL L = true then [encB (lfr L 0 ⟨#[]⟩)] else []) else bodO L
def tickL (L : Lk) : Lk := if midO L = [] then bodL L else { bodL L with ack := false, asked := false }
theorem tkR_same (L : Lk) : (tkR L).window = L.window ∧ (tkR L).known = L.known ∧ (tkR L).gone = L.gone ∧ (tkR L).ack = L.ack ∧ (tkR L).asked = L.asked ∧ (tkR L).paced = L.paced ∧ (tkR L).row = L.row ∧ ∀ n s, lfr (tkR L) n s = lfr L n s := by
  unfold tkR ltick lfr; split
  · split <;> exact ⟨rfl, rfl, rfl, rfl, rfl, rfl, rfl, fun _ _ => rfl⟩
  · exact ⟨rfl, rfl, rfl, rfl, rfl, rfl, rfl, fun _ _ => rfl⟩
theorem outs_tkR (L : Lk) (tm : Bool) (gn : Nat) (ms : List (Nat × ByteArray)) : outs (tkR L) tm gn ms = outs L tm gn ms := by
  unfold outs
  congr 1
  funext m
  rw [(tkR_same L).2.2.2.2.2.2.2]
theorem inWin_tkR (L : Lk) : inWin (tkR L) = inWin L := by
  have := tkR_same L
  unfold inWin; rw [this.2.1, this.2.2.2.2.2.2.1, this.1]
structure TickPost (w : World) (b : Nat) (L : Lk) (rv : Value) (w' : World) (a : Option Addr) (cc q : Nat) : Prop where
  row : Orow w.heap.size w' a cc (midO L)
  len : (midO L).length = q
  lw : Lw w' b (tickL L) rv
  but : C.But b w w'
structure Tk2 (w wc : World) (b tb : Nat) (T : Lk) (tm : Bool) (rv : Value) : Prop where
  lb : Lb wc b T rv
  tim : wc.heap[tb]? = some (.cells #[.bool tm] 4 (0, 0))
  but : C.But b w wc
  ne : tb ≠ b
theorem Tk2.below {w wc wd : World} {b tb : Nat} {T : Lk} {tm : Bool} {rv : Value} (h : Tk2 w wc b tb T tm rv) (hb : Below wc.heap.size wc wd) : Tk2 w wd b tb T tm rv :=
  ⟨h.lb.below hb, (hb.block tb (C.lt_of_block h.tim)).trans h.tim, h.but.trans (C.but_of hb b), h.ne⟩
structure Tk3 (w wd : World) (b : Nat) (L : Lk) (rv : Value) (a : Option Addr) (cc q : Nat) (ps : List (List Nat)) : Prop where
  lb : Lb wd b (bodL L) rv
  but : C.But b w wd
  row : Orow w.heap.size wd a cc ps
  len : ps.length = q
theorem Orow.mono {B B' : Nat} {w : World} {a : Option Addr} {c : Nat} {ps : List (List Nat)} (h : Orow B w a c ps) (hB : B' ≤ B) : Orow B' w a c ps := by
  obtain ⟨vs, h1, h2⟩ := h
  refine ⟨vs, ⟨h1.1, h1.2.imp id ?_⟩, fun i p hp => ?_⟩
  · rintro ⟨g, cap, cur, e1, e2, r⟩
    exact ⟨g, cap, cur, e1, Nat.le_trans hB e2, r⟩
  · obtain ⟨sp, q1, q2, q3⟩ := h2 i p hp
    exact ⟨sp, q1, mine_mono q2 hB, q3⟩
theorem bodL_same (L : Lk) : (bodL L).ack = L.ack ∧ (bodL L).asked = L.asked ∧ (bodL L).paced = L.paced ∧ (bodL L).row = L.row ∧ ∀ n s, lfr (bodL L) n s = lfr L n s := by
  have := tkR_same L
  exact ⟨this.2.2.2.1, this.2.2.2.2.1, this.2.2.2.2.2.1, this.2.2.2.2.2.2.1, fun n s => this.2.2.2.2.2.2.2 n s⟩
set_option maxRecDepth 100000 in
set_option maxHeartbeats 4000000 in
theorem tick_any (w : World) (b : Nat) (L : Lk) (rv : Value) (h : Lw w b L rv) (hw : 0 ≤ L.window) (ho : L.Pok) (hT : C.Tab w) (hb0 : 0 < b) (hlen : L.row.length ≤ 1099511627776) :
    Calls Tryz.prog 16 #[.pointer (some ⟨b, 0, none⟩)] w fun e w' => ∃ a cc q, e = .returned (.slice a q cc) ∧ TickPost w b L rv w' a cc q := by
  obtain ⟨ar, cr, hrv⟩ := h.form
  obtain ⟨q0, hq0⟩ : ∃ q0, L.row.length = q0 := ⟨_, rfl⟩
  have hlb0 := h.lb
  rw [hrv, hq0] at hlb0
  have HR := hide (rlen_any w b L ar q0 cr hlb0)
  have HLw := hide h
  have HL := hide h.lb
  have HT := hide hT
  have HPk := hide ho
  have hlt := C.lt_of_block h.lb
  obtain ⟨tm, htm⟩ : ∃ tm, tmL L = tm := ⟨_, rfl⟩
  have HTm := hide htm
  have HTk := hide (tkR_same L)
  have HQ0 := hide hq0
  have Hlen := hide hlen
  clear h hT htm ho hrv hlb0 hq0 hlen
  go_enter Tryz.func16, Tryz.ntmps16
  go_upto_region 1 with (fail)
  go_cut [3] from 6 to 23 (fun s3 wc => ∃ tb, s3 = .pointer (some ⟨tb, 0, none⟩) ∧ Hid (Tk2 w wc b tb (tkR L) tm rv))
  case first =>
    obtain ⟨-, -, -, -, -, -, -, -, -, -, -, -, -, -, c14, -⟩ := blk15 HL.out
    have HP0 := hide (ptick_any w b L rv HL.out HPk.out)
    by_cases hq : 0 < q0
    · have i1 : (0 : Int) < (q0 : Int) := by omega
      have hn : lnow L = tm := by rw [← HTm.out]; unfold tmL; rw [HQ0.out, decide_eq_true hq]; simp
      have ht : tkR L = ltick L := by unfold tkR; rw [HQ0.out, decide_eq_true hq]; simp
      rw [hn, ← ht] at HP0
      clear hn ht
      go_wp2_with fail
      refine HR.out.mono ?_
      rintro e w1 ⟨rfl, rfl⟩
      go_wp2_with fail
      refine HP0.out.mono ?_
      rintro e w2 ⟨rfl, hl2, ho2⟩
      have HL2 := hide hl2
      have HO2 := hide ho2
      clear hl2 ho2
      go_wp2_with fail
      go_meet
      have hb3 : Below w2.heap.size w2 (w2.alloc (.cells #[.bool tm] 4)) := (Below.refl _ _).alloc (Nat.le_refl _) _
      exact ⟨_, rfl, hide ⟨HL2.out.below hb3, heap_alloc_new _ _, HO2.out.but.trans (C.but_of hb3 b), by have := C.lt_of_block HL2.out; omega⟩⟩
    · obtain rfl : q0 = 0 := by omega
      cases hp : L.paced with
      | true =>
        rw [hp] at c14
        have hn : lnow L = tm := by rw [← HTm.out]; unfold tmL; rw [hp]; simp
        have ht : tkR L = ltick L := by unfold tkR; rw [hp]; simp
        rw [hn, ← ht] at HP0
        clear hn ht
        go_wp2_with fail
        refine HR.out.mono ?_
        rintro e w1 ⟨rfl, rfl⟩
        go_wp2_with fail
        refine HP0.out.mono ?_
        rintro e w2 ⟨rfl, hl2, ho2⟩
        have HL2 := hide hl2
        have HO2 := hide ho2
        clear hl2 ho2
        go_wp2_with fail
        go_meet
        have hb3 : Below w2.heap.size w2 (w2.alloc (.cells #[.bool tm] 4)) := (Below.refl _ _).alloc (Nat.le_refl _) _
        exact ⟨_, rfl, hide ⟨HL2.out.below hb3, heap_alloc_new _ _, HO2.out.but.trans (C.but_of hb3 b), by have := C.lt_of_block HL2.out; omega⟩⟩
      | false =>
        rw [hp] at c14
        have hn : tm = false := by rw [← HTm.out]; unfold tmL; rw [hp, HQ0.out]; rfl
        have ht : tkR L = L := by unfold tkR; rw [hp, HQ0.out]; rfl
        subst hn
        go_wp2_with fail
        refine HR.out.mono ?_
        rintro e w1 ⟨rfl, rfl⟩
        go_wp2_with fail
        go_meet
        have hb3 : Below w1.heap.size w1 (w1.alloc (.cells #[.bool false] 4)) := (Below.refl _ _).alloc (Nat.le_refl _) _
        exact ⟨_, rfl, hide ⟨by rw [ht]; exact HL.out.below hb3, heap_alloc_new _ _, C.but_of hb3 b, by omega⟩⟩
  case rest =>
    obtain ⟨tb, rfl, HK⟩ := hcut
    obtain ⟨-, -, -, -, -, -, -, c7, -⟩ := blk15 HK.out.lb
    have htb := C.lt_of_block HK.out.tim
    go_wp2_with fail
    have hb3 : Below wc.heap.size wc (wc.alloc (.cells #[.int .u64 ((tkR L).gone : Int)] 22)) := (Below.refl _ _).alloc (Nat.le_refl _) _
    have hK3 := HK.out.below hb3
    have hlw3 : Lw (wc.alloc (.cells #[.int .u64 ((tkR L).gone : Int)] 22)) b (tkR L) rv := HLw.out.but hK3.but hK3.lb HTk.out.2.2.2.2.2.2.1
    have hbc := C.lt_of_block HK.out.lb
    have hTc : C.Tab (wc.alloc (.cells #[.int .u64 ((tkR L).gone : Int)] 22)) := fun j hj => by
      have hpos := HT.out.pos
      rw [World.cell?_of_block (w := w) (a := ⟨0, j, none⟩) (hK3.but.block 0 hpos (by omega))]; exact HT.out j hj
    refine (bodies_all _ b (tkR L) rv tb wc.heap.size tm (tkR L).gone hlw3 (by rw [HTk.out.1]; exact hw) hK3.tim hK3.ne (heap_alloc_new _ _) (by omega) hTc hb0 (by rw [HTk.out.2.2.2.2.2.2.1]; exact Hlen.out)).mono ?_
    rintro e w4 ⟨a, cc, q, rfl, hbd⟩
    have hM : Tk3 w w4 b L rv a cc q (bodO L) := by
      have h1 := hbd.lb
      have h2 := hbd.row
      have h3 := hbd.len
      have hsz := hK3.but.size
      rw [HTk.out.2.2.1] at hsz
      rw [HTk.out.2.2.1, inWin_tkR, ← HTm.out] at h1
      rw [HTk.out.2.2.1, inWin_tkR, ← HTm.out, outs_tkR] at h2 h3
      exact ⟨h1, hK3.but.trans hbd.but, h2.mono hsz, h3⟩
    have htim : w4.heap[tb]? = _ := (hbd.but.block tb (C.lt_of_block hK3.tim) hK3.ne).trans hK3.tim
    have HM := hide hM
    clear hb3 hK3 hlw3 hTc hbd hM c7 htb HK HR hbc
    obtain ⟨-, -, -, -, -, -, -, -, -, c9, -, -, -, c13, c14, -⟩ := blk15 HM.out.lb
    have HBs := hide (bodL_same L)
    rw [HBs.out.1] at c9
    rw [HBs.out.2.1] at c13
    rw [HBs.out.2.2.1] at c14
    have t0 : w4.cell? ⟨tb, 0, none⟩ = some (.bool tm) := by simp [World.cell?, htim]
    clear htim
    have HSy : Hid (sayL L = (L.ack || (L.asked || (L.paced && tm)))) := by
      show _ = _
      unfold sayL
      rw [HTm.out]
    go_upto_region 4 with (fail)
    go_cut [56] from 32 to 55 (fun s56 wd => s56 = .bool (decide (q = 0) && sayL L) ∧ Hid (wd = w4))
    case first =>
      by_cases hq : q = 0
      · subst hq
        cases ha : L.ack with
        | true =>
          rw [ha] at c9
          go_wp2_with fail
          go_meet
          exact ⟨by rw [HSy.out, ha]; rfl, rfl⟩
        | false =>
          rw [ha] at c9
          cases hs : L.asked with
          | true =>
            rw [hs] at c13
            go_wp2_with fail
            go_meet
            exact ⟨by rw [HSy.out, ha, hs]; rfl, rfl⟩
          | false =>
            rw [hs] at c13
            cases hp : L.paced with
            | true =>
              rw [hp] at c14
              go_wp2_with fail
              go_meet
              exact ⟨by rw [HSy.out, ha, hs, hp]; cases tm <;> rfl, rfl⟩
            | false =>
              rw [hp] at c14
              go_wp2_with fail
              go_meet
              exact ⟨by rw [HSy.out, ha, hs, hp]; rfl, rfl⟩
      · have hzb : ((q : Int) == 0) = false := by simpa using hq
        have HD : Hid (decide (q = 0) = false) := decide_eq_false hq
        clear hq
        go_wp2_with fail
        go_meet
        exact ⟨by rw [HD.out]; rfl, rfl⟩
    case rest =>
      obtain ⟨rfl, hwc⟩ := hcut
      rename World => wd
      have hwc' : wd = w4 := hwc
      subst hwc'
      clear c9 c13 c14 t0 hwc HSy HTk HTm
      have HLn : Hid ((bodO L).length = q) := HM.out.len
      by_cases hq : q = 0
      · subst hq
        have hbo : bodO L = [] := List.eq_nil_of_length_eq_zero HLn.out
        cases hs : sayL L with
        | false =>
          have hmo : midO L = [] := by unfold midO; rw [if_pos hbo, hs]; rfl
          have htl : tickL L = bodL L := by unfold tickL; rw [if_pos hmo]
          have HH := hide (And.intro hbo (And.intro hmo htl))
          clear hbo hmo htl
          go_wp2
          go_ret
          refine ⟨a, cc, 0, rfl, by rw [HH.out.2.1, ← HH.out.1]; exact HM.out.row, by rw [HH.out.2.1]; rfl, ?_, HM.out.but⟩
          rw [HH.out.2.2]
          exact HLw.out.but HM.out.but HM.out.lb HBs.out.2.2.2.1
        | true =>
          have hmo : midO L = [encB (lfr L 0 ⟨#[]⟩)] := by unfold midO; rw [if_pos hbo, hs]; rfl
          have htl : tickL L = { bodL L with ack := false, asked := false } := by unfold tickL; rw [hmo]; rfl
          have HH := hide (And.intro hbo (And.intro hmo htl))
          clear hbo hmo htl
          have HTb : Hid (C.Tab wd) := fun j hj => by
            have hpos := HT.out.pos
            rw [World.cell?_of_block (w := w) (a := ⟨0, j, none⟩) (HM.out.but.block 0 hpos (by omega))]; exact HT.out j hj
          have HF := hide (frame_any wd b (bodL L) rv 0 ⟨#[]⟩ HM.out.lb HTb.out)
          rw [HBs.out.2.2.2.2] at HF
          have hsm : Hid (∀ x ∈ encB (lfr L 0 ⟨#[]⟩), x < 256) := encB_small (by intro x hx; simp [lfr, nums] at hx)
          obtain ⟨EB, hEB⟩ : ∃ EB, encB (lfr L 0 ⟨#[]⟩) = EB := ⟨_, rfl⟩
          rw [hEB] at HF hsm HH
          clear hEB
          have hsd : b < wd.heap.size := C.lt_of_block HM.out.lb
          have hs0 : w.heap.size ≤ wd.heap.size := HM.out.but.size
          obtain ⟨i0, hi, hz0, hz1, hz2⟩ := info_parts Tryz.infoSl
          go_wp2_with fail
          refine HF.out.mono ?_
          rintro e w5 ⟨sq, m, hm, rfl, hmi, hb5⟩
          subst hm
          have hr5 := HM.out.row.same (fun k _ hk => hb5.block k hk)
          rw [HH.out.1] at hr5
          obtain ⟨vs, ho5, hel⟩ := hr5
          have hvn : vs = [] := List.eq_nil_of_length_eq_zero (by have := ho5.1; simpa using this)
          subst hvn
          simp only [List.length_nil] at ho5
          have HO5 := hide (ho5.alloc (.cells #[.slice sq EB.length EB.length] 31))
          have Hel := hide hel
          have HU5 : Hid (∀ (k : Nat) (D : Array Value) (fr : Nat × Nat), w5.heap[k]? = some (.cells D 5 fr) → some k ≠ (Value.slice a 0 cc).ownBlock) := by
            intro k D fr hk e
            rcases ho5.2 with ⟨h1, _⟩ | ⟨g2, _, _, h1, _, h3, _⟩
            · rw [h1] at e; simp [Value.ownBlock] at e
            · rw [h1] at e; simp [Value.ownBlock] at e; subst e
              rw [h3] at hk; simp at hk
          have HOl : Hid (∀ k, (Value.slice a 0 cc).ownBlock = some k → w.heap.size ≤ k ∧ k < w5.heap.size) := ho5.lt
          have HMi := hide (mine_mono hmi hs0)
          have HL5 := hide (HM.out.lb.below hb5)
          have HBt5 : Hid (C.But b w w5) := HM.out.but.trans (C.but_of hb5 b)
          have hs5 : wd.heap.size ≤ w5.heap.size := hb5.size
          clear hmi hb5 HF ho5 hel
          go_wp2_with (at_builtin; refine wpList_append_lies _ rfl (.tmp 57) (.tmp 61) 44 rfl w.heap.size 31 i0 (.slice none 0 0) 1 24 Tryz.underlying44 hi hz0 hz1 hz2 rfl (by omega) (.slice a 0 cc) 0 [] rfl HO5.out ⟨w5.heap.size, 0, none⟩ 1 1 [.slice sq EB.length EB.length] rfl rfl (World.news_of_block (heap_alloc_new w5 (.cells #[.slice sq EB.length EB.length] 31))) (by simp [Value.oneCell']) (by omega) (by unfold maxLen; omega) (by omega) (by simp; omega) _ rfl ?_; intro g' cap' w6 hown hgrow hat hltg; have HK6 : Hid (∀ k, k < w5.heap.size → some k ≠ (Value.slice a 0 cc).ownBlock → w6.heap[k]? = w5.heap[k]?) := (fun k hk hne => (hgrow.block k (by simp; omega) hne).trans (heap_alloc_old w5 _ hk)); have HO6 := hide hown; have HG6 := hide hgrow; have hl6 := HL5.out.kept (HK6.out b (by omega) (fun e => (by have := HOl.out b e.symm; omega))); have HL6 := hide hl6; obtain ⟨-, -, -, -, -, -, -, -, -, c9, -, -, -, c13, -, cf⟩ := blk15 hl6; have hlt6 : b < w6.heap.size := C.lt_of_block hl6; clear hown hgrow hat hl6)
          go_ret
          have hsz6 : w5.heap.size ≤ w6.heap.size := by have := HG6.out.size; simp at this; omega
          have hbt6 : C.But b w w6 := by
            have h5 := HBt5.out
            refine ⟨(HG6.out.os).trans h5.os, (HG6.out.tape).trans h5.tape, (HG6.out.output).trans h5.output, by omega, fun k hk hkb2 => ?_⟩
            rw [HK6.out k (by omega) (fun e => by have := HOl.out k e.symm; omega)]
            exact h5.block k hk hkb2
          have hk : ∀ k, k ≠ b → ((w6.setCell ⟨b, 9, none⟩ (.bool false)).setCell ⟨b, 13, none⟩ (.bool false)).heap[k]? = w6.heap[k]? := fun k hk =>
            (Below.heap_setCell _ _ _ _ (by simpa using hk)).trans (Below.heap_setCell _ _ _ _ (by simpa using hk))
          have hbt := (hbt6.setCell (p := ⟨b, 9, none⟩) (Or.inl rfl) (.bool false)).setCell (p := ⟨b, 13, none⟩) (Or.inl rfl) (.bool false)
          refine ⟨some ⟨g', 0, none⟩, cap', 1, rfl, ?_, by rw [HH.out.2.1]; rfl, ?_, hbt⟩
          · rw [HH.out.2.1]
            have ho : Orow w.heap.size w6 (some ⟨g', 0, none⟩) cap' ([] ++ [EB]) :=
              orow_add (vs := []) rfl Hel.out HO6.out HMi.out hsm.out (fun j g l k g2 hv _ => by simp at hv) (fun k D fr _ hk => HK6.out k (C.lt_of_block hk) (HU5.out k D fr hk))
            exact ho.same (fun k hk1 _ => hk k (by omega))
          · rw [HH.out.2.2]
            exact HLw.out.but hbt ((HL6.out.set 9 (.bool false) { bodL L with ack := false } _ rfl).set 13 (.bool false) _ _ rfl) HBs.out.2.2.2.1
      · have hbo : ¬ bodO L = [] := fun e => hq (by rw [← HLn.out, e]; rfl)
        have hmo : midO L = bodO L := by unfold midO; rw [if_neg hbo]
        have htl : tickL L = { bodL L with ack := false, asked := false } := by unfold tickL; rw [hmo, if_neg hbo]
        have HH := hide (And.intro hmo htl)
        have i1 : (0 : Int) < (q : Int) := by omega
        have hd : decide (q = 0) = false := decide_eq_false hq
        have HL4 := hide HM.out.lb
        obtain ⟨-, -, -, -, -, -, -, -, -, c9, -, -, -, c13, -, cf⟩ := blk15 HM.out.lb
        have hlt4 := C.lt_of_block HM.out.lb
        rw [hd, Bool.false_and]
        clear hbo hmo htl hq hd
        go_wp2
        go_ret
        have hk : ∀ k, k ≠ b → ((wd.setCell ⟨b, 9, none⟩ (.bool false)).setCell ⟨b, 13, none⟩ (.bool false)).heap[k]? = wd.heap[k]? := fun k hk =>
          (Below.heap_setCell _ _ _ _ (by simpa using hk)).trans (Below.heap_setCell _ _ _ _ (by simpa using hk))
        have hbt := (HM.out.but.setCell (p := ⟨b, 9, none⟩) (Or.inl rfl) (.bool false)).setCell (p := ⟨b, 13, none⟩) (Or.inl rfl) (.bool false)
        refine ⟨a, cc, q, rfl, ?_, by rw [HH.out.1]; exact HM.out.len, ?_, hbt⟩
        · rw [HH.out.1]
          exact HM.out.row.same (fun k hk1 _ => hk k (by omega))
        · rw [HH.out.2]
          exact HLw.out.but hbt ((HL4.out.set 9 (.bool false) { bodL L with ack := false } _ rfl).set 13 (.bool false) _ _ rfl) HBs.out.2.2.2.1
end Go.Proofs.YtjcdnclfakmbpaaGreatDoor
namespace Go.Proofs.YtjcdnclfakmbpaaGreatDoor
open Go.RowKit
theorem run_clear_at {P : Program} (w : World) (base : Nat) (t ty e : TypeId) (i : TypeInfo) (z : Value) (size : Nat) (ht : P.underlying t = some (.slice e)) (hi : P.info? e = some i) (hz : i.zero = some z) (hzs : z.cells.size = size)
    (h1 : ∀ n, ∀ u ∈ (Builtin.zeroCells z.cells n).toList, u.oneCell' = true)
    (g o cap n : Nat) (xs : List Value) (hown : ownsAt w base e size (.slice (some ⟨g, o, none⟩) n cap) n xs) (k c : Nat) (hk : k ≤ n) :
    ∃ w' zs, (Builtin.clear_ #[t] ty #[.slice (some ⟨g, o, none⟩) k c]).run P w = .ok (.tuple #[]) w' ∧ zs.length = k * size ∧ ownsAt w' base e size (.slice (some ⟨g, o, none⟩) n cap) n (zs ++ xs.drop (k * size)) ∧ w.grownBy w' (some g) ∧ w'.heap.size = w.heap.size := by
  cases k with
  | zero =>
    refine ⟨w, [], ?_, by simp, by simpa using hown, ⟨rfl, rfl, rfl, Nat.le_refl _, fun _ _ _ => rfl⟩, rfl⟩
    simp [Builtin.clear_, run_underlying ht]
  | succ k =>
    have hn := hown.1
    rcases hown.2 with ⟨h0, _⟩ | ⟨g', o', cap', cur, e1, h2, h3, h4, h5, h6, h7⟩
    · cases h0
    · cases e1
      have hzl : (Builtin.zeroCells z.cells (k + 1)).toList.length = (k + 1) * size := by rw [Array.length_toList, size_zeroCells, hzs]
      have hle : (k + 1) * size ≤ n * size := Nat.mul_le_mul_right _ hk
      have hle2 : n * size ≤ cap * size := Nat.mul_le_mul_right _ h4
      have hst := run_storeCells_at P g o e (Builtin.zeroCells z.cells (k + 1)).toList 0 cur w h3 (by omega) (h1 _)
      simp only [Nat.add_zero] at hst
      refine ⟨w.setRow g (cur.toList.take o ++ (Builtin.zeroCells z.cells (k + 1)).toList ++ cur.toList.drop (o + (Builtin.zeroCells z.cells (k + 1)).toList.length)).toArray, (Builtin.zeroCells z.cells (k + 1)).toList, ?_, hzl, ⟨?_, Or.inr ⟨g, o, cap, _, rfl, h2, setRow_heap w g cur _ e _ h3, h4, h5, ?_, ?_⟩⟩, ⟨rfl, rfl, rfl, by simp, fun j _ hj => setRow_other w g j _ (fun e => hj (by rw [e]))⟩, by simp⟩
      · simp [Builtin.clear_, run_underlying ht, typeInfo, zeroValue, hi, hz, hst]
      · rw [List.length_append, hzl, List.length_drop, hn]; omega
      · simp only [List.size_toArray, List.length_append, List.length_take, List.length_drop, Array.length_toList]
        rw [Array.length_toList] at hzl
        omega
      · have hol : o ≤ (cur.toList.take o).length := by simp; omega
        have hd : (cur.toList.take o).drop o = [] := by simp
        simp only [List.append_assoc]
        rw [List.drop_append_of_le_length hol, hd, List.nil_append, hzl]
        rw [show n * size = (k + 1) * size + (n * size - (k + 1) * size) by omega, List.take_append, hzl, List.take_of_length_le (by rw [hzl]; omega), Nat.add_sub_cancel_left]
        congr 1
        rw [← h7, List.drop_take, List.drop_drop]
theorem zero_one (n : Nat) : ∀ u ∈ (Builtin.zeroCells (Value.agg #[.int .u64 0, .string ⟨#[]⟩]).cells n).toList, u.oneCell' = true := by
  intro u hu
  have e : (Value.agg #[.int .u64 0, .string ⟨#[]⟩]).cells = #[.int .u64 0, .string ⟨#[]⟩] := by kernel_rfl
  rw [e] at hu
  simp only [Builtin.zeroCells, Array.toList_map, List.mem_map] at hu
  obtain ⟨x, _, rfl⟩ := hu
  have : x % 2 = 0 ∨ x % 2 = 1 := by omega
  rcases this with h | h
  · simp [h, Value.oneCell']
  · simp [h, Value.oneCell']
set_option maxRecDepth 100000 in
set_option maxHeartbeats 1000000 in
theorem leaves_any (w : World) (ab ack n : Nat) (s : ByteArray) (h : w.heap[ab]? = some (.cells #[.int .u64 (ack : Int)] 22 (0, 0))) :
    Calls Tryz.prog 133 #[.agg #[.int .u64 (n : Int), .string s], .pointer (some ⟨ab, 0, none⟩)] w fun e w' => e = .returned (.bool (decide (n ≤ ack))) ∧ Below w.heap.size w w' := by
  obtain ⟨w1, hw1⟩ : ∃ w1, w.alloc (.cells #[.int .u64 (n : Int), .string s] 111) = w1 := ⟨_, rfl⟩
  have hb1 : Below w.heap.size w w1 := by rw [← hw1]; exact (Below.refl _ _).alloc (Nat.le_refl _) _
  have hk1 : w1.heap[w.heap.size]? = some (.cells #[.int .u64 (n : Int), .string s] 111 (0, 0)) := by rw [← hw1]; exact heap_alloc_new _ _
  have d0 : w1.cell? ⟨w.heap.size, 0, none⟩ = some (.int .u64 (n : Int)) := by simp [World.cell?, hk1]
  have a0 : w1.cell? ⟨ab, 0, none⟩ = some (.int .u64 (ack : Int)) := by have := (hb1.block ab (C.lt_of_block h)).trans h; simp [World.cell?, this]
  have HD : Hid (decide (n ≤ ack) = decide ((n : Int) ≤ (ack : Int))) := decide_eq_decide.2 (by omega)
  rw [HD.out]
  have HB := hide hb1
  clear hk1 hb1 h
  go_enter Tryz.func133, Tryz.ntmps133
  go_upto_region 1 with (fail)
  try rw [hw1]
  go_wp2
  go_ret
  refine ⟨?_, HB.out⟩
  first | rfl | simp
end Go.Proofs.YtjcdnclfakmbpaaGreatDoor
namespace Go.Proofs.YtjcdnclfakmbpaaGreatDoor
open Go.RowKit
def cnt (ack : Nat) : List (Nat × ByteArray) → Nat
  | [] => 0
  | m :: ms => if m.1 ≤ ack then cnt ack ms + 1 else 0
theorem cnt_le (ack : Nat) (ms : List (Nat × ByteArray)) : cnt ack ms ≤ ms.length := by
  induction ms with
  | nil => exact Nat.le_refl _
  | cons m ms ih => unfold cnt; split <;> simp <;> omega
theorem cnt_at (ack : Nat) (ms : List (Nat × ByteArray)) : ∀ (j : Nat), j ≤ ms.length → (∀ i m, i < j → ms[i]? = some m → m.1 ≤ ack) → (∀ m, ms[j]? = some m → ¬ m.1 ≤ ack) → cnt ack ms = j := by
  induction ms with
  | nil => intro j hj _ _; simp at hj; subst hj; rfl
  | cons x ms ih =>
    intro j hj h1 h2
    cases j with
    | zero => unfold cnt; rw [if_neg (h2 x rfl)]
    | succ j =>
      unfold cnt
      rw [if_pos (h1 0 x (by omega) rfl), ih j (by simpa using hj) (fun i m hi hm => h1 (i + 1) m (by omega) (by simpa using hm)) (fun m hm => h2 m (by simpa using hm))]
theorem msv_drop (ms : List (Nat × ByteArray)) : ∀ k, (msv ms).drop (k * 2) = msv (ms.drop k) := by
  induction ms with
  | nil => intro k; simp [msv]
  | cons m ms ih =>
    intro k
    cases k with
    | zero => rfl
    | succ k => rw [show (k + 1) * 2 = k * 2 + 2 by omega]; simpa [msv] using ih k
def goneL (L : Lk) (ack : Nat) : Lk := { L with row := L.row.drop (cnt ack L.row) }
set_option maxRecDepth 100000 in
set_option maxHeartbeats 4000000 in
theorem letGo_any (w : World) (b : Nat) (L : Lk) (rv : Value) (h : Lw w b L rv) (ab ack : Nat) (ha : w.heap[ab]? = some (.cells #[.int .u64 (ack : Int)] 22 (0, 0))) (hl : L.row.length ≤ 1099511627776) :
    Calls Tryz.prog 132 #[.pointer (some ⟨b, 5, none⟩), .func (.func 133) #[] #[.pointer (some ⟨ab, 0, none⟩)]] w fun e w' => e = .returned (.tuple #[]) ∧ ∃ rv', Lw w' b (goneL L ack) rv' ∧ Tw b rv.ownBlock w w' ∧ rv'.ownBlock = rv.ownBlock := by
  obtain ⟨i0, hi, hz0, hz1, hz2⟩ := info_parts Tryz.infoMs
  obtain ⟨a, c, hrv⟩ := h.form
  subst hrv
  cases a with
  | none =>
    have h0 : L.row.length = 0 ∧ c = 0 := by
      rcases h.row.2 with ⟨e, e2⟩ | ⟨_, _, _, _, e, _⟩
      · injection e with _ _ e3; exact ⟨e2, e3⟩
      · cases e
    have hr : L.row = [] := List.eq_nil_of_length_eq_zero h0.1
    have hlb : Lb w b L (.slice none 0 0) := by have := h.lb; rw [h0.1, h0.2] at this; exact this
    have hg : goneL L ack = L := by unfold goneL; rw [hr]; cases L; simp at hr; subst hr; rfl
    rw [hg, h0.1, h0.2]
    refine (letGo_nil w b L hlb _).mono ?_
    rintro e w' ⟨rfl, h1, h2⟩
    refine ⟨rfl, .slice none 0 0, ⟨h1, ?_⟩, Tw.of h2, rfl⟩
    rw [hr]
    exact ⟨rfl, Or.inl ⟨rfl, rfl⟩⟩
  | some ad =>
    have hf : ∃ g o, ad = ⟨g, o, none⟩ := by
      rcases h.row.2 with ⟨e, _⟩ | ⟨g, o, _, _, e, _⟩
      · cases e
      · cases e; exact ⟨g, o, rfl⟩
    obtain ⟨g, o, rfl⟩ := hf
    obtain ⟨hms, hqc, hgb⟩ := h.ms
    obtain ⟨q, hq⟩ : ∃ q, L.row.length = q := ⟨_, rfl⟩
    obtain ⟨ms, hmse⟩ : ∃ ms, L.row = ms := ⟨_, rfl⟩
    have hlb := h.lb
    have hrw := h.row
    rw [hq] at hlb hrw hqc hl ⊢
    rw [hmse] at hrw hms hq
    have HGe : Hid (goneL L ack = { L with row := ms.drop (cnt ack ms) }) := by show _ = _; unfold goneL; rw [hmse]
    have HLb := hide hlb
    have HRw := hide hrw
    have HMs := hide hms
    have HA := hide ha
    have HQ := hide hq
    have hbl := C.lt_of_block hlb
    have hgl := hms.lt
    clear h hlb hrw hms ha hq
    -- the common end
    have HEnd : Hid (∀ (j : Nat) (wr : World), Below w.heap.size w wr → cnt ack ms = j → ∃ w5, (∀ ty, Sem.run Tryz.prog (Builtin.clear_ #[97] ty #[.slice (some ⟨g, o, none⟩) j c]) wr = .ok (.tuple #[]) w5) ∧ w5.cell? ⟨b, 5, none⟩ = some (.slice (some ⟨g, o, none⟩) q c) ∧ (∀ x, w5.frozen? ⟨b, x, none⟩ = false) ∧ b < w5.heap.size ∧ ∀ rv', (rv' = .slice (some ⟨g, o + j * 2, none⟩) (q - j) (c - j) ∨ (rv' = .slice (some ⟨g, o, none⟩) 0 0 ∧ j = q)) → (Lw (w5.setCell ⟨b, 5, none⟩ rv') b (goneL L ack) rv' ∧ Tw b (some g) w (w5.setCell ⟨b, 5, none⟩ rv') ∧ rv'.ownBlock = some g)) := by
      intro j wr hb hc
      have hjq : j ≤ q := by rw [← hc, ← HQ.out]; exact cnt_le ack ms
      have hrw : ownsAt wr 0 111 2 (.slice (some ⟨g, o, none⟩) q c) q (msv ms) := HRw.out.same (fun k hk => hb.block k (HRw.out.lt k hk).2)
      obtain ⟨w5, zs, h1, h2, h3, h4, h5⟩ := run_clear_at (P := Tryz.prog) wr 0 97 0 111 i0 (.agg #[.int .u64 0, .string ⟨#[]⟩]) 2 Tryz.underlying97 hi hz0 rfl zero_one g o c q (msv ms) hrw j c hjq
      have hl5 : Lb w5 b L (.slice (some ⟨g, o, none⟩) q c) := HLb.out.kept ((h4.block b (Nat.lt_of_lt_of_le hbl hb.size) (fun e => hgb (by injection e with e; exact e.symm))).trans (hb.block b hbl))
      obtain ⟨-, -, -, -, -, c5, -, -, -, -, -, -, -, -, -, cf⟩ := blk15 hl5
      refine ⟨w5, fun ty => ?_, c5, cf, C.lt_of_block hl5, fun rv' hrv => ⟨⟨?_, ?_⟩, ?_, ?_⟩⟩
      · rw [← h1]; rfl
      · rw [HGe.out]; exact hl5.set 5 _ _ _ rfl
      · rw [HGe.out]
        have hown : ownsAt w5 0 111 2 rv' (q - j) (msv (ms.drop j)) ∧ rv'.ownBlock = some g := by
          rcases hrv with rfl | ⟨rfl, rfl⟩
          · have hd := h3.drop j hjq
            have e1 : (zs ++ (msv ms).drop (j * 2)).drop (j * 2) = msv (ms.drop j) := by rw [← h2, List.drop_left, h2, msv_drop]
            rw [e1] at hd
            exact ⟨hd, rfl⟩
          · rw [List.drop_of_length_le (by rw [HQ.out]; exact Nat.le_refl _), Nat.sub_self]
            refine ⟨⟨rfl, ?_⟩, rfl⟩
            rcases h3.2 with ⟨e, _⟩ | ⟨g', o', cap', cur, e, k1, k2, k3, k4, k5, k6⟩
            · cases e
            · cases e
              exact Or.inr ⟨g, o, 0, cur, rfl, k1, k2, Nat.le_refl _, Nat.zero_le _, by omega, by simp [msv]⟩
        show ownsAt _ 0 _ 2 _ (ms.drop (cnt ack ms)).length (msv (ms.drop (cnt ack ms)))
        rw [hc, List.length_drop, HQ.out]
        exact hown.1.same (fun k hk => Below.heap_setCell _ _ _ _ (by
          rw [hown.2] at hk
          injection hk with hk
          subst hk
          simpa using hgb))
      · refine ⟨h4.os.trans hb.os, h4.tape.trans hb.tape, h4.output.trans hb.output, ?_, fun k hk hkb hkg => ?_⟩
        · show w.heap.size ≤ (w5.setCell _ _).heap.size
          simp only [World.setCell]
          have := hb.size
          simp
          omega
        · exact (Below.heap_setCell _ _ _ _ (by simpa using hkb)).trans ((h4.block k (Nat.lt_of_lt_of_le hk hb.size) hkg).trans (hb.block k hk))
      · rcases hrv with rfl | ⟨rfl, _⟩ <;> rfl
    go_enter Tryz.func132, Tryz.ntmps132
    go_wp2
    go_loopw [4] (fun s4 wr => ∃ (j : Nat), j ≤ q ∧ s4 = .int .i64 j ∧ Hid (Below w.heap.size w wr) ∧ Hid (∀ i m, i < j → ms[i]? = some m → m.1 ≤ ack)) (fun s4 _ => q - (intOf s4).toNat)
    case atStart => exact ⟨0, Nat.zero_le _, rfl, Below.refl _ _, fun i m hi => by omega⟩
    case round =>
      obtain ⟨j, hj, rfl, HB, HI⟩ := hrel
      obtain ⟨-, -, -, -, -, c5, -⟩ := blk15 (HLb.out.below HB.out)
      have i1 : (0 : Int) ≤ (j : Int) := by omega
      by_cases hlt : j < q
      · obtain ⟨m, hm⟩ : ∃ m, ms[j]? = some m := ⟨_, List.getElem?_eq_getElem (by rw [HQ.out]; exact hlt)⟩
        obtain ⟨n, s⟩ := m
        have i2 : (j : Int) < (q : Int) := by omega
        have c0 := (HB.out.cell (p := ⟨g, o + j * 2, none⟩) hgl).trans (HMs.out.num j _ hm)
        have c1 := (HB.out.cell (p := ⟨g, o + j * 2 + 1, none⟩) hgl).trans (HMs.out.body j _ hm)
        simp only at c0 c1
        have HLv := hide (leaves_any wr ab ack n s ((HB.out.block ab (C.lt_of_block HA.out)).trans HA.out))
        have HMj := hide hm
        clear hm
        by_cases hy : n ≤ ack
        · rw [decide_eq_true hy] at HLv
          have HY := hide hy
          clear hy
          go_wp2_with fail
          refine HLv.out.mono ?_
          rintro e w4 ⟨rfl, hb4⟩
          have HB4 : Hid (Below w.heap.size w w4) := HB.out.trans (hb4.mono HB.out.size)
          clear hb4
          go_wp2
          go_roundw
          case rel => exact ⟨j + 1, by omega, by go_num, HB4, fun i m hi hm => by
            by_cases hij : i < j
            · exact HI.out i m hij hm
            · obtain rfl : i = j := by omega
              rw [HMj.out] at hm
              cases hm
              exact HY.out⟩
          case measure => simp [intOf]; omega
        · rw [decide_eq_false hy] at HLv
          have hc : cnt ack ms = j := cnt_at ack ms j (by rw [HQ.out]; exact hj) HI.out (fun m hm => by rw [HMj.out] at hm; cases hm; exact hy)
          have HC := hide hc
          clear hy hc
          go_wp2_with fail
          refine HLv.out.mono ?_
          rintro e w4 ⟨rfl, hb4⟩
          have HB4 : Hid (Below w.heap.size w w4) := HB.out.trans (hb4.mono HB.out.size)
          clear hb4 c5
          obtain ⟨-, -, -, -, -, c5, -⟩ := blk15 (HLb.out.below HB4.out)
          obtain ⟨w5, hclr, d5, df, hl5, hlw⟩ := HEnd.out j w4 HB4.out HC.out
          have HLw := hide hlw
          have i3 : (j : Int) ≤ (c : Int) := by omega
          clear hlw
          go_wp2
          go_end0
          exact ⟨rfl, _, HLw.out _ (Or.inl rfl)⟩
      · obtain rfl : j = q := by omega
        have hc : cnt ack ms = j := cnt_at ack ms j (by rw [HQ.out]; exact hj) HI.out (fun m hm => by have := (List.getElem?_eq_some_iff.1 hm).1; have := HQ.out; omega)
        have i2 : ¬ (j : Int) < (j : Int) := by omega
        obtain ⟨w5, hclr, d5, df, hl5, hlw⟩ := HEnd.out j wr HB.out hc
        have HLw := hide hlw
        have i3 : (j : Int) ≤ (c : Int) := by omega
        clear hlw hc
        by_cases hcj : c = j
        · subst hcj
          go_wp2
          go_end0
          exact ⟨rfl, _, HLw.out _ (Or.inr ⟨rfl, by first | trivial | rfl⟩)⟩
        · have i4 : j < c := by omega
          have i5 : (j : Int) < (c : Int) := by omega
          have i6 : ¬ j = c := by omega
          have i7 : ¬ c - j = 0 := by omega
          go_wp2
          go_end0
          exact ⟨rfl, _, HLw.out _ (Or.inl (by first | rfl | simp))⟩
end Go.Proofs.YtjcdnclfakmbpaaGreatDoor
namespace Go.Proofs.YtjcdnclfakmbpaaGreatDoor
open Go.RowKit
def ackL (L : Lk) (ack : Nat) : Lk := if ack ≤ L.gone then goneL L ack else L
theorem Tw.pre2 {b : Nat} {v : Option Nat} {w w1 w' : World} (h : Below w.heap.size w w1) (k : Tw b v w1 w') : Tw b v w w' :=
  ⟨k.os.trans h.os, k.tape.trans h.tape, k.output.trans h.output, Nat.le_trans h.size k.size, fun i hi hb hv => (k.block i (Nat.lt_of_lt_of_le hi h.size) hb hv).trans (h.block i hi)⟩
set_option maxRecDepth 100000 in
set_option maxHeartbeats 1000000 in
theorem takeAck_any (w : World) (b : Nat) (L : Lk) (rv : Value) (h : Lw w b L rv) (ack : Nat) (hl : L.row.length ≤ 1099511627776) :
    Calls Tryz.prog 98 #[.pointer (some ⟨b, 0, none⟩), .int .u64 (ack : Int)] w fun e w' => e = .returned (.tuple #[]) ∧ ∃ rv', Lw w' b (ackL L ack) rv' ∧ Tw b rv.ownBlock w w' ∧ rv'.ownBlock = rv.ownBlock := by
  have hlt := C.lt_of_block h.lb
  obtain ⟨w1, hw1⟩ : ∃ w1, w.alloc (.cells #[.int .u64 (ack : Int)] 22) = w1 := ⟨_, rfl⟩
  have hb1 : Below w.heap.size w w1 := by rw [← hw1]; exact (Below.refl _ _).alloc (Nat.le_refl _) _
  have hk1 : w1.heap[w.heap.size]? = some (.cells #[.int .u64 (ack : Int)] 22 (0, 0)) := by rw [← hw1]; exact heap_alloc_new _ _
  have d0 : w1.cell? ⟨w.heap.size, 0, none⟩ = some (.int .u64 (ack : Int)) := by simp [World.cell?, hk1]
  have HL1 := hide (h.below hb1)
  obtain ⟨-, -, -, -, -, -, -, c7, -⟩ := blk15 HL1.out.lb
  have HG := hide (letGo_any w1.drew b L rv ⟨HL1.out.lb, HL1.out.row.same (fun _ _ => rfl)⟩ w.heap.size ack hk1 hl)
  have HB1 := hide hb1
  have HW := hide hw1
  clear h hk1 hw1 hb1 hl
  by_cases hle : ack ≤ L.gone
  · have hle' : (ack : Int) ≤ (L.gone : Int) := by omega
    have HE : Hid (ackL L ack = goneL L ack) := by show _ = _; unfold ackL; rw [if_pos hle]
    clear hle
    go_enter Tryz.func98, Tryz.ntmps98
    go_upto_region 1 with (fail)
    rw [HW.out]
    go_region_held3 (fun w' => w'.cell? ⟨b, 7, none⟩ = some (.int .u64 (L.gone : Int)) ∧ w'.cell? ⟨w.heap.size, 0, none⟩ = some (.int .u64 (ack : Int))) (go_keep) (fail)
    go_wp2_with fail
    refine HG.out.mono ?_
    rintro e w2 ⟨rfl, rv', hl2, ht2, hr2⟩
    have HL2 := hide hl2
    have HT2 := hide ht2
    have HR2 := hide hr2
    clear hl2 ht2 hr2
    go_wp2
    go_end0
    exact ⟨rfl, rv', by rw [HE.out]; exact HL2.out, Tw.pre2 HB1.out.drew HT2.out, HR2.out⟩
  · have hle' : ¬ (ack : Int) ≤ (L.gone : Int) := by omega
    have HE : Hid (ackL L ack = L) := by show _ = _; unfold ackL; rw [if_neg hle]
    clear hle
    go_enter Tryz.func98, Tryz.ntmps98
    go_upto_region 1 with (fail)
    rw [HW.out]
    go_region_held3 (fun w' => w'.cell? ⟨b, 7, none⟩ = some (.int .u64 (L.gone : Int)) ∧ w'.cell? ⟨w.heap.size, 0, none⟩ = some (.int .u64 (ack : Int))) (go_keep) (fail)
    go_wp2
    go_end0
    exact ⟨rfl, rv, by rw [HE.out]; exact ⟨HL1.out.lb, HL1.out.row.same (fun _ _ => rfl)⟩, Tw.of (C.but_of HB1.out b).drew, rfl⟩
end Go.Proofs.YtjcdnclfakmbpaaGreatDoor
namespace Go.Proofs.YtjcdnclfakmbpaaGreatDoor
open Go.RowKit
set_option maxRecDepth 100000 in
set_option maxHeartbeats 1000000 in
theorem clone_any (w : World) (sp : Option Addr) (m cap : Nat) (xs : List Nat) (hm : xs.length = m) (hx : Bytes w sp xs) (hlen : m ≤ 140737488355328) :
    Calls Tryz.prog 134 #[.slice sp m cap] w fun e w' => ∃ a c, e = .returned (.slice a m c) ∧ w'.ownsRow w.heap.size 5 1 (.slice a m c) m (vals xs) ∧ Below w.heap.size w w' ∧ a.isNone = sp.isNone := by
  have qe : ∀ (w : World) (a : Option Addr) (n c n' c' : Nat), (binOp .eql 31 (.slice a n c) (.slice none n' c')).run Tryz.prog w = .ok (.bool a.isNone) w := fun w a n c n' c' => Lib.run_eql_slice_nil w _ _ a n c n' c' Tryz.underlying31
  cases sp with
  | none =>
    have hxs : xs = [] := by
      rcases hx.lie with h | ⟨b, o, e, _⟩
      · exact h
      · cases e
    subst hxs
    have hn0 : m = 0 := hm.symm
    subst hn0
    clear hm hx
    go_enter Tryz.func134, Tryz.ntmps134
    go_wp2
    go_ret
    exact ⟨none, 0, rfl, World.ownsRow_nil _ _ _ _, Below.refl _ _, rfl⟩
  | some ad =>
    have hb0 : Below w.heap.size w (w.alloc (.cells #[] 5)) := (Below.refl _ _).alloc (Nat.le_refl _) _
    have hE : (w.alloc (.cells #[] 5)).ownsRow 0 5 1 (.slice (some ⟨w.heap.size, 0, none⟩) 0 0) 0 (vals []) := ⟨rfl, Or.inr ⟨w.heap.size, 0, #[], rfl, Nat.zero_le _, heap_alloc_new _ _, Nat.le_refl _, by unfold maxLen; omega, rfl, rfl⟩⟩
    obtain ⟨a', c', w1, hr, ho, hg, hl⟩ := run_app_bytes (w := w.alloc (.cells #[] 5)) (v := .slice (some ⟨w.heap.size, 0, none⟩) 0 0) (n := 0) (ys := []) hE (c := cap) hm (hx.below hb0) (by omega) 31
    simp only [Nat.zero_add, List.nil_append] at hr ho hl
    have hlow : ∀ k, (Value.slice a' m c').ownBlock = some k → w.heap.size ≤ k := by
      intro k hk
      rcases hl with e | ⟨g2, e, e2⟩
      · rw [hk] at e
        simp [Value.ownBlock] at e
        omega
      · rw [hk] at e
        simp at e e2
        omega
    have HO : Hid (w1.ownsRow w.heap.size 5 1 (.slice a' m c') m (vals xs)) := by
      refine ⟨ho.1, ho.2.imp id ?_⟩
      rintro ⟨g, cap, cur, h1, _, r⟩
      exact ⟨g, cap, cur, h1, hlow g (by rw [h1]; rfl), r⟩
    have HB : Hid (Below w.heap.size w w1) := hb0.grown hg (by simp) (fun k e => by simp [Value.ownBlock] at e; omega)
    have HN : Hid (a'.isNone = false) := by
      show _ = _
      cases a' with
      | some _ => rfl
      | none =>
        exfalso
        rcases hl with e | ⟨g2, e, e2⟩
        · simp [Value.ownBlock] at e
        · simp [Value.ownBlock] at e
    clear ho hg hl hx hE hb0 hlow
    go_enter Tryz.func134, Tryz.ntmps134
    go_wp2_with (at_builtin; refine wpList_app_run rfl (.tmp 5) (.tmp 6) 31 31 rfl (.slice (some ⟨w.heap.size, 0, none⟩) 0 0) (.slice (some ad) m cap) _ _ rfl rfl hr ?_)
    go_wp2
    go_ret
    exact ⟨a', c', rfl, HO.out, HB.out, HN.out⟩
end Go.Proofs.YtjcdnclfakmbpaaGreatDoor
