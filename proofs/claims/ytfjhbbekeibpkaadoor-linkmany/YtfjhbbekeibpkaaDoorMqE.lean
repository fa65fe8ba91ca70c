import Derived.Test.YtfjhbbekeibpkaaDoorMqC
import Derived.Test.YtfjhbbekeibpkaaDoorMbB
namespace Go.Proofs.YtfjhbbekeibpkaaDoor
open Go.RowKit

/-- What of the row stands in the window. -/
def inWin (L : Lk) : List (Nat × ByteArray) := if L.known = 0 then [] else L.row.take L.window.toNat
theorem msv_get (ms : List (Nat × ByteArray)) : ∀ (j : Nat) (m : Nat × ByteArray), ms[j]? = some m → (msv ms)[j * 2]? = some (.int .u64 (m.1 : Int)) ∧ (msv ms)[j * 2 + 1]? = some (.string m.2) := by
  induction ms with
  | nil => intro j m h; simp at h
  | cons x ms ih =>
    intro j m h
    cases j with
    | zero => simp at h; subst h; exact ⟨rfl, rfl⟩
    | succ j =>
      have := ih j m (by simpa using h)
      rw [show (j + 1) * 2 = j * 2 + 2 by omega, show j * 2 + 2 + 1 = j * 2 + 1 + 2 by omega]
      exact ⟨by simpa [msv] using this.1, by simpa [msv] using this.2⟩
theorem Lw.ms {w : World} {b : Nat} {L : Lk} {g o c : Nat} (h : Lw w b L (.slice (some ⟨g, o, none⟩) L.row.length c)) : Ms w g o L.row ∧ L.row.length ≤ c ∧ g ≠ b := by
  have hc := h.row.cells
  refine ⟨⟨(h.row.lt g rfl).2, fun j m hm => hc _ _ (msv_get _ j m hm).1, fun j m hm => ?_⟩, ?_, fun e => h.ne (by rw [← e]; rfl)⟩
  · have := hc _ _ (msv_get _ j m hm).2
    rw [Nat.add_assoc]
    exact this
  · rcases h.row.2 with ⟨e, _⟩ | ⟨g', o', cap, cur, e, _, _, h4, _⟩
    · cases e
    · cases e; exact h4
theorem bodies_all (w : World) (b : Nat) (L : Lk) (rv : Value) (tb gb : Nat) (tm : Bool) (gn : Nat) (h : Lw w b L rv) (hwin : 0 ≤ L.window)
    (ht : w.heap[tb]? = some (.cells #[.bool tm] 4 (0, 0))) (htb : tb ≠ b) (hgo : w.heap[gb]? = some (.cells #[.int .u64 (gn : Int)] 26 (0, 0))) (hgb : gb ≠ b) (hT : C.Tab w) (hb0 : 0 < b) (hlen : L.row.length ≤ 1099511627776) :
    Calls Tryd.prog 20 #[.pointer (some ⟨b, 0, none⟩), .func (.func 21) #[] #[.pointer (some ⟨tb, 0, none⟩), .pointer (some ⟨gb, 0, none⟩)]] w fun e w' => ∃ a cc q, e = .returned (.slice a q cc) ∧ Bd w w' b L rv tm gn a cc q (inWin L) := by
  by_cases hk : L.known = 0
  · have hi : inWin L = [] := by unfold inWin; rw [if_pos hk]
    rw [hi]
    refine (bodies_none w b L rv h.lb hk _).mono ?_
    rintro e w' ⟨rfl, rfl⟩
    exact ⟨none, 0, 0, rfl, h.lb, C.But.refl _ _, orow_nil _ _, rfl⟩
  · have hi : inWin L = L.row.take L.window.toNat := by unfold inWin; rw [if_neg hk]
    rw [hi]
    obtain ⟨a, c, hrv⟩ := h.form
    subst hrv
    cases a with
    | none =>
      have h0 : L.row.length = 0 ∧ c = 0 := by
        rcases h.row.2 with ⟨e, e2⟩ | ⟨_, _, _, _, e, _⟩
        · injection e with _ _ e3; exact ⟨e2, e3⟩
        · cases e
      have hr : L.row = [] := List.eq_nil_of_length_eq_zero h0.1
      have hl : Lb w b L (.slice none 0 0) := by have := h.lb; rw [h0.1, h0.2] at this; exact this
      refine (bodies_nil w b L hwin hl (by omega) _).mono ?_
      rintro e w' ⟨rfl, hb⟩
      rw [hr, List.take_nil, h0.2]
      exact ⟨none, 0, 0, rfl, hl.below hb, C.but_of hb b, orow_nil _ _, rfl⟩
    | some ad =>
      have hf : ∃ g o, ad = ⟨g, o, none⟩ := by
        rcases h.row.2 with ⟨e, _⟩ | ⟨g, o, _, _, e, _⟩
        · cases e
        · cases e; exact ⟨g, o, rfl⟩
      obtain ⟨g, o, rfl⟩ := hf
      obtain ⟨h1, h2, h3⟩ := h.ms
      exact bodies_any w b L g o c tb gb tm gn L.row h.lb h1 h2 h3 hwin (by omega) ht htb hgo hgb hT hb0 hlen
end Go.Proofs.YtfjhbbekeibpkaaDoor
namespace Go.Proofs.YtfjhbbekeibpkaaDoor
open Go.RowKit

/-! What a tick makes of a link -/
def tmL (L : Lk) : Bool := (decide (0 < L.row.length) || L.paced) && lnow L
def tkR (L : Lk) : Lk := if (decide (0 < L.row.length) || L.paced) = true then ltick L else L
def bodO (L : Lk) : List (List Nat) := outs L (tmL L) L.gone (inWin L)
def bodL (L : Lk) : Lk := gonL (tkR L) (tmL L) L.gone (inWin L)
def sayL (L : Lk) : Bool := L.ack || (L.asked || (L.paced && tmL L))
def midO (L : Lk) : List (List Nat) := if bodO L = [] then (if sayL L = true then [encB (lfr L 0 ⟨#[]⟩)] else []) else bodO L
def tickL (L : Lk) : Lk := if midO L = [] then bodL L else { bodL L with ack := false, asked := false }
theorem tkR_same (L : Lk) : (tkR L).window = L.window ∧ (tkR L).known = L.known ∧ (tkR L).gone = L.gone ∧ (tkR L).ack = L.ack ∧ (tkR L).asked = L.asked ∧ (tkR L).paced = L.paced ∧ (tkR L).row = L.row ∧ ∀ n s, lfr (tkR L) n s = lfr L n s := by
  unfold tkR ltick lfr; split
  · split <;> exact ⟨rfl, rfl, rfl, rfl, rfl, rfl, rfl, fun _ _ => rfl⟩
  · exact ⟨rfl, rfl, rfl, rfl, rfl, rfl, rfl, fun _ _ => rfl⟩
theorem outs_tkR (L : Lk) (tm : Bool) (gn : Nat) (ms : List (Nat × ByteArray)) : outs (tkR L) tm gn ms = outs L tm gn ms := by
  unfold outs
  congr 1
  funext m
  rw [(tkR_same L).2.2.2.2.2.2.2]
theorem inWin_tkR (L : Lk) : inWin (tkR L) = inWin L := by
  have := tkR_same L
  unfold inWin; rw [this.2.1, this.2.2.2.2.2.2.1, this.1]
structure TickPost (w : World) (b : Nat) (L : Lk) (rv : Value) (w' : World) (a : Option Addr) (cc q : Nat) : Prop where
  row : Orow w.heap.size w' a cc (midO L)
  len : (midO L).length = q
  lw : Lw w' b (tickL L) rv
  but : C.But b w w'
/-- Behind the pace. -/
structure Tk2 (w wc : World) (b tb : Nat) (T : Lk) (tm : Bool) (rv : Value) : Prop where
  lb : Lb wc b T rv
  tim : wc.heap[tb]? = some (.cells #[.bool tm] 4 (0, 0))
  but : C.But b w wc
  ne : tb ≠ b
theorem Tk2.below {w wc wd : World} {b tb : Nat} {T : Lk} {tm : Bool} {rv : Value} (h : Tk2 w wc b tb T tm rv) (hb : Below wc.heap.size wc wd) : Tk2 w wd b tb T tm rv :=
  ⟨h.lb.below hb, (hb.block tb (C.lt_of_block h.tim)).trans h.tim, h.but.trans (C.but_of hb b), h.ne⟩
/-- Behind the bodies and the word. -/
structure Tk3 (w wd : World) (b : Nat) (L : Lk) (rv : Value) (a : Option Addr) (cc q : Nat) (ps : List (List Nat)) : Prop where
  lb : Lb wd b (bodL L) rv
  but : C.But b w wd
  row : Orow w.heap.size wd a cc ps
  len : ps.length = q
theorem Orow.mono {B B' : Nat} {w : World} {a : Option Addr} {c : Nat} {ps : List (List Nat)} (h : Orow B w a c ps) (hB : B' ≤ B) : Orow B' w a c ps := by
  obtain ⟨vs, h1, h2⟩ := h
  refine ⟨vs, ⟨h1.1, h1.2.imp id ?_⟩, fun i p hp => ?_⟩
  · rintro ⟨g, cap, cur, e1, e2, r⟩
    exact ⟨g, cap, cur, e1, Nat.le_trans hB e2, r⟩
  · obtain ⟨sp, q1, q2, q3⟩ := h2 i p hp
    exact ⟨sp, q1, mine_mono q2 hB, q3⟩
theorem bodL_same (L : Lk) : (bodL L).ack = L.ack ∧ (bodL L).asked = L.asked ∧ (bodL L).paced = L.paced ∧ (bodL L).row = L.row ∧ ∀ n s, lfr (bodL L) n s = lfr L n s := by
  have := tkR_same L
  exact ⟨this.2.2.2.1, this.2.2.2.2.1, this.2.2.2.2.2.1, this.2.2.2.2.2.2.1, fun n s => this.2.2.2.2.2.2.2 n s⟩
set_option maxRecDepth 100000 in
set_option maxHeartbeats 4000000 in
theorem tick_any (w : World) (b : Nat) (L : Lk) (rv : Value) (h : Lw w b L rv) (hw : 0 ≤ L.window) (ho : L.Pok) (hT : C.Tab w) (hb0 : 0 < b) (hlen : L.row.length ≤ 1099511627776) :
    Calls Tryd.prog 8 #[.pointer (some ⟨b, 0, none⟩)] w fun e w' => ∃ a cc q, e = .returned (.slice a q cc) ∧ TickPost w b L rv w' a cc q := by
  obtain ⟨ar, cr, hrv⟩ := h.form
  obtain ⟨q0, hq0⟩ : ∃ q0, L.row.length = q0 := ⟨_, rfl⟩
  have hlb0 := h.lb
  rw [hrv, hq0] at hlb0
  have HR := hide (rlen_any w b L ar q0 cr hlb0)
  have HLw := hide h
  have HL := hide h.lb
  have HT := hide hT
  have HPk := hide ho
  have hlt := C.lt_of_block h.lb
  obtain ⟨tm, htm⟩ : ∃ tm, tmL L = tm := ⟨_, rfl⟩
  have HTm := hide htm
  have HTk := hide (tkR_same L)
  have HQ0 := hide hq0
  have Hlen := hide hlen
  clear h hT htm ho hrv hlb0 hq0 hlen
  go_enter Tryd.func8, Tryd.ntmps8
  go_upto_region 1 with (fail)
  go_cut [3] from 6 to 23 (fun s3 wc => ∃ tb, s3 = .pointer (some ⟨tb, 0, none⟩) ∧ Hid (Tk2 w wc b tb (tkR L) tm rv))
  case first =>
    obtain ⟨-, -, -, -, -, -, -, -, -, -, -, -, -, -, c14, -⟩ := blk15 HL.out
    have HP0 := hide (ptick_any w b L rv HL.out HPk.out)
    by_cases hq : 0 < q0
    · have i1 : (0 : Int) < (q0 : Int) := by omega
      have hn : lnow L = tm := by rw [← HTm.out]; unfold tmL; rw [HQ0.out, decide_eq_true hq]; simp
      have ht : tkR L = ltick L := by unfold tkR; rw [HQ0.out, decide_eq_true hq]; simp
      rw [hn, ← ht] at HP0
      clear hn ht
      go_wp2_with fail
      refine HR.out.mono ?_
      rintro e w1 ⟨rfl, rfl⟩
      go_wp2_with fail
      refine HP0.out.mono ?_
      rintro e w2 ⟨rfl, hl2, ho2⟩
      have HL2 := hide hl2
      have HO2 := hide ho2
      clear hl2 ho2
      go_wp2_with fail
      go_meet
      have hb3 : Below w2.heap.size w2 (w2.alloc (.cells #[.bool tm] 4)) := (Below.refl _ _).alloc (Nat.le_refl _) _
      exact ⟨_, rfl, hide ⟨HL2.out.below hb3, heap_alloc_new _ _, HO2.out.but.trans (C.but_of hb3 b), by have := C.lt_of_block HL2.out; omega⟩⟩
    · obtain rfl : q0 = 0 := by omega
      cases hp : L.paced with
      | true =>
        rw [hp] at c14
        have hn : lnow L = tm := by rw [← HTm.out]; unfold tmL; rw [hp]; simp
        have ht : tkR L = ltick L := by unfold tkR; rw [hp]; simp
        rw [hn, ← ht] at HP0
        clear hn ht
        go_wp2_with fail
        refine HR.out.mono ?_
        rintro e w1 ⟨rfl, rfl⟩
        go_wp2_with fail
        refine HP0.out.mono ?_
        rintro e w2 ⟨rfl, hl2, ho2⟩
        have HL2 := hide hl2
        have HO2 := hide ho2
        clear hl2 ho2
        go_wp2_with fail
        go_meet
        have hb3 : Below w2.heap.size w2 (w2.alloc (.cells #[.bool tm] 4)) := (Below.refl _ _).alloc (Nat.le_refl _) _
        exact ⟨_, rfl, hide ⟨HL2.out.below hb3, heap_alloc_new _ _, HO2.out.but.trans (C.but_of hb3 b), by have := C.lt_of_block HL2.out; omega⟩⟩
      | false =>
        rw [hp] at c14
        have hn : tm = false := by rw [← HTm.out]; unfold tmL; rw [hp, HQ0.out]; rfl
        have ht : tkR L = L := by unfold tkR; rw [hp, HQ0.out]; rfl
        subst hn
        go_wp2_with fail
        refine HR.out.mono ?_
        rintro e w1 ⟨rfl, rfl⟩
        go_wp2_with fail
        go_meet
        have hb3 : Below w1.heap.size w1 (w1.alloc (.cells #[.bool false] 4)) := (Below.refl _ _).alloc (Nat.le_refl _) _
        exact ⟨_, rfl, hide ⟨by rw [ht]; exact HL.out.below hb3, heap_alloc_new _ _, C.but_of hb3 b, by omega⟩⟩
  case rest =>
    obtain ⟨tb, rfl, HK⟩ := hcut
    obtain ⟨-, -, -, -, -, -, -, c7, -⟩ := blk15 HK.out.lb
    have htb := C.lt_of_block HK.out.tim
    go_wp2_with fail
    have hb3 : Below wc.heap.size wc (wc.alloc (.cells #[.int .u64 ((tkR L).gone : Int)] 26)) := (Below.refl _ _).alloc (Nat.le_refl _) _
    have hK3 := HK.out.below hb3
    have hlw3 : Lw (wc.alloc (.cells #[.int .u64 ((tkR L).gone : Int)] 26)) b (tkR L) rv := HLw.out.but hK3.but hK3.lb HTk.out.2.2.2.2.2.2.1
    have hbc := C.lt_of_block HK.out.lb
    have hTc : C.Tab (wc.alloc (.cells #[.int .u64 ((tkR L).gone : Int)] 26)) := fun j hj => by
      have hpos := HT.out.pos
      rw [World.cell?_of_block (w := w) (a := ⟨0, j, none⟩) (hK3.but.block 0 hpos (by omega))]; exact HT.out j hj
    refine (bodies_all _ b (tkR L) rv tb wc.heap.size tm (tkR L).gone hlw3 (by rw [HTk.out.1]; exact hw) hK3.tim hK3.ne (heap_alloc_new _ _) (by omega) hTc hb0 (by rw [HTk.out.2.2.2.2.2.2.1]; exact Hlen.out)).mono ?_
    rintro e w4 ⟨a, cc, q, rfl, hbd⟩
    have hM : Tk3 w w4 b L rv a cc q (bodO L) := by
      have h1 := hbd.lb
      have h2 := hbd.row
      have h3 := hbd.len
      have hsz := hK3.but.size
      rw [HTk.out.2.2.1] at hsz
      rw [HTk.out.2.2.1, inWin_tkR, ← HTm.out] at h1
      rw [HTk.out.2.2.1, inWin_tkR, ← HTm.out, outs_tkR] at h2 h3
      exact ⟨h1, hK3.but.trans hbd.but, h2.mono hsz, h3⟩
    have htim : w4.heap[tb]? = _ := (hbd.but.block tb (C.lt_of_block hK3.tim) hK3.ne).trans hK3.tim
    have HM := hide hM
    clear hb3 hK3 hlw3 hTc hbd hM c7 htb HK HR hbc
    obtain ⟨-, -, -, -, -, -, -, -, -, c9, -, -, -, c13, c14, -⟩ := blk15 HM.out.lb
    have HBs := hide (bodL_same L)
    rw [HBs.out.1] at c9
    rw [HBs.out.2.1] at c13
    rw [HBs.out.2.2.1] at c14
    have t0 : w4.cell? ⟨tb, 0, none⟩ = some (.bool tm) := by simp [World.cell?, htim]
    clear htim
    have HSy : Hid (sayL L = (L.ack || (L.asked || (L.paced && tm)))) := by
      show _ = _
      unfold sayL
      rw [HTm.out]
    go_upto_region 4 with (fail)
    go_cut [56] from 32 to 55 (fun s56 wd => s56 = .bool (decide (q = 0) && sayL L) ∧ Hid (wd = w4))
    case first =>
      by_cases hq : q = 0
      · subst hq
        cases ha : L.ack with
        | true =>
          rw [ha] at c9
          go_wp2_with fail
          go_meet
          exact ⟨by rw [HSy.out, ha]; rfl, rfl⟩
        | false =>
          rw [ha] at c9
          cases hs : L.asked with
          | true =>
            rw [hs] at c13
            go_wp2_with fail
            go_meet
            exact ⟨by rw [HSy.out, ha, hs]; rfl, rfl⟩
          | false =>
            rw [hs] at c13
            cases hp : L.paced with
            | true =>
              rw [hp] at c14
              go_wp2_with fail
              go_meet
              exact ⟨by rw [HSy.out, ha, hs, hp]; cases tm <;> rfl, rfl⟩
            | false =>
              rw [hp] at c14
              go_wp2_with fail
              go_meet
              exact ⟨by rw [HSy.out, ha, hs, hp]; rfl, rfl⟩
      · have hzb : ((q : Int) == 0) = false := by simpa using hq
        have HD : Hid (decide (q = 0) = false) := decide_eq_false hq
        clear hq
        go_wp2_with fail
        go_meet
        exact ⟨by rw [HD.out]; rfl, rfl⟩
    case rest =>
      obtain ⟨rfl, hwc⟩ := hcut
      rename World => wd
      have hwc' : wd = w4 := hwc
      subst hwc'
      clear c9 c13 c14 t0 hwc HSy HTk HTm
      have HLn : Hid ((bodO L).length = q) := HM.out.len
      by_cases hq : q = 0
      · subst hq
        have hbo : bodO L = [] := List.eq_nil_of_length_eq_zero HLn.out
        cases hs : sayL L with
        | false =>
          have hmo : midO L = [] := by unfold midO; rw [if_pos hbo, hs]; rfl
          have htl : tickL L = bodL L := by unfold tickL; rw [if_pos hmo]
          have HH := hide (And.intro hbo (And.intro hmo htl))
          clear hbo hmo htl
          go_wp2
          go_ret
          refine ⟨a, cc, 0, rfl, by rw [HH.out.2.1, ← HH.out.1]; exact HM.out.row, by rw [HH.out.2.1]; rfl, ?_, HM.out.but⟩
          rw [HH.out.2.2]
          exact HLw.out.but HM.out.but HM.out.lb HBs.out.2.2.2.1
        | true =>
          have hmo : midO L = [encB (lfr L 0 ⟨#[]⟩)] := by unfold midO; rw [if_pos hbo, hs]; rfl
          have htl : tickL L = { bodL L with ack := false, asked := false } := by unfold tickL; rw [hmo]; rfl
          have HH := hide (And.intro hbo (And.intro hmo htl))
          clear hbo hmo htl
          have HTb : Hid (C.Tab wd) := fun j hj => by
            have hpos := HT.out.pos
            rw [World.cell?_of_block (w := w) (a := ⟨0, j, none⟩) (HM.out.but.block 0 hpos (by omega))]; exact HT.out j hj
          have HF := hide (frame_any wd b (bodL L) rv 0 ⟨#[]⟩ HM.out.lb HTb.out)
          rw [HBs.out.2.2.2.2] at HF
          have hsm : Hid (∀ x ∈ encB (lfr L 0 ⟨#[]⟩), x < 256) := encB_small (by intro x hx; simp [lfr, nums] at hx)
          obtain ⟨EB, hEB⟩ : ∃ EB, encB (lfr L 0 ⟨#[]⟩) = EB := ⟨_, rfl⟩
          rw [hEB] at HF hsm HH
          clear hEB
          have hsd : b < wd.heap.size := C.lt_of_block HM.out.lb
          have hs0 : w.heap.size ≤ wd.heap.size := HM.out.but.size
          obtain ⟨i0, hi, hz0, hz1, hz2⟩ := info_parts Tryd.infoSl
          go_wp2_with fail
          refine HF.out.mono ?_
          rintro e w5 ⟨sq, m, hm, rfl, hmi, hb5⟩
          subst hm
          have hr5 := HM.out.row.same (fun k _ hk => hb5.block k hk)
          rw [HH.out.1] at hr5
          obtain ⟨vs, ho5, hel⟩ := hr5
          have hvn : vs = [] := List.eq_nil_of_length_eq_zero (by have := ho5.1; simpa using this)
          subst hvn
          simp only [List.length_nil] at ho5
          have HO5 := hide (ho5.alloc (.cells #[.slice sq EB.length EB.length] 27))
          have Hel := hide hel
          have HU5 : Hid (∀ (k : Nat) (D : Array Value) (fr : Nat × Nat), w5.heap[k]? = some (.cells D 5 fr) → some k ≠ (Value.slice a 0 cc).ownBlock) := by
            intro k D fr hk e
            rcases ho5.2 with ⟨h1, _⟩ | ⟨g2, _, _, h1, _, h3, _⟩
            · rw [h1] at e; simp [Value.ownBlock] at e
            · rw [h1] at e; simp [Value.ownBlock] at e; subst e
              rw [h3] at hk; simp at hk
          have HOl : Hid (∀ k, (Value.slice a 0 cc).ownBlock = some k → w.heap.size ≤ k ∧ k < w5.heap.size) := ho5.lt
          have HMi := hide (mine_mono hmi hs0)
          have HL5 := hide (HM.out.lb.below hb5)
          have HBt5 : Hid (C.But b w w5) := HM.out.but.trans (C.but_of hb5 b)
          have hs5 : wd.heap.size ≤ w5.heap.size := hb5.size
          clear hmi hb5 HF ho5 hel
          go_wp2_with (at_builtin; refine wpList_append_lies _ rfl (.tmp 57) (.tmp 61) 35 rfl w.heap.size 27 i0 (.slice none 0 0) 1 24 Tryd.underlying35 hi hz0 hz1 hz2 rfl (by omega) (.slice a 0 cc) 0 [] rfl HO5.out ⟨w5.heap.size, 0, none⟩ 1 1 [.slice sq EB.length EB.length] rfl rfl (World.news_of_block (heap_alloc_new w5 (.cells #[.slice sq EB.length EB.length] 27))) (by simp [Value.oneCell']) (by omega) (by unfold maxLen; omega) (by omega) (by simp; omega) _ rfl ?_; intro g' cap' w6 hown hgrow hat hltg; have HK6 : Hid (∀ k, k < w5.heap.size → some k ≠ (Value.slice a 0 cc).ownBlock → w6.heap[k]? = w5.heap[k]?) := (fun k hk hne => (hgrow.block k (by simp; omega) hne).trans (heap_alloc_old w5 _ hk)); have HO6 := hide hown; have HG6 := hide hgrow; have hl6 := HL5.out.kept (HK6.out b (by omega) (fun e => (by have := HOl.out b e.symm; omega))); have HL6 := hide hl6; obtain ⟨-, -, -, -, -, -, -, -, -, c9, -, -, -, c13, -, cf⟩ := blk15 hl6; have hlt6 : b < w6.heap.size := C.lt_of_block hl6; clear hown hgrow hat hl6)
          go_ret
          have hsz6 : w5.heap.size ≤ w6.heap.size := by have := HG6.out.size; simp at this; omega
          have hbt6 : C.But b w w6 := by
            have h5 := HBt5.out
            refine ⟨(HG6.out.os).trans h5.os, (HG6.out.tape).trans h5.tape, (HG6.out.output).trans h5.output, by omega, fun k hk hkb2 => ?_⟩
            rw [HK6.out k (by omega) (fun e => by have := HOl.out k e.symm; omega)]
            exact h5.block k hk hkb2
          have hk : ∀ k, k ≠ b → ((w6.setCell ⟨b, 9, none⟩ (.bool false)).setCell ⟨b, 13, none⟩ (.bool false)).heap[k]? = w6.heap[k]? := fun k hk =>
            (Below.heap_setCell _ _ _ _ (by simpa using hk)).trans (Below.heap_setCell _ _ _ _ (by simpa using hk))
          have hbt := (hbt6.setCell (p := ⟨b, 9, none⟩) (Or.inl rfl) (.bool false)).setCell (p := ⟨b, 13, none⟩) (Or.inl rfl) (.bool false)
          refine ⟨some ⟨g', 0, none⟩, cap', 1, rfl, ?_, by rw [HH.out.2.1]; rfl, ?_, hbt⟩
          · rw [HH.out.2.1]
            have ho : Orow w.heap.size w6 (some ⟨g', 0, none⟩) cap' ([] ++ [EB]) :=
              orow_add (vs := []) rfl Hel.out HO6.out HMi.out hsm.out (fun k D fr _ hk => HK6.out k (C.lt_of_block hk) (HU5.out k D fr hk))
            exact ho.same (fun k hk1 _ => hk k (by omega))
          · rw [HH.out.2.2]
            exact HLw.out.but hbt ((HL6.out.set 9 (.bool false) { bodL L with ack := false } _ rfl).set 13 (.bool false) _ _ rfl) HBs.out.2.2.2.1
      · have hbo : ¬ bodO L = [] := fun e => hq (by rw [← HLn.out, e]; rfl)
        have hmo : midO L = bodO L := by unfold midO; rw [if_neg hbo]
        have htl : tickL L = { bodL L with ack := false, asked := false } := by unfold tickL; rw [hmo, if_neg hbo]
        have HH := hide (And.intro hmo htl)
        have i1 : (0 : Int) < (q : Int) := by omega
        have hd : decide (q = 0) = false := decide_eq_false hq
        have HL4 := hide HM.out.lb
        obtain ⟨-, -, -, -, -, -, -, -, -, c9, -, -, -, c13, -, cf⟩ := blk15 HM.out.lb
        have hlt4 := C.lt_of_block HM.out.lb
        rw [hd, Bool.false_and]
        clear hbo hmo htl hq hd
        go_wp2
        go_ret
        have hk : ∀ k, k ≠ b → ((wd.setCell ⟨b, 9, none⟩ (.bool false)).setCell ⟨b, 13, none⟩ (.bool false)).heap[k]? = wd.heap[k]? := fun k hk =>
          (Below.heap_setCell _ _ _ _ (by simpa using hk)).trans (Below.heap_setCell _ _ _ _ (by simpa using hk))
        have hbt := (HM.out.but.setCell (p := ⟨b, 9, none⟩) (Or.inl rfl) (.bool false)).setCell (p := ⟨b, 13, none⟩) (Or.inl rfl) (.bool false)
        refine ⟨a, cc, q, rfl, ?_, by rw [HH.out.1]; exact HM.out.len, ?_, hbt⟩
        · rw [HH.out.1]
          exact HM.out.row.same (fun k hk1 _ => hk k (by omega))
        · rw [HH.out.2]
          exact HLw.out.but hbt ((HL4.out.set 9 (.bool false) { bodL L with ack := false } _ rfl).set 13 (.bool false) _ _ rfl) HBs.out.2.2.2.1
end Go.Proofs.YtfjhbbekeibpkaaDoor
