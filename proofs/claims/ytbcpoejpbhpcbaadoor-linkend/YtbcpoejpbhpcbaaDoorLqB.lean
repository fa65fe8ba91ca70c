import Derived.Test.YtbcpoejpbhpcbaaDoorLkK
namespace Go.Proofs.YtbcpoejpbhpcbaaDoor
open Go.RowKit

theorem blk4 {w : World} {b : Nat} {x0 x1 x2 x3 : Value} {t : TypeId} (h : w.heap[b]? = some (.cells #[x0, x1, x2, x3] t (0, 0))) :
    w.cell? ⟨b, 0, none⟩ = some x0 ∧ w.cell? ⟨b, 1, none⟩ = some x1 ∧ w.cell? ⟨b, 2, none⟩ = some x2 ∧ w.cell? ⟨b, 3, none⟩ = some x3 ∧ (∀ o, w.frozen? ⟨b, o, none⟩ = false) :=
  ⟨by simp [World.cell?, h], by simp [World.cell?, h], by simp [World.cell?, h], by simp [World.cell?, h], fun o => by simp [World.frozen?, h]⟩
set_option maxRecDepth 100000 in
theorem owe_any (w : World) (b : Nat) (L : Lk) (rv : Value) (h : Lb w b L rv) :
    Calls Tryd.prog 9 #[.pointer (some ⟨b, 0, none⟩)] w fun e w' => e = .returned (.tuple #[]) ∧ Lb w' b { L with asked := true } rv ∧ Onl b w w' := by
  obtain ⟨-, -, -, -, -, -, -, -, -, -, -, -, -, c13, -, cf⟩ := blk15 h
  have H := hide h
  clear h
  go_enter Tryd.func9, Tryd.ntmps9
  go_wp2
  go_end0
  exact ⟨rfl, H.out.set 13 _ _ rv rfl, (Onl.refl b w).set 13 _⟩
set_option maxRecDepth 100000 in
theorem life_any (w : World) (b : Nat) (L : Lk) (rv : Value) (h : Lb w b L rv) :
    Calls Tryd.prog 8 #[.pointer (some ⟨b, 0, none⟩)] w fun e w' => e = .returned (.int .u64 (L.known : Int)) ∧ w' = w := by
  obtain ⟨-, -, -, -, c4, -⟩ := blk15 h
  clear h
  go_enter Tryd.func8, Tryd.ntmps8
  go_wp2
  go_ret
  exact ⟨rfl, rfl⟩
theorem run_clear_nil (t : TypeId) (c : Nat) (w : World) : Sem.run Tryd.prog (Builtin.clear_ #[64] t #[.slice none 0 c]) w = .ok (.tuple #[]) w := by
  simp [Builtin.clear_, run_underlying Tryd.underlying64]
set_option maxRecDepth 100000 in
set_option maxHeartbeats 1000000 in
/-- Nothing leaves an empty row. -/
theorem letGo_nil (w : World) (b : Nat) (L : Lk) (h : Lb w b L (.slice none 0 0)) (fv : Value) :
    Calls Tryd.prog 62 #[.pointer (some ⟨b, 5, none⟩), fv] w fun e w' => e = .returned (.tuple #[]) ∧ Lb w' b L (.slice none 0 0) ∧ C.But b w w' := by
  obtain ⟨-, -, -, -, -, c5, -, -, -, -, -, -, -, -, -, cf⟩ := blk15 h
  have hcl := run_clear_nil
  have H := hide h
  clear h
  go_enter Tryd.func62, Tryd.ntmps62
  go_wp2
  refine wp_loop_rounds 1 ?_
  rw [rounds_succ]
  go_wp2
  go_end0
  exact ⟨rfl, H.out.set 5 _ L _ rfl, (C.But.refl b w).setCell (p := ⟨b, 5, none⟩) (Or.inl rfl) _⟩
set_option maxRecDepth 100000 in
set_option maxHeartbeats 1000000 in
theorem first_nil (w : World) (b : Nat) (L : Lk) (win : Int) (hw : 0 ≤ win) (h : Lb w b L (.slice none 0 0)) :
    Calls Tryd.prog 46 #[.pointer (some ⟨b, 5, none⟩), .int .i64 win] w fun e w' => e = .returned (.slice none 0 0) ∧ Below w.heap.size w w' := by
  obtain ⟨-, -, -, -, -, c5, -⟩ := blk15 h
  have hmin : min win 0 = 0 := by omega
  clear h
  go_enter Tryd.func46, Tryd.ntmps46
  go_wp2
  go_region_held3 (fun w' => w'.cell? ⟨b, 5, none⟩ = some (.slice none 0 0)) (go_keep) (fail)
  all_goals go_wp2
  all_goals go_ret
  all_goals exact ⟨rfl, (Below.refl _ _).drew⟩
set_option maxRecDepth 100000 in
set_option maxHeartbeats 1000000 in
theorem bodies_nil (w : World) (b : Nat) (L : Lk) (hw : 0 ≤ L.window) (h : Lb w b L (.slice none 0 0)) (hk : 0 < L.known) (fv : Value) :
    Calls Tryd.prog 29 #[.pointer (some ⟨b, 0, none⟩), fv] w fun e w' => e = .returned (.slice none 0 0) ∧ Below w.heap.size w w' := by
  have HK := hide (known_any w b L _ h)
  rw [decide_eq_true hk] at HK
  have HF := hide (first_nil w.drew b L L.window hw h)
  obtain ⟨-, -, -, c3, -⟩ := blk15 h
  have hlt := C.lt_of_block h
  clear h
  go_enter Tryd.func29, Tryd.ntmps29
  go_wp2_with fail
  refine HK.out.mono ?_
  rintro e w1 ⟨rfl, rfl⟩
  go_wp2
  go_region_held3 (fun w' => w'.cell? ⟨b, 3, none⟩ = some (.int .i64 L.window)) (go_keep) (first | (go_at_call 46; refine HF.out.mono ?_; rintro e w2 ⟨rfl, hb2⟩; have c3n := (hb2.cell (p := ⟨b, 3, none⟩) hlt).trans c3; have HB2 := hide hb2; clear hb2))
  go_wp2
  refine wp_loop_rounds 1 ?_
  rw [rounds_succ]
  go_wp2
  go_ret
  exact ⟨rfl, Below.trans ((Below.refl _ _).drew) HB2.out⟩
end Go.Proofs.YtbcpoejpbhpcbaaDoor
namespace Go.Proofs.YtbcpoejpbhpcbaaDoor
open Go.RowKit

/-! A link with an empty row: what a tick makes of it -/
def tkL (L : Lk) : Lk := if L.paced = true then ltick L else L
def saysN (L : Lk) : Bool := L.ack || (L.asked || (L.paced && lnow L))
def tickN (L : Lk) : Lk := if saysN L = true then { tkL L with ack := false, asked := false } else tkL L
theorem ltick_same (L : Lk) : (ltick L).me = L.me ∧ (ltick L).other = L.other ∧ (ltick L).life = L.life ∧ (ltick L).window = L.window ∧ (ltick L).known = L.known ∧ (ltick L).gone = L.gone ∧ (ltick L).handed = L.handed ∧ (ltick L).ack = L.ack ∧ (ltick L).asked = L.asked ∧ (ltick L).paced = L.paced ∧ (ltick L).lim = L.lim := by
  unfold ltick; split <;> exact ⟨rfl, rfl, rfl, rfl, rfl, rfl, rfl, rfl, rfl, rfl, rfl⟩
theorem tkL_same (L : Lk) : (tkL L).me = L.me ∧ (tkL L).other = L.other ∧ (tkL L).life = L.life ∧ (tkL L).window = L.window ∧ (tkL L).known = L.known ∧ (tkL L).gone = L.gone ∧ (tkL L).handed = L.handed ∧ (tkL L).ack = L.ack ∧ (tkL L).asked = L.asked ∧ (tkL L).paced = L.paced ∧ (tkL L).lim = L.lim := by
  unfold tkL; split
  · exact ltick_same L
  · exact ⟨rfl, rfl, rfl, rfl, rfl, rfl, rfl, rfl, rfl, rfl, rfl⟩
theorem ltick_pok {L : Lk} (h : L.Pok) : (ltick L).Pok := by
  unfold ltick
  obtain ⟨h1, h2, h3⟩ := h
  split
  · exact ⟨by show L.left - 1 ≤ 64; omega, h2, h3⟩
  · refine ⟨h2, ?_, h3⟩
    show (match L.lim with | none => L.gap | some m => min (2 * L.gap) m) ≤ 64
    cases hl : L.lim with
    | none => exact h2
    | some m => have := h3 m hl; show min _ _ ≤ 64; omega
theorem tkL_pok {L : Lk} (h : L.Pok) : (tkL L).Pok := by
  unfold tkL; split
  · exact ltick_pok h
  · exact h
theorem tickN_pok {L : Lk} (h : L.Pok) : (tickN L).Pok := by
  unfold tickN; split
  · exact ⟨(tkL_pok h).l, (tkL_pok h).g, (tkL_pok h).m⟩
  · exact tkL_pok h
theorem tickN_same (L : Lk) : (tickN L).me = L.me ∧ (tickN L).other = L.other ∧ (tickN L).life = L.life ∧ (tickN L).window = L.window ∧ (tickN L).known = L.known ∧ (tickN L).gone = L.gone ∧ (tickN L).handed = L.handed ∧ (tickN L).paced = L.paced := by
  have := tkL_same L
  unfold tickN; split
  · exact ⟨this.1, this.2.1, this.2.2.1, this.2.2.2.1, this.2.2.2.2.1, this.2.2.2.2.2.1, this.2.2.2.2.2.2.1, this.2.2.2.2.2.2.2.2.2.1⟩
  · exact ⟨this.1, this.2.1, this.2.2.1, this.2.2.2.1, this.2.2.2.2.1, this.2.2.2.2.2.1, this.2.2.2.2.2.2.1, this.2.2.2.2.2.2.2.2.2.1⟩
/-- Bodies of an empty row. -/
theorem bodies_empty (w : World) (b : Nat) (L : Lk) (hw : 0 ≤ L.window) (h : Lb w b L (.slice none 0 0)) (fv : Value) :
    Calls Tryd.prog 29 #[.pointer (some ⟨b, 0, none⟩), fv] w fun e w' => e = .returned (.slice none 0 0) ∧ Below w.heap.size w w' := by
  by_cases hk : L.known = 0
  · exact (bodies_none w b L _ h hk fv).mono fun e w' ⟨h1, h2⟩ => ⟨h1, by rw [h2]; exact Below.refl _ _⟩
  · exact bodies_nil w b L hw h (by omega) fv
def TkPost (w : World) (b : Nat) (L : Lk) (e : Ending) (w' : World) : Prop :=
  C.But b w w' ∧ Lb w' b (tickN L) (.slice none 0 0) ∧ ((saysN L = false ∧ e = .returned (.slice none 0 0)) ∨ (saysN L = true ∧ ∃ g cp sq m, e = .returned (.slice (some ⟨g, 0, none⟩) 1 cp) ∧ w'.cell? ⟨g, 0, none⟩ = some (.slice sq m m) ∧ m = (encB (lfr L 0 ⟨#[]⟩)).length ∧ C.Bytes w' sq (encB (lfr L 0 ⟨#[]⟩))))
/-- Behind the pace. -/
structure Tk1 (w wc : World) (b tb : Nat) (T : Lk) (tm : Bool) : Prop where
  lb : Lb wc b T (.slice none 0 0)
  tim : wc.heap[tb]? = some (.cells #[.bool tm] 4 (0, 0))
  but : C.But b w wc
  ne : tb ≠ b
theorem Tk1.below {w wc wd : World} {b tb : Nat} {T : Lk} {tm : Bool} (h : Tk1 w wc b tb T tm) (hb : Below wc.heap.size wc wd) : Tk1 w wd b tb T tm :=
  ⟨h.lb.below hb, (hb.block tb (C.lt_of_block h.tim)).trans h.tim, h.but.trans (C.but_of hb b), h.ne⟩
set_option maxRecDepth 100000 in
set_option maxHeartbeats 4000000 in
theorem tick_nil (w : World) (b : Nat) (L : Lk) (h : Lb w b L (.slice none 0 0)) (hw : 0 ≤ L.window) (ho : L.Pok) (hT : C.Tab w) (hb0 : 0 < b) :
    Calls Tryd.prog 18 #[.pointer (some ⟨b, 0, none⟩)] w (TkPost w b L) := by
  have HR := hide (rlen_any w b L none 0 0 h)
  have HL := hide h
  have HT := hide hT
  have HPk := hide ho
  have hlt := C.lt_of_block h
  obtain ⟨tm, htm⟩ : ∃ tm, (L.paced && lnow L) = tm := ⟨_, rfl⟩
  have HTm := hide htm
  have HTk := hide (tkL_same L)
  clear h hT htm ho
  go_enter Tryd.func18, Tryd.ntmps18
  go_upto_region 1 with (fail)
  go_cut [3] from 6 to 23 (fun s3 wc => ∃ tb, s3 = .pointer (some ⟨tb, 0, none⟩) ∧ Hid (Tk1 w wc b tb (tkL L) tm))
  case first =>
    obtain ⟨-, -, -, -, -, -, -, -, -, -, -, -, -, -, c14, -⟩ := blk15 HL.out
    cases hp : L.paced with
    | true =>
      rw [hp] at c14
      have HP := hide (ptick_any w b L _ HL.out HPk.out)
      have hn : lnow L = tm := by rw [← HTm.out, hp]; rfl
      have ht : tkL L = ltick L := by unfold tkL; rw [if_pos hp]
      rw [hn, ← ht] at HP
      clear hn ht
      go_wp2_with fail
      refine HR.out.mono ?_
      rintro e w1 ⟨rfl, rfl⟩
      go_wp2_with fail
      refine HP.out.mono ?_
      rintro e w2 ⟨rfl, hl2, ho2⟩
      have HL2 := hide hl2
      have HO2 := hide ho2
      clear hl2 ho2
      go_wp2_with fail
      go_meet
      have hb3 : Below w2.heap.size w2 (w2.alloc (.cells #[.bool tm] 4)) := (Below.refl _ _).alloc (Nat.le_refl _) _
      exact ⟨_, rfl, hide ⟨HL2.out.below hb3, heap_alloc_new _ _, ⟨hb3.os.trans HO2.out.os, hb3.tape.trans HO2.out.tape, hb3.output.trans HO2.out.output, by have := hb3.size; have := HO2.out.size; omega, fun k hk hkb => (hb3.block k (by rw [HO2.out.size]; exact hk)).trans (HO2.out.block k hkb)⟩, by have := C.lt_of_block HL2.out; omega⟩⟩
    | false =>
      rw [hp] at c14
      have hn : tm = false := by rw [← HTm.out, hp]; rfl
      have ht : tkL L = L := by unfold tkL; rw [hp]; rfl
      subst hn
      go_wp2_with fail
      refine HR.out.mono ?_
      rintro e w1 ⟨rfl, rfl⟩
      go_wp2_with fail
      go_meet
      have hb3 : Below w1.heap.size w1 (w1.alloc (.cells #[.bool false] 4)) := (Below.refl _ _).alloc (Nat.le_refl _) _
      exact ⟨_, rfl, hide ⟨by rw [ht]; exact HL.out.below hb3, heap_alloc_new _ _, C.but_of hb3 b, by omega⟩⟩
  case rest =>
    obtain ⟨tb, rfl, HK⟩ := hcut
    obtain ⟨-, -, -, -, -, -, -, c7, -⟩ := blk15 HK.out.lb
    have htb := C.lt_of_block HK.out.tim
    go_wp2_with fail
    have hb3 : Below wc.heap.size wc (wc.alloc (.cells #[.int .u64 ((tkL L).gone : Int)] 33)) := (Below.refl _ _).alloc (Nat.le_refl _) _
    refine (bodies_empty _ b (tkL L) (by rw [HTk.out.2.2.2.1]; exact hw) (HK.out.lb.below hb3) _).mono ?_
    rintro e w4 ⟨rfl, hb4⟩
    have HK4 := hide ((HK.out.below hb3).below hb4)
    clear hb3 hb4 c7 htb HK HR
    obtain ⟨-, -, -, -, -, -, -, -, -, c9, -, -, -, c13, c14, -⟩ := blk15 HK4.out.lb
    rw [HTk.out.2.2.2.2.2.2.2.1] at c9
    rw [HTk.out.2.2.2.2.2.2.2.2.1] at c13
    rw [HTk.out.2.2.2.2.2.2.2.2.2.1] at c14
    have t0 : w4.cell? ⟨tb, 0, none⟩ = some (.bool tm) := by have := HK4.out.tim; simp [World.cell?, this]
    have HSy : Hid (saysN L = (L.ack || (L.asked || (L.paced && tm)))) := by
      show _ = _
      unfold saysN
      rw [← HTm.out]
      cases L.paced <;> cases lnow L <;> rfl
    go_upto_region 4 with (fail)
    go_cut [56] from 32 to 55 (fun s56 wd => s56 = .bool (saysN L) ∧ Hid (wd = w4))
    case first =>
      cases ha : L.ack with
      | true =>
        rw [ha] at c9
        go_wp2_with fail
        go_meet
        exact ⟨by rw [HSy.out, ha]; rfl, rfl⟩
      | false =>
        rw [ha] at c9
        cases hs : L.asked with
        | true =>
          rw [hs] at c13
          go_wp2_with fail
          go_meet
          exact ⟨by rw [HSy.out, ha, hs]; rfl, rfl⟩
        | false =>
          rw [hs] at c13
          cases hp : L.paced with
          | true =>
            rw [hp] at c14
            go_wp2_with fail
            go_meet
            exact ⟨by rw [HSy.out, ha, hs, hp]; cases tm <;> rfl, rfl⟩
          | false =>
            rw [hp] at c14
            go_wp2_with fail
            go_meet
            exact ⟨by rw [HSy.out, ha, hs, hp]; rfl, rfl⟩
    case rest =>
      obtain ⟨rfl, hwc⟩ := hcut
      rename World => wd
      have hwc' : wd = w4 := hwc
      subst hwc'
      clear c9 c13 c14 t0 hwc HSy
      have HTn : Hid ((saysN L = false → tickN L = tkL L) ∧ (saysN L = true → tickN L = { tkL L with ack := false, asked := false })) := by
        show _ ∧ _
        unfold tickN
        exact ⟨fun h => by rw [h]; rfl, fun h => by rw [h]; rfl⟩
      cases hs : saysN L with
      | false =>
        have HTf := hide (HTn.out.1 hs)
        have HSs := hide hs
        go_wp2
        go_ret
        exact ⟨HK4.out.but, by rw [HTf.out]; exact HK4.out.lb, Or.inl ⟨HSs.out, rfl⟩⟩
      | true =>
        have HTf := hide (HTn.out.2 hs)
        have HSs := hide hs
        have HTb : Hid (C.Tab wd) := fun j hj => by
          have hpos := HT.out.pos
          rw [World.cell?_of_block (w := w) (a := ⟨0, j, none⟩) (HK4.out.but.block 0 hpos (by omega))]; exact HT.out j hj
        have HF := hide (frame_any wd b (tkL L) _ 0 ⟨#[]⟩ HK4.out.lb HTb.out)
        have hlf : lfr (tkL L) 0 ⟨#[]⟩ = lfr L 0 ⟨#[]⟩ := by
          have := HTk.out
          unfold lfr
          rw [this.1, this.2.1, this.2.2.1, this.2.2.2.2.1, this.2.2.2.2.2.2.1]
        rw [hlf] at HF
        clear hlf
        go_wp2_with fail
        refine HF.out.mono ?_
        rintro e w5 ⟨sq, m, hm, rfl, hmi, hb5⟩
        obtain ⟨i0, hi, hz0, hz1, hz2⟩ := info_parts Tryd.infoSl
        have HM := hide hm
        have HMi := hide hmi
        have HL5 := hide (HK4.out.lb.below hb5)
        have HBt5 : Hid (C.But b w w5) := HK4.out.but.trans (C.but_of hb5 b)
        have hs5 : w.heap.size ≤ w5.heap.size := HBt5.out.size
        have hsd : b < wd.heap.size := C.lt_of_block HK4.out.lb
        have hsm : Hid (∀ x ∈ encB (lfr L 0 ⟨#[]⟩), x < 256) := encB_small (by intro x hx; simp [lfr, nums] at hx)
        clear hm hmi hb5 HF
        go_wp2_with (at_builtin; refine wpList_append_lies _ rfl (.tmp 57) (.tmp 61) 45 rfl w5.heap.size 29 i0 (.slice none 0 0) 1 24 Tryd.underlying45 hi hz0 hz1 hz2 rfl (by omega) (.slice none 0 0) 0 [] rfl ⟨rfl, Or.inl ⟨rfl, rfl⟩⟩ ⟨w5.heap.size, 0, none⟩ 1 1 [.slice sq m m] rfl rfl (World.news_of_block (heap_alloc_new w5 (.cells #[.slice sq m m] 29))) (by simp [Value.oneCell']) (by omega) (by unfold maxLen; omega) (by omega) (by simp) _ rfl ?_; intro g' cap' w6 hown hgrow hat hltg; have hb6 : Below w5.heap.size w5 w6 := ((Below.refl _ _).alloc (Nat.le_refl _) _).grown hgrow (by simp) (fun k e => by simp [Value.ownBlock] at e); have HO6 := hide hown; have HB6 := hide hb6; have HL6 := hide (HL5.out.below hb6); obtain ⟨-, -, -, -, -, -, -, -, -, c9, -, -, -, c13, -, cf⟩ := blk15 HL6.out; have hlt6 : b < w6.heap.size := Nat.lt_of_lt_of_le (by omega) hb6.size; clear hown hgrow hat hb6)
        go_ret
        obtain ⟨g, e1, e2, e3, e4⟩ := own_cell0 HO6.out
        cases e1
        have hne : g' ≠ b := by omega
        have hk : ∀ k, k ≠ b → ((w6.setCell ⟨b, 9, none⟩ (.bool false)).setCell ⟨b, 13, none⟩ (.bool false)).heap[k]? = w6.heap[k]? := fun k hk =>
          (Below.heap_setCell _ _ _ _ (by simpa using hk)).trans (Below.heap_setCell _ _ _ _ (by simpa using hk))
        have hbt : C.But b w w6 := HBt5.out.trans (C.but_of HB6.out b)
        refine ⟨(hbt.setCell (p := ⟨b, 9, none⟩) (Or.inl rfl) _).setCell (p := ⟨b, 13, none⟩) (Or.inl rfl) _, ?_, Or.inr ⟨HSs.out, g', cap', sq, m, rfl, ?_, HM.out, ?_⟩⟩
        · rw [HTf.out]
          exact (HL6.out.set 9 (.bool false) { tkL L with ack := false } _ rfl).set 13 (.bool false) _ _ rfl
        · rw [World.cell?_of_block (w := w6) (a := ⟨g', 0, none⟩) (hk g' hne)]; exact e2
        · refine Mine.c_bytes HMi.out hsm.out (fun k h1 h2 => ?_)
          exact (hk k (by omega)).trans (HB6.out.block k h2)
end Go.Proofs.YtbcpoejpbhpcbaaDoor
