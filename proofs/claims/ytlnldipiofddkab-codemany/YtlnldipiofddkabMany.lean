import Derived.Test.YtlnldipiofddkabRds
import Derived.Test.YtlnldipiofddkabOpen2
import Derived.Deep.Cut
import Derived.Deep.RegionLaw
namespace Go.Proofs.Ytlnldipiofddkab
open Go.RowKit

theorem into_64 (w : World) (n : Int) : Calls Try.prog 18 #[.int .i64 n, .int .i64 64] w fun e w' => e = .returned (.int .i64 (intoP n 64)) ∧ w' = w := by
  have e := tmod_of n 64
  split at e <;> exact into_any w n 64 (by omega) (by omega) (by omega) (by omega) (by omega)

theorem Try.infoPW : (Try.prog.info? 28).map (fun i => (i.zero, i.size, i.bytes)) = some (some (.pointer none), 1, 8) := by kernel_rfl
theorem Try.infoBs : (Try.prog.info? 22).map (fun i => (i.zero, i.size, i.bytes)) = some (some (.slice none 0 0), 1, 24) := by kernel_rfl
theorem Try.infoPR : (Try.prog.info? 32).map (fun i => (i.zero, i.size, i.bytes)) = some (some (.pointer none), 1, 8) := by kernel_rfl

theorem nil_row' (w : World) : w.ownsRow 0 5 1 (.slice none 0 0) ([] : List Nat).length (vals []) := ⟨rfl, Or.inl ⟨rfl, rfl⟩⟩

theorem kept_row {B0 n : Nat} {t : TypeId} {w w' : World} {v : Value} {xs : List Value} {r : Option Nat} (h : w.ownsRow B0 t 1 v n xs) (k : w.grownBy w' r) (hr : ∀ g, v.ownBlock = some g → r ≠ some g) : w'.ownsRow B0 t 1 v n xs :=
  owns_kept' h (fun g e => k.block g (owns_lt h g e) (fun e' => hr g e e'.symm))

theorem many_len {x j s la : Nat} (h : x ≤ 4 + j * 4194314) (hs : s ≤ 10) (hl : la ≤ 4194304) : x + (s + la) ≤ 4 + (j + 1) * 4194314 := by
  rw [Nat.add_mul]
  omega

/-- A call of the document's Text, as a step of a region that draws. -/
theorem step_text {ops : Array Oper} {o : Oper} {a : Act} {w : World} {K : Act → World → Prop} {Q : Exit → Act → World → Prop} {E : Prop}
    (hg : o.guard = none) (x : Operand) (hop : o.op = Op.call { callee := Callee.value (.func 17), args := #[x], argTypes := #[22] }) (v : Value) (hx : a.eval x = v)
    (R : Ending → World → Prop) (hC : Calls Try.prog 17 #[v] w R) (hK : ∀ e w', R e w' → ∃ u, e = .returned u ∧ K (a.put o.dst u) w') :
    if Region.wanted o (yielded ops a.tmps) = true then Oper.wp Try.prog o a w K Q else E := by
  have hw : Region.wanted o (yielded ops a.tmps) = true := by simp [Region.wanted, hg]
  rw [if_pos hw]
  unfold Oper.wp
  have e : execOp a.eval o = callFunc 17 #[v] := by
    obtain ⟨dst, op, type, pos, after, guard⟩ := o
    simp only at hop
    subst hop
    rw [execOp_call_go]
    simp [hx]
  rw [e]
  have e2 : (callFunc 17 #[v]).run Try.prog w = .ok (.enter 17 #[v]) w := by
    have h1 : (Try.f17.name = "runtime.NumGoroutine") = False := by simp [Try.f17]
    have h2 : (Try.f17.body = none) = False := by simp [Try.f17]
    simp [callFunc, go_sem, Try.func17, h1, h2]
  rw [e2, Oper.upon_enter]
  refine hC.mono ?_
  intro e w' h
  obtain ⟨u, rfl, hk⟩ := hK e w' h
  exact hk

set_option maxRecDepth 100000 in
set_option maxHeartbeats 8000000 in
theorem many_walk (w : World) (n0 : Int) (pb : Option Addr) (lb cb : Nat) (ts : List Txt) (hl : ts.length = lb) (_hlb : lb ≤ 140737488351232) (hT : TxtsIn w pb ts) :
    Calls Try.prog 4 #[.agg #[.int .i64 n0, .slice pb lb cb]] w fun e w' => e = .returned (.bool true) ∧ Below w.heap.size w w' := by
  have HL := hide hl
  have HT := hide hT
  clear hl hT
  obtain ⟨i1, hi1, hz10, hz11, hz12⟩ := info_parts Try.infoPW
  obtain ⟨i2, hi2, hz20, hz21, hz22⟩ := info_parts Try.infoBs
  obtain ⟨i3, hi3, hz30, hz31, hz32⟩ := info_parts Try.infoPR
  obtain ⟨n, hn, hn1, hn64⟩ : ∃ n : Nat, 1 + intoP n0 64 = (n : Int) ∧ 1 ≤ n ∧ n ≤ 64 := ⟨(1 + intoP n0 64).toNat, by unfold intoP; omega, by unfold intoP; omega, by unfold intoP; omega⟩
  have HC0 : Hid (Crowd w (w.alloc (.cells #[.int .i64 n0, .slice pb lb cb] 41)) w.heap.size 0 #[.int .i64 n0, .slice pb lb cb] (.slice none 0 0) (.slice none 0 0) (fun _ => 0) (fun _ => .slice none 0 0) (fun _ => .slice none 0 0) (fun _ => [])) :=
    ⟨(Below.refl _ _).alloc (Nat.le_refl _) _, heap_alloc_new _ _, ⟨rfl, Or.inl ⟨rfl, rfl⟩⟩, ⟨rfl, Or.inl ⟨rfl, rfl⟩⟩, fun i h => by omega, fun i h => by omega, fun i j h => by omega, fun i j h => by omega, fun i j h => by omega, fun i j h => by omega, fun i h => by omega, fun i h => by omega, fun i h => by omega⟩
  go_enter Try.func4, Try.ntmps4
  go_wp2_with fail
  refine (into_64 _ n0).mono ?_
  rintro e w1 ⟨rfl, rfl⟩
  generalize w.alloc (.cells #[.int .i64 n0, .slice pb lb cb] 41) = wa at *
  go_wp2
  go_loopw [4, 5, 6] (fun P Q i wr => ∃ (k : Nat) (B : Nat → Nat) (V H : Nat → Value) (X : Nat → List Nat), k ≤ n ∧ i = .int .i64 k ∧ Hid (Crowd w wr w.heap.size k #[.int .i64 n0, .slice pb lb cb] P Q B V H X) ∧ Hid (∀ j, j < k → X j = beOf j 4)) (fun _ _ i _ => n - (intOf i).toNat)
  case atStart => exact ⟨0, _, _, _, _, Nat.zero_le _, rfl, HC0, fun j h => by omega⟩
  case round =>
    clear HC0
    obtain ⟨k, B, V, H, X, hk, rfl, HC, HX⟩ := hrel
    by_cases hlt : k < n
    · go_wp2_with fail
      refine (new_any wr).mono ?_
      rintro e w1 ⟨rfl, rfl⟩
      have HB1 : Hid (Below wr.heap.size wr (wr.alloc (.cells #[.slice none 0 0] 53))) := (Below.refl _ _).alloc (Nat.le_refl _) _
      have HW1 := hide (new_wr wr)
      have HC1 := hide (HC.out.on HB1.out)
      have HZ1 : Hid (w.heap.size + 1 ≤ wr.heap.size) := lt_of_block HC.out.box
      have HPl := hide (fun g e => owns_lt HC.out.pw g e)
      have HQl := hide (fun g e => owns_lt HC.out.ph g e)
      have HFar := hide (rows_far HC.out.pw HC.out.ph (by decide))
      obtain ⟨w1, hw1⟩ : ∃ w1, w1 = wr.alloc (.cells #[.slice none 0 0] 53) := ⟨_, rfl⟩
      rw [← hw1] at HB1 HW1 HC1
      rw [← hw1]
      clear hw1
      obtain ⟨b, hb⟩ : ∃ b, b = wr.heap.size := ⟨_, rfl⟩
      have HBe := hide hb
      rw [← hb] at HW1
      rw [← hb]
      clear hb
      go_upto_region 8 with (at_builtin; refine wpList_append_lies _ rfl (.tmp 22) (.tmp 24) 43 rfl (w.heap.size + 1) 28 i1 (.pointer none) 1 8 Try.underlying43 hi1 hz10 hz11 hz12 rfl (by omega) u4 k _ rfl (HC1.out.pw.alloc _) ⟨w1.heap.size, 0, none⟩ 1 1 [.pointer (some ⟨b, 0, none⟩)] rfl rfl (World.news_of_block (heap_alloc_new w1 (.cells #[.pointer (some ⟨b, 0, none⟩)] 28))) (by simp [Value.oneCell']) (by omega) (by unfold maxLen; omega) (by omega) (by have := HB1.out.size; have := HZ1.out; simp; omega) _ rfl ?_; intro gp cp w2 hown2 hgrow2 hat2 hlt2)
      have HP2 := hide hown2
      have HK2 : Hid (Kept (fun i => some i = u4.ownBlock) w1 w2) := (kept_below (S := fun i => some i = u4.ownBlock) ((Below.refl _ _).alloc (Nat.le_refl _) (.cells #[.pointer (some ⟨b, 0, none⟩)] 28))).trans (kept_grown hgrow2) (fun i e => Or.inl e)
      have HQ2 := hide (owns_kept' HC1.out.ph (fun g e => HK2.out.block g (owns_lt HC1.out.ph g e) (fun e' => HFar.out g e'.symm e)))
      have HW2 : Hid (Wr w2 b (.slice none 0 0) []) := HW1.out.kept (HK2.out.block b HW1.out.lt (fun e => by have := HPl.out b e.symm; have := HBe.out; omega)) (fun g e => by simp [Value.ownBlock] at e)
      have HZ2 := hide HK2.out.size
      clear hown2 hgrow2 hat2 hlt2
      go_upto_region 9 with (at_builtin; refine wpList_append_lies _ rfl (.tmp 26) (.tmp 27) 39 rfl (w.heap.size + 1) 22 i2 (.slice none 0 0) 1 24 Try.underlying39 hi2 hz20 hz21 hz22 rfl (by omega) u5 k _ rfl (HQ2.out.alloc _) ⟨w2.heap.size, 0, none⟩ 1 1 [.slice none 0 0] rfl rfl (World.news_of_block (heap_alloc_new w2 (.cells #[.slice none 0 0] 22))) (by simp [Value.oneCell']) (by omega) (by unfold maxLen; omega) (by omega) (by have := HB1.out.size; have := HZ1.out; have := HZ2.out; simp; omega) _ rfl ?_; intro gq cq w3 hown3 hgrow3 hat3 hlt3)
      have HK3 : Hid (Kept (fun i => some i = u5.ownBlock) w2 w3) := (kept_below (S := fun i => some i = u5.ownBlock) ((Below.refl _ _).alloc (Nat.le_refl _) (.cells #[.slice none 0 0] 22))).trans (kept_grown hgrow3) (fun i e => Or.inl e)
      have HP3 := hide (owns_kept' HP2.out (fun g e => HK3.out.block g (owns_lt HP2.out g e) (fun e' => rows_far HP2.out HQ2.out (by decide) g e e'.symm)))
      have HW3 : Hid (Wr w3 b (.slice none 0 0) []) := HW2.out.kept (HK3.out.block b HW2.out.lt (fun e => by have := HQl.out b e.symm; have := HBe.out; omega)) (fun g e => by simp [Value.ownBlock] at e)
      have HC3 : Hid (Crowd w w3 w.heap.size (k + 1) #[.int .i64 n0, .slice pb lb cb] (.slice (some ⟨gp, 0, none⟩) (k + 1) cp) (.slice (some ⟨gq, 0, none⟩) (k + 1) cq) (upd B k b) (upd V k (.slice none 0 0)) (upd H k (.slice none 0 0)) (upd X k [])) :=
        HC.out.add ((kept_below HB1.out).trans (HK2.out) (fun i e => Or.inl (Or.inl e)) |>.trans HK3.out (fun i e => Or.inl (Or.inr e))) (Nat.le_of_eq HBe.out.symm) HW3.out HP3.out hown3
      clear hown3 hgrow3 hat3 hlt3 HK3 HP3 HP2 HK2 HQ2 HW2 HZ2 HC1 HW1 HB1 HZ1 HPl HQl HFar HBe
      obtain ⟨pc, _⟩ := owns_cell HC3.out.pw (.pointer (some ⟨b, 0, none⟩)) (k := k) (by simp [upd])
      have hkm : (k : Int) % 4294967296 = (k : Int) := by omega
      have l2 : (0 : Int) ≤ (k : Int) := by omega
      have l3 : (k : Int) < (k : Int) + 1 := by omega
      go_wp2_with fail
      refine (wu32_any w3 b _ [] k HW3.out (by omega) (by simp)).mono ?_
      rintro e w4 ⟨rfl, hl4⟩
      obtain ⟨v4, hd4⟩ := (Did.start HW3.out (nil_row' w3) (fun g e => by simp [Value.ownBlock] at e)).laid hl4
      rw [List.nil_append] at hd4
      have HD4 := hide hd4
      clear hl4 hd4 pc
      have HD5 := hide (HD4.out.made (new := beOf k 4) (by simp [beOf]))
      have HBl : Hid ((beOf k 4).length = 4) := be_len _ _
      rw [HBl.out] at HD5
      have HD5' : Hid (Did w3 (upd B k b k) (upd V k (.slice none 0 0) k) (upd H k (.slice none 0 0) k) (w4.alloc (.cells (vals (beOf k 4)).toArray 5)) v4 (.slice (some ⟨w4.heap.size, 0, none⟩) 4 4) (beOf k 4) (beOf k 4)) := by simpa only [upd_same, Hid] using HD5.out
      have HC6 := hide (HC3.out.did (Nat.lt_succ_self k) HD5'.out)
      obtain ⟨hqc, hqf⟩ := owns_cell (HC3.out.held (Nat.lt_succ_self k) HD5'.out).2.2.1 (.slice none 0 0) (k := k) (by simp [upd])
      have HX6 : Hid (∀ j, j < k + 1 → upd (upd X k []) k (beOf k 4) j = beOf j 4) := fun j hj => by
        by_cases h : j = k
        · subst h; rw [upd_same]
        · rw [upd_ne _ _ _ _ h, upd_ne _ _ _ _ h]; exact HX.out j (by omega)
      clear HD5 HD5' HC3 HW3 HD4
      go_wp2_with fail
      refine (ref_u32 w4 k (by omega)).mono ?_
      rintro e w5 ⟨rfl, rfl⟩
      generalize w4.alloc (.cells (vals (beOf k 4)).toArray 5) = w5 at *
      go_wp2
      go_roundw
      case rel => exact ⟨k + 1, _, _, _, _, by omega, by go_num, HC6, HX6⟩
      case measure => simp [intOf]; omega
    · obtain rfl : k = n := by omega
      obtain ⟨gp, cp, rfl, _, _⟩ := HC.out.pw.form (by omega)
      obtain ⟨gq, cq, rfl, _, _⟩ := HC.out.ph.form (by omega)
      have HX0 : Hid (∀ t, t < k → (X t).take 4 = beOf t 4 ∧ 4 ≤ (X t).length ∧ (X t).length ≤ 4 + 0 * 4194314) := fun t ht => by
        rw [HX.out t ht, be_len]
        exact ⟨List.take_of_length_le (by rw [be_len]; omega), by omega, by omega⟩
      clear HX
      go_wp2
      go_loopw [7, 8] (fun rm i wr => ∃ (j room : Nat) (V H : Nat → Value) (X : Nat → List Nat), j ≤ lb ∧ j ≤ 400 ∧ room ≤ 4194304 ∧ i = .int .i64 j ∧ rm = .int .i64 (room : Int) ∧ Hid (Crowd w wr w.heap.size k #[.int .i64 n0, .slice pb lb cb] (.slice (some ⟨gp, 0, none⟩) k cp) (.slice (some ⟨gq, 0, none⟩) k cq) B V H X) ∧ Hid (∀ t, t < k → (X t).take 4 = beOf t 4 ∧ 4 ≤ (X t).length ∧ (X t).length ≤ 4 + j * 4194314)) (fun _ i _ => 400 - (intOf i).toNat)
      case atStart => exact ⟨0, 4194304, V, H, X, Nat.zero_le _, Nat.zero_le _, by omega, rfl, rfl, HC, HX0⟩
      case round =>
        clear HC HX0
        obtain ⟨j, room, V, H, X, hj, hj4, hroom, rfl, rfl, HC, HX⟩ := hrel
        obtain ⟨b0, b1, bf⟩ := blk2 HC.out.box
        by_cases hlt : j < lb ∧ j < 400
        · obtain ⟨hlt1, hlt2⟩ := hlt
          have hlp : j < ts.length := by rw [HL.out]; exact hlt1
          obtain ⟨g, o, rfl, hgN, hcs⟩ : ∃ g o, pb = some ⟨g, o, none⟩ ∧ g < w.heap.size ∧ ∀ j t, ts[j]? = some t → w.cell? ⟨g, o + j, none⟩ = some (.slice t.p t.l t.c) := by
            rcases HT.out.lie with h | h
            · subst h; simp at hlp
            · exact h
          have hop : ts[j]? = some (ts[j]'hlp) := List.getElem?_eq_getElem _
          have HTc := hide (hcs j _ hop)
          have htg := HT.out.good _ (List.mem_of_getElem? hop)
          generalize ts[j]'hlp = t at *
          obtain ⟨pa, la, ka, xa⟩ := t
          obtain ⟨t1, t2, t3, t4⟩ := htg
          simp only at t1 t2 t3 t4 HTc
          have HXa := hide t4
          have HLa := hide t1
          clear hcs hop t1 t4
          have tc := (HC.out.below.cell (p := ⟨g, o + j, none⟩) hgN).trans HTc.out
          have l1' : (j : Int) < (lb : Int) := by omega
          have l2' : (0 : Int) ≤ (j : Int) := by omega
          have l3' : (j : Int) < 400 := by omega
          by_cases hr : room < la
          · have l4' : (room : Int) < (la : Int) := by omega
            have HX2 : Hid (∀ t, t < k → (X t).take 4 = beOf t 4 ∧ 4 ≤ (X t).length ∧ (X t).length ≤ 4 + (j + 1) * 4194314) := fun t ht => by
              obtain ⟨h1, h2, h3⟩ := HX.out t ht
              exact ⟨h1, h2, Nat.le_trans h3 (Nat.add_le_add_left (Nat.mul_le_mul_right _ (Nat.le_succ j)) 4)⟩
            go_wp2
            go_roundw
            case rel => exact ⟨j + 1, room, V, H, X, by omega, by omega, hroom, by go_num, rfl, HC, HX2⟩
            case measure => simp [intOf]; omega
          · have l4' : ¬ (room : Int) < (la : Int) := by omega
            have hrm : (room : Int) - (la : Int) = ((room - la : Nat) : Int) := by omega
            have hrm2 : room - la ≤ 4194304 := by omega
            have hla : la ≤ 4194304 := by omega
            generalize room - la = room2 at *
            obtain ⟨kk, hkk, hkk2⟩ : ∃ kk : Nat, (j : Int).tmod (k : Int) = (kk : Int) ∧ kk < k := ⟨j % k, rfl, Nat.mod_lt _ (by omega)⟩
            have hk0 : ((k : Int) == 0) = false := by simp; omega
            have hk0' : ¬ k = 0 := by omega
            have l5' : (kk : Int) < (k : Int) := by omega
            have l6' : (0 : Int) ≤ (kk : Int) := by omega
            have HCd := hide (HC.out.on (Below.refl _ _).drew)
            have HN1 : Hid (w.heap.size < wr.heap.size) := lt_of_block HC.out.box
            obtain ⟨x4, x5, x6⟩ := HX.out kk hkk2
            have HWb := hide (wbytes_any wr.drew (B kk) (V kk) (X kk) pa la ka xa (HCd.out.wrs kk hkk2) HLa.out (HXa.out.below (HC.out.below.drew)) (by omega) (fun g' o' e hp => by
              rcases HXa.out.lie with h | ⟨g2, o2, e2, hg2, _⟩
              · have := HLa.out; rw [h] at this; simp at this; omega
              · rw [e2] at e; cases e
                have h1 := HCd.out.lb kk hkk2
                exact ⟨by omega, fun e3 => by have := HCd.out.lv kk hkk2 _ e3.symm; omega⟩))
            obtain ⟨pc, _⟩ := owns_cell HC.out.pw (.pointer (some ⟨B kk, 0, none⟩)) (k := kk) (by simp [hkk2])
            have hvs := vs_bounds la (by omega)
            have HTl : Hid ((varOf la (vs la - 1) ++ xa).length = vs la + la) := by show _ = _; rw [List.length_append, varOf_length, HLa.out]; omega
            have HCt := hide (fun w hw => ref_text w pa la ka xa HLa.out hw (by omega))
            generalize varOf la (vs la - 1) ++ xa = T at *
            generalize vs la = s at *
            obtain ⟨hp, hc, hhe, hhl⟩ := owns_form (HC.out.hds kk hkk2)
            have HX8 : Hid (∀ t, t < k → (upd X kk (X kk ++ T) t).take 4 = beOf t 4 ∧ 4 ≤ (upd X kk (X kk ++ T) t).length ∧ (upd X kk (X kk ++ T) t).length ≤ 4 + (j + 1) * 4194314) := fun t ht => by
              obtain ⟨h1, h2, h3⟩ := HX.out t ht
              by_cases h : t = kk
              · subst h
                rw [upd_same, List.length_append, HTl.out, List.take_append_of_le_length h2]
                exact ⟨h1, by omega, many_len h3 hvs.2 hla⟩
              · rw [upd_ne _ _ _ _ h]
                exact ⟨h1, h2, Nat.le_trans h3 (Nat.add_le_add_left (Nat.mul_le_mul_right _ (Nat.le_succ j)) 4)⟩
            go_wp2
            go_region_held3 (fun w' => w'.cell? ⟨gp, kk, none⟩ = some (.pointer (some ⟨B kk, 0, none⟩)) ∧ w'.cell? ⟨w.heap.size, 1, none⟩ = some (.slice (some ⟨g, o, none⟩) lb cb) ∧ w'.cell? ⟨g, o + j, none⟩ = some (.slice pa la ka)) (go_keep)
              (first | (go_at_call 10; refine HWb.out.mono ?_; rintro e w5 ⟨rfl, hl5⟩; obtain ⟨v5, hd5⟩ := (Did.start (HCd.out.wrs kk hkk2) (HCd.out.hds kk hkk2) (HCd.out.fvh kk kk hkk2 hkk2)).laid hl5; have HD5 := hide hd5; have HH5 := hide (HCd.out.held hkk2 hd5); obtain ⟨pc5, _⟩ := owns_cell HH5.out.2.1 (.pointer (some ⟨B kk, 0, none⟩)) (k := kk) (by simp [hkk2]); obtain ⟨c50, c51, c5f⟩ := blk2 HH5.out.1; have tc5 := (HH5.out.2.2.2.cell (p := ⟨g, o + j, none⟩) hgN).trans HTc.out; clear hl5 hd5))
            obtain ⟨qc5, qf5⟩ := owns_cell HH5.out.2.2.1 (H kk) (k := kk) (by simp [hkk2])
            rw [hhe] at qc5
            have HD5d := hide (HD5.out.below (Below.refl _ _).drew)
            have HXd : Hid (Bytes w5.drew pa xa) := HXa.out.below HH5.out.2.2.2.drew
            obtain ⟨i0, hi, hz0, hz1, hz2⟩ := info_parts Try.info5'
            go_wp2
            go_region_law (first
              | (refine step_text (by rfl) (.tmp 97) (by rfl) (.slice pa la ka) (by rfl) _ (HCt.out _ HXd.out) ?_; rintro e w6 ⟨g6, k6, rfl, hown6, hb6⟩; refine ⟨_, rfl, ?_⟩; have HO6 := hide hown6; have HD6 := hide (HD5d.out.below hb6); have HH6 := hide (HCd.out.held hkk2 HD6.out); obtain ⟨qc6, qf6⟩ := owns_cell HH6.out.2.2.1 (H kk) (k := kk) (by simp [hkk2]); rw [hhe] at qc6; clear hown6 hb6)
              | (refine step_append_lies _ (by rfl) (.tmp 92) (.tmp 98) 22 (by rfl) 0 5 i0 (.int .u8 0) 1 1 Try.underlying22 hi hz0 hz1 hz2 rfl (by omega) (.slice hp (X kk).length hc) (X kk).length (vals (X kk)) (by rfl) (hhe ▸ HD6.out.hd) ⟨g6, 0, none⟩ (s + la) k6 (vals T) (by rfl) (by rw [vals_len, HTl.out, Nat.mul_one]) (owns_cells HO6.out) (vals_one T) (by omega) (by unfold maxLen; omega) (by omega) (by omega) _ rfl ?_; intro g7 k7 w7 hown7 hgrow7 hat7 hlt7; have HD7 := hide (HD6.out.grown HTl.out hown7 (hhe ▸ hgrow7) (by rw [hhe]; rcases hat7 with h | h; exact Or.inl h.symm; exact Or.inr (by rw [h]; rfl))); have HH7 := hide (HCd.out.held hkk2 HD7.out); obtain ⟨qc7, qf7⟩ := owns_cell HH7.out.2.2.1 (H kk) (k := kk) (by simp [hkk2]); clear hown7 hgrow7 hat7 hlt7))
            all_goals
              have HC8 := hide (HCd.out.did hkk2 HD7.out)
              go_wp2
              go_roundw
              case rel => exact ⟨j + 1, room2, _, _, _, by omega, by omega, hrm2, by go_num, rfl, HC8, HX8⟩
              case measure => simp [intOf]; omega
        · have HXe : Hid (∀ t, t < k → (X t).take 4 = beOf t 4 ∧ 4 ≤ (X t).length ∧ (X t).length ≤ 2000000000) := fun t ht => by
            obtain ⟨h1, h2, h3⟩ := HX.out t ht
            exact ⟨h1, h2, Nat.le_trans h3 (by omega)⟩
          have HR0 : Hid (Rds wr w.heap.size 0 (.slice none 0 0) (fun _ => 0) (fun _ => 0) X) := ⟨⟨rfl, Or.inl ⟨rfl, rfl⟩⟩, fun t h => by omega, fun a b h => by omega, fun t h => by omega, fun t h => by omega⟩
          have hend : ((j : Int) < (lb : Int) ∧ ¬ (j : Int) < 400) ∨ ¬ (j : Int) < (lb : Int) := by omega
          clear HX
          rcases hend with ⟨t1, t2⟩ | t1
          all_goals
            go_wp2
            go_loopw [10, 11] (fun R i wr => ∃ (m : Nat) (RB RH : Nat → Nat), m ≤ k ∧ i = .int .i64 m ∧ Hid (Crowd w wr w.heap.size k #[.int .i64 n0, .slice pb lb cb] (.slice (some ⟨gp, 0, none⟩) k cp) (.slice (some ⟨gq, 0, none⟩) k cq) B V H X) ∧ Hid (Rds wr w.heap.size m R RB RH X)) (fun _ i _ => k - (intOf i).toNat)
            case atStart => exact ⟨0, _, _, Nat.zero_le _, rfl, HC, HR0⟩
            case round =>
              clear HC HR0 b0 b1 bf
              obtain ⟨m, RB, RH, hm, rfl, HC, HR⟩ := hrel
              by_cases hlt3 : m < k
              · obtain ⟨x4, x5, x6⟩ := HXe.out m hlt3
                obtain ⟨hp, hc, hhe, hhl⟩ := owns_form (HC.out.hds m hlt3)
                obtain ⟨qc, _⟩ := owns_cell HC.out.ph (H m) (k := m) (by simp [hlt3])
                rw [hhe] at qc
                have HBy : Hid (Bytes wr hp (X m)) := owns_bytes (hhe ▸ HC.out.hds m hlt3) (HC.out.wrs m hlt3).small
                have l7 : (m : Int) < (k : Int) := by omega
                have l8 : (0 : Int) ≤ (m : Int) := by omega
                have HSm := hide (HC.out.wrs m hlt3).small
                go_wp2_with fail
                refine (copy_any wr hp (X m).length hc (X m) rfl HBy.out (by omega)).mono ?_
                rintro e w1 ⟨v1, rfl, hown1, hb1⟩
                obtain ⟨s1, k1, rfl, hk1⟩ := owns_sl hown1
                have HO1 := hide (owns_bytes hown1 HSm.out)
                have HB1 := hide hb1
                clear hown1 hb1
                go_wp2_with fail
                refine (read_any w1 s1 (X m).length k1 (X m) rfl (by omega) HO1.out).mono ?_
                rintro e w2 ⟨rfl, hr2, hb2⟩
                have HRd2 := hide hr2
                have HB2 : Hid (Below wr.heap.size wr w2) := HB1.out.trans (hb2.mono HB1.out.size)
                have HZ : Hid (wr.heap.size ≤ w1.heap.size ∧ w1.heap.size + 1 < w2.heap.size) := ⟨HB1.out.size, hr2.lt⟩
                have HR2 := hide (HR.out.on HB2.out)
                have HNs : Hid (w.heap.size < wr.heap.size) := lt_of_block HC.out.box
                clear hr2 hb2 HB1 HO1 qc
                go_upto_region 27 with (at_builtin; refine wpList_append_lies _ rfl (.tmp 106) (.tmp 113) 47 rfl (w.heap.size + 1) 32 i3 (.pointer none) 1 8 Try.underlying47 hi3 hz30 hz31 hz32 rfl (by omega) u10 m _ rfl (HR2.out.pr.alloc _) ⟨w2.heap.size, 0, none⟩ 1 1 [.pointer (some ⟨w1.heap.size + 1, 0, none⟩)] rfl rfl (World.news_of_block (heap_alloc_new w2 (.cells #[.pointer (some ⟨w1.heap.size + 1, 0, none⟩)] 32))) (by simp [Value.oneCell']) (by omega) (by unfold maxLen; omega) (by omega) (by have := HB2.out.size; have := HNs.out; simp; omega) _ rfl ?_; intro gr cr w3 hown3 hgrow3 hat3 hlt3')
                have HK3 : Hid (Kept (fun i => some i = u10.ownBlock) w2 w3) := (kept_below (S := fun i => some i = u10.ownBlock) ((Below.refl _ _).alloc (Nat.le_refl _) (.cells #[.pointer (some ⟨w1.heap.size + 1, 0, none⟩)] 32))).trans (kept_grown hgrow3) (fun i e => Or.inl e)
                have HKw : Hid (Kept (fun i => some i = u10.ownBlock) wr w3) := (kept_below HB2.out).trans HK3.out (fun i e => Or.inl e)
                have HC3 := hide (HC.out.keep HKw.out (fun i e => ⟨by have := owns_low HR.out.pr i e.symm; omega, owns_type HR.out.pr i e.symm⟩))
                have HRl : Hid (∀ g, u10.ownBlock = some g → g < wr.heap.size) := fun g e => owns_lt HR.out.pr g e
                have HRd3 : Hid (Rd w3 (w1.heap.size + 1) w1.heap.size (X m) 0 0) := HRd2.out.blocks (HK3.out.block _ HRd2.out.lt (fun e => by have := HRl.out _ e.symm; have := HZ.out; omega)) (HK3.out.block _ (by have := HZ.out; omega) (fun e => by have := HRl.out _ e.symm; have := HZ.out; omega)) HK3.out.size
                have HR3 : Hid (Rds w3 w.heap.size (m + 1) (.slice (some ⟨gr, 0, none⟩) (m + 1) cr) (upd RB m (w1.heap.size + 1)) (upd RH m w1.heap.size) X) := HR.out.add HKw.out hown3 (by
                  have hz := HZ.out
                  rcases hat3 with h | h
                  · exact Or.inl h.symm
                  · refine Or.inr ⟨gr, rfl, ?_, ?_⟩
                    · simp at h; omega
                    · simp at h; omega) HRd3.out (by have := HZ.out; omega) (by have := HZ.out; omega) (by have := HZ.out; have := HK3.out.size; omega) HNs.out
                obtain ⟨rc, _⟩ := owns_cell HR3.out.pr (.pointer (some ⟨w1.heap.size + 1, 0, none⟩)) (k := m) (by simp [upd])
                clear hown3 hgrow3 hat3 hlt3' HK3 HKw HC HR HR2 HRd2 HRd3 HB2 HRl
                have l9 : (m : Int) < (m : Int) + 1 := by omega
                go_wp2
                go_roundw
                case rel => exact ⟨m + 1, _, _, by omega, by go_num, HC3, HR3⟩
                case measure => simp [intOf]; omega
              · obtain ⟨hmk⟩ : Nonempty (k = m) := ⟨by omega⟩
                obtain ⟨gr, cr, rfl, _, _⟩ := HR.out.pr.form (by omega)
                rw [← hmk] at HR
                rw [← hmk]
                clear hmk hlt3 hm
                have HPr := hide HR.out.pr
                have HRd := hide HR.out.rd
                have HRn := hide HR.out.ne
                have HRl := hide HR.out.lo
                clear HR
                go_wp2
                go_loopw [12] (fun i wr => ∃ t : Nat, t ≤ k ∧ i = .int .i64 t ∧ Hid (Crowd w wr w.heap.size k #[.int .i64 n0, .slice pb lb cb] (.slice (some ⟨gp, 0, none⟩) k cp) (.slice (some ⟨gq, 0, none⟩) k cq) B V H X) ∧ Hid (wr.ownsRow (w.heap.size + 1) 32 1 (.slice (some ⟨gr, 0, none⟩) k cr) k ((List.range k).map fun t => .pointer (some ⟨RB t, 0, none⟩))) ∧ Hid (∀ s, t ≤ s → s < k → Rd wr (RB s) (RH s) (X s) 0 0)) (fun i _ => k - (intOf i).toNat)
                case atStart => exact ⟨0, Nat.zero_le _, rfl, HC, HPr, fun s _ h => HRd.out s h⟩
                case round =>
                  clear HC HPr HRd
                  obtain ⟨t, ht, rfl, HC, HPr, HRd⟩ := hrel
                  by_cases hlt4 : t < k
                  · obtain ⟨x4, x5, x6⟩ := HXe.out t hlt4
                    obtain ⟨hp, hc, hhe, hhl⟩ := owns_form (HC.out.hds t hlt4)
                    obtain ⟨pc, _⟩ := owns_cell HC.out.pw (.pointer (some ⟨B t, 0, none⟩)) (k := t) (by simp [hlt4])
                    obtain ⟨qc, _⟩ := owns_cell HC.out.ph (H t) (k := t) (by simp [hlt4])
                    rw [hhe] at qc
                    obtain ⟨rc, _⟩ := owns_cell HPr.out (.pointer (some ⟨RB t, 0, none⟩)) (k := t) (by simp [hlt4])
                    have HCd := hide (HC.out.on (Below.refl _ _).drew)
                    have HPd := hide (owns_kept' (w' := wr.drew) HPr.out (fun _ _ => rfl))
                    have HRdd : Hid (∀ s, t ≤ s → s < k → Rd wr.drew (RB s) (RH s) (X s) 0 0) := fun s h1 h2 => (HRd.out s h1 h2).below (Below.refl _ _).drew
                    have HCo := hide (out_any wr.drew (B t) (V t) (X t) (HCd.out.wrs t hlt4) (by omega))
                    have HSm := hide (HC.out.wrs t hlt4).small
                    have HCu : Hid (∀ W, Rd W (RB t) (RH t) (X t) 0 0 → Calls Try.prog 22 #[.pointer (some ⟨RB t, 0, none⟩)] W fun e w' => e = .returned (.int .u32 (t : Int)) ∧ Rd w' (RB t) (RH t) (X t) 4 0 ∧ But (RB t) W w') := fun W hW => by
                      have C := u32_any W (RB t) (RH t) (X t) 0 0 hW
                      rw [rn_first t (X t) (by omega) x4 x5] at C
                      exact C
                    have l7 : (t : Int) < (k : Int) := by omega
                    have l8 : (0 : Int) ≤ (t : Int) := by omega
                    have hc1 : (t : Int) % 4294967296 = (t : Int) := by omega
                    have hc2 : IntKind.u32.wrap (t : Int) = (t : Int) := by rw [IntKind.wrap_u32]; omega
                    have hL1 : ((X t).length : Int) - 4 = (((X t).length - 4 : Nat) : Int) := by omega
                    have hL2 : IntKind.i64.wrap ((((X t).length - 4 : Nat)) : Int) = (((X t).length - 4 : Nat) : Int) := by rw [IntKind.wrap_i64]; omega
                    have HLm : Hid ((X t).length ≤ 140737488355328) := by show _ ≤ _; omega
                    go_wp2
                    go_region_held3 (fun w' => w'.cell? ⟨gp, t, none⟩ = some (.pointer (some ⟨B t, 0, none⟩)) ∧ w'.cell? ⟨gq, t, none⟩ = some (.slice hp (X t).length hc) ∧ w'.cell? ⟨gr, t, none⟩ = some (.pointer (some ⟨RB t, 0, none⟩))) (go_keep)
                      (first
                        | (go_at_call 16; refine HCo.out.mono ?_; rintro e w5 ⟨rfl, rfl⟩; have HB5 : Hid (Below wr.drew.heap.size wr.drew (wr.drew.alloc (.cells (vals (X t)).toArray 5))) := (Below.refl _ _).alloc (Nat.le_refl _) _; have HC5 := hide (HCd.out.on HB5.out); have HP5 := hide (owns_kept' HPd.out (fun g e => HB5.out.block g (owns_lt HPd.out g e))); have HR5 : Hid (∀ s, t ≤ s → s < k → Rd (wr.drew.alloc (.cells (vals (X t)).toArray 5)) (RB s) (RH s) (X s) 0 0) := fun s h1 h2 => (HRdd.out s h1 h2).below HB5.out; have HM5 := hide (made_bytes wr.drew (X t) HSm.out); generalize wr.drew.alloc (.cells (vals (X t)).toArray 5) = w5 at *; obtain ⟨pc5, _⟩ := owns_cell HC5.out.pw (.pointer (some ⟨B t, 0, none⟩)) (k := t) (by simp [hlt4]); obtain ⟨qc5, _⟩ := owns_cell HC5.out.ph (H t) (k := t) (by simp [hlt4]); rw [hhe] at qc5; obtain ⟨rc5, _⟩ := owns_cell HP5.out (.pointer (some ⟨RB t, 0, none⟩)) (k := t) (by simp [hlt4]))
                        | (go_at_call 14; refine (eq_true w5 _ hp (X t).length (X t).length hc (X t) rfl HLm.out HM5.out (owns_bytes (hhe ▸ HC5.out.hds t hlt4) HSm.out)).mono ?_; rintro e w6 ⟨rfl, hb6⟩; have HC6 := hide (HC5.out.on hb6); have HP6 := hide (owns_kept' HP5.out (fun g e => hb6.block g (owns_lt HP5.out g e))); have HR6 : Hid (∀ s, t ≤ s → s < k → Rd w6 (RB s) (RH s) (X s) 0 0) := fun s h1 h2 => (HR5.out s h1 h2).below hb6; clear hb6; obtain ⟨pc6, _⟩ := owns_cell HC6.out.pw (.pointer (some ⟨B t, 0, none⟩)) (k := t) (by simp [hlt4]); obtain ⟨qc6, _⟩ := owns_cell HC6.out.ph (H t) (k := t) (by simp [hlt4]); rw [hhe] at qc6; obtain ⟨rc6, _⟩ := owns_cell HP6.out (.pointer (some ⟨RB t, 0, none⟩)) (k := t) (by simp [hlt4]))
                        | (go_at_call 22; refine (HCu.out w6 (HR6.out t (Nat.le_refl _) hlt4)).mono ?_; rintro e w7 ⟨rfl, hr7, hb7⟩; have HRt := hide hr7; have HC7 := hide (HC6.out.past hb7 (HR6.out t (Nat.le_refl _) hlt4).blk (HRl.out t hlt4)); have HP7 := hide (owns_kept' HP6.out (fun g e => hb7.block g (owns_lt HP6.out g e) (fun e' => owns_ne HP6.out (HR6.out t (Nat.le_refl _) hlt4).blk (by decide) (by rw [e, e'])))); have HR7 : Hid (∀ s, t + 1 ≤ s → s < k → Rd w7 (RB s) (RH s) (X s) 0 0) := fun s h1 h2 => (HR6.out s (by omega) h2).past hb7 (HRn.out s t h2 hlt4 (by omega)) (HR6.out t (Nat.le_refl _) hlt4).blk; clear hr7 hb7; obtain ⟨pc7, _⟩ := owns_cell HC7.out.pw (.pointer (some ⟨B t, 0, none⟩)) (k := t) (by simp [hlt4]); obtain ⟨qc7, _⟩ := owns_cell HC7.out.ph (H t) (k := t) (by simp [hlt4]); rw [hhe] at qc7; obtain ⟨rc7, _⟩ := owns_cell HP7.out (.pointer (some ⟨RB t, 0, none⟩)) (k := t) (by simp [hlt4]))
                        | (go_at_call 23; refine (left_any w7 (RB t) (RH t) (X t) 4 0 HRt.out).mono ?_; rintro e w8 ⟨rfl, rfl⟩))
                    go_wp2
                    go_roundw
                    case rel => exact ⟨t + 1, by omega, by go_num, HC7.out.on (Below.refl _ _).drew, owns_kept' HP7.out (fun _ _ => rfl), fun s h1 h2 => (HR7.out s h1 h2).below (Below.refl _ _).drew⟩
                    case measure => simp [intOf]; omega
                  · obtain ⟨htk⟩ : Nonempty (t = k) := ⟨by omega⟩
                    have l7 : ¬ (t : Int) < (k : Int) := by omega
                    go_wp2
                    go_ret
                    exact ⟨rfl, HC.out.below⟩

end Go.Proofs.Ytlnldipiofddkab
