import Derived.Test.YtfjhbbekeibpkaaDoorLkI
namespace Go.Proofs.YtfjhbbekeibpkaaDoor
open Go.RowKit

theorem Tryd.infoSl : (Tryd.prog.info? 27).map (fun i => (i.zero, i.size, i.bytes)) = some (some (.slice none 0 0), 1, 24) := by kernel_rfl
theorem own_cell0 {w : World} {B : Nat} {e : TypeId} {a : Option Addr} {cap : Nat} {x : Value} (h : w.ownsRow B e 1 (.slice a 1 cap) 1 [x]) : ∃ g, a = some ⟨g, 0, none⟩ ∧ w.cell? ⟨g, 0, none⟩ = some x ∧ B ≤ g ∧ g < w.heap.size := by
  rcases h.2 with ⟨h1, _⟩ | ⟨g, c, cur, h1, h2, h3, h4, h5, h6, h7⟩
  · cases h1
  · cases h1
    refine ⟨g, rfl, ?_, h2, C.lt_of_block h3⟩
    simp only [World.cell?, h3]
    have : cur.toList[0]? = some x := by
      have := congrArg (fun l : List Value => l[0]?) h7
      simpa [List.getElem?_take] using this
    simpa using this
theorem Mine.c_bytes {B : Nat} {w w' : World} {sq : Option Addr} {xs : List Nat} (h : C.Mine B w sq xs) (hs : ∀ x ∈ xs, x < 256) (hk : ∀ g, B ≤ g → g < w.heap.size → w'.heap[g]? = w.heap[g]?) : C.Bytes w' sq xs := by
  refine C.Mine.bytes (B := B) ?_ hs
  rcases h with h | ⟨g, e, h1, h2⟩
  · exact Or.inl h
  · exact Or.inr ⟨g, e, h1, (hk g h1 (C.lt_of_block h2)).trans h2⟩
set_option maxRecDepth 100000 in
theorem bodies_none (w : World) (b : Nat) (L : Lk) (rv : Value) (h : Lb w b L rv) (hk : L.known = 0) (fv : Value) :
    Calls Tryd.prog 20 #[.pointer (some ⟨b, 0, none⟩), fv] w fun e w' => e = .returned (.slice none 0 0) ∧ w' = w := by
  have HK := hide (known_any w b L rv h)
  rw [hk] at HK
  clear h
  go_enter Tryd.func20, Tryd.ntmps20
  go_wp2_with fail
  refine HK.out.mono ?_
  rintro e w1 ⟨rfl, rfl⟩
  go_wp2
  go_ret
  exact ⟨rfl, rfl⟩
set_option maxRecDepth 100000 in
set_option maxHeartbeats 2000000 in
theorem tick_word (w : World) (b : Nat) (L : Lk) (c : Nat) (h : Lb w b L (.slice none 0 c)) (hk : L.known = 0) (hp : L.paced = true) (hl : L.left ≤ 1) (ho : L.Pok) (ha : L.ack = false) (hs : L.asked = false) (hT : C.Tab w) (hb0 : 0 < b) :
    Calls Tryd.prog 8 #[.pointer (some ⟨b, 0, none⟩)] w fun e w' => ∃ g cp sq m, e = .returned (.slice (some ⟨g, 0, none⟩) 1 cp) ∧ w'.cell? ⟨g, 0, none⟩ = some (.slice sq m m) ∧ m = (encB (lfr L 0 ⟨#[]⟩)).length ∧ C.Bytes w' sq (encB (lfr L 0 ⟨#[]⟩)) ∧ C.But b w w' := by
  have HR := hide (rlen_any w b L none 0 c h)
  have HP := hide (ptick_any w b L _ h ho)
  have hn : lnow L = true := by unfold lnow; exact decide_eq_true hl
  rw [hn] at HP
  obtain ⟨-, -, -, -, -, -, -, -, -, -, -, -, -, -, c14, -⟩ := blk15 h
  rw [hp] at c14
  have HL := hide h
  have HT := hide hT
  have hlt := C.lt_of_block h
  have HK : Hid ((ltick L).known = 0 ∧ (ltick L).ack = false ∧ (ltick L).asked = false ∧ (ltick L).paced = true ∧ lfr (ltick L) 0 ⟨#[]⟩ = lfr L 0 ⟨#[]⟩) := by
    show _ ∧ _
    unfold ltick
    split <;> exact ⟨hk, ha, hs, hp, rfl⟩
  clear h hT hn
  go_enter Tryd.func8, Tryd.ntmps8
  go_wp2_with fail
  refine HR.out.mono ?_
  rintro e w1 ⟨rfl, rfl⟩
  go_wp2_with fail
  refine HP.out.mono ?_
  rintro e w2 ⟨rfl, hl2, ho2⟩
  obtain ⟨-, -, -, -, -, -, -, c7, -, -, -, -, -, -, -, -⟩ := blk15 hl2
  have hs2 := ho2.size
  have hlt2 : b < w2.heap.size := by omega
  have HL2 := hide hl2
  have HO2 := hide ho2
  clear hl2 ho2
  go_wp2_with fail
  obtain ⟨w3, hw3⟩ : ∃ w3, (w2.alloc (.cells #[.bool true] 4)).alloc (.cells #[.int .u64 ((ltick L).gone : Int)] 26) = w3 := ⟨_, rfl⟩
  rw [hw3]
  have hb3 : Below w2.heap.size w2 w3 := by rw [← hw3]; exact ((Below.refl _ _).alloc (Nat.le_refl _) _).alloc (by simp) _
  have ht3 : w3.heap[w1.heap.size]? = some (.cells #[.bool true] 4 (0, 0)) := by
    rw [← hw3, Below.heap_alloc _ _ _ (by simp; omega), ← hs2]; exact heap_alloc_new _ _
  have HL3 := hide (HL2.out.below hb3)
  have HB3 := hide hb3
  have HT3 := hide ht3
  clear hw3 hb3 ht3
  refine (bodies_none w3 b (ltick L) _ HL3.out HK.out.1 _).mono ?_
  rintro e w4 ⟨rfl, rfl⟩
  obtain ⟨-, -, -, -, -, -, -, -, -, c9, -, -, -, c13, c14', -⟩ := blk15 HL3.out
  rw [HK.out.2.1] at c9
  rw [HK.out.2.2.1] at c13
  rw [HK.out.2.2.2.1] at c14'
  have t0 : w4.cell? ⟨w1.heap.size, 0, none⟩ = some (.bool true) := by have := HT3.out; simp [World.cell?, this]
  have HB4 : Hid (C.But b w1 w4) := by
    refine ⟨HB3.out.os.trans HO2.out.os, HB3.out.tape.trans HO2.out.tape, HB3.out.output.trans HO2.out.output, by have := HB3.out.size; omega, fun k hk hkb => (HB3.out.block k (by omega)).trans (HO2.out.block k hkb)⟩
  have HTb : Hid (C.Tab w4) := fun j hj => by
    have hpos := HT.out.pos
    rw [World.cell?_of_block (w := w1) (a := ⟨0, j, none⟩) (HB4.out.block 0 hpos (by omega))]; exact HT.out j hj
  have HF := hide (frame_any w4 b (ltick L) _ 0 ⟨#[]⟩ HL3.out HTb.out)
  rw [HK.out.2.2.2.2] at HF
  clear c7 HR HP
  go_wp2_with fail
  refine HF.out.mono ?_
  rintro e w5 ⟨sq, m, hm, rfl, hmi, hb5⟩
  obtain ⟨i0, hi, hz0, hz1, hz2⟩ := info_parts Tryd.infoSl
  have HM := hide hm
  have HMi := hide hmi
  have HB5 := hide hb5
  have HL5 := hide (HL3.out.below hb5)
  have HBt5 : Hid (C.But b w1 w5) := HB4.out.trans (C.but_of hb5 b)
  have hs5 : w1.heap.size ≤ w5.heap.size := HBt5.out.size
  have hsm : Hid (∀ x ∈ encB (lfr L 0 ⟨#[]⟩), x < 256) := encB_small (by intro x hx; simp [lfr, nums] at hx)
  clear hm hmi hb5 c9 c13 c14' t0 HF
  go_wp2_with (at_builtin; refine wpList_append_lies _ rfl (.tmp 57) (.tmp 61) 35 rfl w5.heap.size 27 i0 (.slice none 0 0) 1 24 Tryd.underlying35 hi hz0 hz1 hz2 rfl (by omega) (.slice none 0 0) 0 [] rfl ⟨rfl, Or.inl ⟨rfl, rfl⟩⟩ ⟨w5.heap.size, 0, none⟩ 1 1 [.slice sq m m] rfl rfl (World.news_of_block (heap_alloc_new w5 (.cells #[.slice sq m m] 27))) (by simp [Value.oneCell']) (by omega) (by unfold maxLen; omega) (by omega) (by simp) _ rfl ?_; intro g' cap' w6 hown hgrow hat hltg; have hb6 : Below w5.heap.size w5 w6 := ((Below.refl _ _).alloc (Nat.le_refl _) _).grown hgrow (by simp) (fun k e => by simp [Value.ownBlock] at e); have HO6 := hide hown; have HB6 := hide hb6; obtain ⟨-, -, -, -, -, -, -, -, -, c9, -, -, -, c13, -, cf⟩ := blk15 (HL5.out.below hb6); have hlt6 : b < w6.heap.size := Nat.lt_of_lt_of_le (by omega) hb6.size; clear hown hgrow hat hb6)
  go_ret
  obtain ⟨g, e1, e2, e3, e4⟩ := own_cell0 HO6.out
  cases e1
  have hne : g' ≠ b := by omega
  have hk : ∀ k, k ≠ b → ((w6.setCell ⟨b, 9, none⟩ (.bool false)).setCell ⟨b, 13, none⟩ (.bool false)).heap[k]? = w6.heap[k]? := fun k hk =>
    (Below.heap_setCell _ _ _ _ (by simpa using hk)).trans (Below.heap_setCell _ _ _ _ (by simpa using hk))
  have hbt : C.But b w1 w6 := HBt5.out.trans (C.but_of HB6.out b)
  refine ⟨g', cap', sq, m, rfl, ?_, HM.out, ?_, ?_⟩
  · rw [World.cell?_of_block (w := w6) (a := ⟨g', 0, none⟩) (hk g' hne)]; exact e2
  · refine Mine.c_bytes HMi.out hsm.out (fun k h1 h2 => ?_)
    have hb4 := HL3.out
    have : b < w4.heap.size := C.lt_of_block hb4
    exact (hk k (by omega)).trans (HB6.out.block k h2)
  · exact (hbt.setCell (p := ⟨b, 9, none⟩) (Or.inl rfl) _).setCell (p := ⟨b, 13, none⟩) (Or.inl rfl) _
/-- begun: a link's first word is read. -/
def fr3 : Fr := ⟨0, 2, 3, 0, 0, 0, []⟩
theorem fr3_fit : fr3.fit := by unfold Fr.fit fr3; simp
theorem fr3_small : fr3.small := by intro x hx; simp [fr3] at hx
set_option maxRecDepth 100000 in
set_option maxHeartbeats 2000000 in
theorem begun_any (w : World) (hT : C.Tab w) : Calls Tryd.prog 11 #[] w fun e w' => e = .returned (.bool true) ∧ Below w.heap.size w w' := by
  have hpos := hT.pos
  have HN := hide (new_any w 0 2 3 2 4)
  have HT := hide hT
  clear hT
  go_enter Tryd.func11, Tryd.ntmps11
  go_wp2_with fail
  refine HN.out.mono ?_
  rintro e w1 ⟨rfl, hl1, hb1⟩
  have HK := hide (known_any w1 _ _ _ hl1)
  have HL := hide (len_any w1 _ _ _ _ _ hl1)
  have HL1 := hide hl1
  have HB1 := hide hb1
  clear hl1 hb1
  go_wp2_with fail
  refine HK.out.mono ?_
  rintro e w2 ⟨rfl, rfl⟩
  go_wp2_with fail
  refine HL.out.mono ?_
  rintro e w3 ⟨rfl, rfl⟩
  have HTk := hide (tick_word w3 w.heap.size _ 0 HL1.out rfl rfl (by simp [Lk.new]) ⟨by simp [Lk.new], by simp [Lk.new], by intro m; simp [Lk.new]; omega⟩ rfl rfl (HT.out.below HB1.out hpos) hpos)
  have hef : lfr (Lk.new 0 2 3 2 4) 0 ⟨#[]⟩ = fr3 := rfl
  rw [hef] at HTk
  have hee : encB fr3 = fr3.bytes := by unfold encB; rw [if_pos fr3_fit]
  rw [hee] at HTk
  have HDc := hide (dec_bytes fr3_fit fr3_small)
  have HLn : Hid (fr3.bytes.length ≤ 2088) := by show _ ≤ _; rw [← hee]; exact encB_len fr3
  clear hef hee HK HL
  generalize fr3.bytes = FB at *
  go_wp2_with fail
  refine HTk.out.mono ?_
  rintro e w4 ⟨g, cp, sq, m, rfl, hc, hm, hby, hbt⟩
  have HB4 : Hid (Below w.heap.size w w4) := hbt.below HB1.out (Nat.le_refl _) HB1.out.size
  have HD := hide (dec_any w4 sq m m FB hm.symm (Nat.le_refl _) (by have := HLn.out; omega) (Bytes.of_c hby) (HT.out.below HB4.out hpos))
  clear HTk hm hby hbt
  go_wp2_with fail
  refine HD.out.mono ?_
  rintro e w5 (⟨f, sq2, hd, rfl, hmi, hb5⟩ | ⟨hd, _, _⟩)
  · rw [HDc.out] at hd
    cases hd
    have hv : frV fr3 sq2 fr3.body.length = .agg #[.int .i64 0, .int .i64 2, .int .u64 3, .int .u64 0, .int .u64 0, .int .u64 0, .slice sq2 0 0] := rfl
    rw [hv]
    have HB5 := hide (HB4.out.trans (hb5.mono HB4.out.size))
    have HQ : ∀ w6, Hid (Calls Tryd.prog 10 #[.agg #[.int .i64 0, .int .i64 2, .int .u64 3, .int .u64 0, .int .u64 0, .int .u64 0, .slice sq2 0 0], .agg #[.int .i64 0, .int .i64 2, .int .u64 3, .int .u64 0, .int .u64 0, .int .u64 0, .slice none 0 0]] w6 fun e w' => ∃ r, e = .returned (.bool r) ∧ (r = true ↔ fr3 = fr3) ∧ Below w6.heap.size w6 w') := fun w6 =>
      hide (eqfr_any w6 fr3 fr3 sq2 none 0 0 ⟨fr3_small, Or.inl rfl⟩ ⟨fr3_small, Or.inl rfl⟩ (by simp [fr3]) (by simp [fr3]))
    clear hmi hb5 hv HD hc
    go_wp2_with fail
    refine (HQ _).out.mono ?_
    rintro e w7 ⟨r, rfl, hr, hb7⟩
    obtain rfl : r = true := hr.2 (by first | trivial | rfl)
    have HB7 : Hid (Below w.heap.size w w7) := (HB5.out.alloc HB5.out.size _).trans (hb7.mono (by have := HB5.out.size; simp; omega))
    clear hr hb7
    go_wp2
    go_ret
    exact ⟨rfl, HB7.out⟩
  · rw [HDc.out] at hd; cases hd
end Go.Proofs.YtfjhbbekeibpkaaDoor
