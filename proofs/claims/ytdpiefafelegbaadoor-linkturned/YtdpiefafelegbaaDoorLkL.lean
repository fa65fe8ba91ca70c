import Derived.Test.YtdpiefafelegbaaDoorLkK
namespace Go.Proofs.YtdpiefafelegbaaDoor
open Go.RowKit

theorem blk2 {w : World} {b : Nat} {x0 x1 : Value} {t : TypeId} (h : w.heap[b]? = some (.cells #[x0, x1] t (0, 0))) :
    w.cell? ⟨b, 0, none⟩ = some x0 ∧ w.cell? ⟨b, 1, none⟩ = some x1 :=
  ⟨by simp [World.cell?, h], by simp [World.cell?, h]⟩
theorem Frs.at {w : World} {sp : Option Addr} {es : List Fe} (h : Frs w sp es) {i : Nat} {e : Fe} (he : es[i]? = some e) : ∃ g o, sp = some ⟨g, o, none⟩ ∧ g < w.heap.size ∧ FeOk w e ∧ w.cell? ⟨g, o + i * 7, none⟩ = some (.int .i64 e.f.fr) ∧ w.cell? ⟨g, o + i * 7 + 1, none⟩ = some (.int .i64 e.f.tt) ∧ w.cell? ⟨g, o + i * 7 + 2, none⟩ = some (.int .u64 (e.f.mine : Int)) ∧ w.cell? ⟨g, o + i * 7 + 3, none⟩ = some (.int .u64 (e.f.yours : Int)) ∧ w.cell? ⟨g, o + i * 7 + 4, none⟩ = some (.int .u64 (e.f.seq : Int)) ∧ w.cell? ⟨g, o + i * 7 + 5, none⟩ = some (.int .u64 (e.f.ack : Int)) ∧ w.cell? ⟨g, o + i * 7 + 6, none⟩ = some (.slice e.p e.f.body.length e.c) := by
  obtain ⟨g, o, h1, h2, h3, h4⟩ := h i e he
  exact ⟨g, o, h1, h2, h4, h3 0 _ rfl, h3 1 _ rfl, h3 2 _ rfl, h3 3 _ rfl, h3 4 _ rfl, h3 5 _ rfl, h3 6 _ rfl⟩
theorem owns_low {w : World} {B : Nat} {e : TypeId} {s n : Nat} {v : Value} {xs : List Value} (h : w.ownsRow B e s v n xs) : w.ownsRow 0 e s v n xs :=
  ⟨h.1, h.2.imp id fun ⟨g, cap, cur, h1, _, r⟩ => ⟨g, cap, cur, h1, Nat.zero_le _, r⟩⟩
set_option maxRecDepth 100000 in
set_option maxHeartbeats 4000000 in
set_option linter.unusedSimpArgs false in
theorem turned_all (w : World) (hT : C.Tab w) (sp : Option Addr) (l c : Nat) (es : List Fe) (hl : es.length = l) (hlb : l ≤ 140737488355328) (hF : Frs w sp es) (sq : Option Addr) (m d : Nat) (ps : List (List Nat)) (hm : ps.length = m) (hmb : m ≤ 140737488355328) (hP : Pts w sq ps) (bit : Int) :
    Calls Tryd.prog 3 #[.agg #[.slice sp l c, .slice sq m d, .int .i64 bit]] w fun e w' => e = .returned (.bool true) ∧ Below w.heap.size w w' := by
  obtain ⟨w2, hw2⟩ : ∃ w2, (w.alloc (.cells #[.slice sp l c, .slice sq m d, .int .i64 bit] 27)).alloc (.cells #[.slice sp l c, .slice sq m d] 25) = w2 := ⟨_, rfl⟩
  have hB : Below w.heap.size w w2 := by rw [← hw2]; exact ((Below.refl _ _).alloc (Nat.le_refl _) _).alloc (by simp) _
  have hk2 : w2.heap[w.heap.size + 1]? = some (.cells #[.slice sp l c, .slice sq m d] 25 (0, 0)) := by rw [← hw2]; exact heap_alloc2_new w _ _
  have hk1 : w2.heap[w.heap.size]? = some (.cells #[.slice sp l c, .slice sq m d, .int .i64 bit] 27 (0, 0)) := by
    rw [← hw2, Below.heap_alloc _ _ _ (by simp)]; exact heap_alloc_new _ _
  have hz : w2.heap.size = w.heap.size + 1 + 1 := by rw [← hw2]; simp
  have HZ := hide hz
  have HB2 := hide hB
  have HW := hide hw2
  have HC : Hid (∀ w', Below w2.heap.size w2 w' → w'.cell? ⟨w.heap.size, 2, none⟩ = some (.int .i64 bit) ∧ w'.cell? ⟨w.heap.size + 1, 0, none⟩ = some (.slice sp l c) ∧ w'.cell? ⟨w.heap.size + 1, 1, none⟩ = some (.slice sq m d)) := fun w' hb => by
    obtain ⟨-, -, x2, -⟩ := pblk3 ((hb.block _ (by omega)).trans hk1)
    obtain ⟨y0, y1⟩ := blk2 ((hb.block _ (by omega)).trans hk2)
    exact ⟨x2, y0, y1⟩
  have HF := hide (hF.below hB)
  have HP := hide (hP.below hB)
  have HT := hide (hT.below hB hT.pos)
  have HL := hide hl
  have HM := hide hm
  clear hw2 hk1 hk2 hz hB hF hP hT hl hm
  have HBg := hide (begun_any w2 HT.out)
  go_enter Tryd.func3, Tryd.ntmps3
  go_upto_region 2 with (fail)
  rw [HW.out]
  go_wp2_with fail
  refine HBg.out.mono ?_
  rintro e w3 ⟨rfl, hb3⟩
  have HB3 := hide hb3
  clear hb3 HBg
  go_wp2_with fail
  go_loopw [4] (fun i wr => ∃ k : Nat, k ≤ l ∧ i = .int .i64 (k : Int) ∧ Hid (Below w2.heap.size w2 wr)) (fun i _ => l - (intOf i).toNat)
  case atStart => exact ⟨0, Nat.zero_le _, rfl, HB3⟩
  case round =>
    obtain ⟨k, hk, rfl, HBr⟩ := hrel
    clear HB3
    obtain ⟨x2, y0, y1⟩ := HC.out wr HBr.out
    by_cases hlt : k < l
    · obtain ⟨fe, hfe⟩ : ∃ fe, es[k]? = some fe := ⟨_, List.getElem?_eq_getElem (by rw [HL.out]; exact hlt)⟩
      obtain ⟨g, o, rfl, hg, hok, c0, c1, c2, c3, c4, c5, c6⟩ := (HF.out.below HBr.out).at hfe
      have i1 : (0 : Int) ≤ (k : Int) := by omega
      have i2 : (k : Int) < (l : Int) := by omega
      have HE := hide (enc_any wr fe.f fe.p fe.c hok.by_ (HT.out.below HBr.out HT.out.pos))
      have HOk := hide hok
      have HFe := hide hfe
      unfold frV at HE
      clear hok hfe
      by_cases hfit : fe.f.fit
      · have hen : encB fe.f = fe.f.bytes := by unfold encB; rw [if_pos hfit]
        have HDc := hide (dec_bytes hfit HOk.out.by_.small)
        have HFl := hide (fun i (hi : i < 8 * fe.f.bytes.length) => dec_flip hfit HOk.out.by_.small hi)
        have HCt := hide (fun i (hi : i < fe.f.bytes.length) => dec_cut hfit HOk.out.by_.small hi)
        have HMo := hide (dec_more hfit HOk.out.by_.small (x := 0) (by omega))
        have HBs := hide (Fr.bytes_small hfit HOk.out.by_.small)
        have hl1 := Fr.bytes_len fe.f
        have hl2 := Fr.head_len hfit
        rw [hen] at HE
        clear hen hfit
        generalize fe.f.bytes = B at *
        obtain ⟨n, hn⟩ : ∃ n, B.length = n := ⟨_, rfl⟩
        rw [hn] at HE HFl HCt hl1
        have hn1 : 11 ≤ n := by omega
        have hn2 : n ≤ 2088 := by omega
        have HN := hide hn
        obtain ⟨bl, hbl⟩ : ∃ bl, fe.f.body.length = bl := ⟨_, rfl⟩
        rw [hbl] at HE c6
        have HBL := hide hbl
        clear hn hl1 hl2 hbl
        go_wp2_with fail
        refine HE.out.mono ?_
        rintro e w5 ⟨sq5, rfl, hmi, hb5⟩
        have hB5 := HBr.out.trans (hb5.mono HBr.out.size)
        have hy5 : Bytes w5 sq5 B := Bytes.of_c (hmi.bytes HBs.out)
        have HB5 := hide hB5
        have HY5 := hide hy5
        have HCp := hide (copy_any w5 sq5 n n B HN.out hy5 (by omega))
        clear hmi hb5 hB5 hy5 HE c0 c1 c2 c3 c4 c5 c6 x2 y0 y1 hg
        go_wp2_with fail
        refine HCp.out.mono ?_
        rintro e w6 ⟨a6, c6', rfl, ho6, hb6⟩
        obtain ⟨_, _, e6, hc6, hc6'⟩ := owns_form ho6
        cases e6
        have hB6 := HB5.out.trans (hb6.mono HB5.out.size)
        have HB6 := hide hB6
        have HD := hide (dec_any w6 a6 n c6' B HN.out hc6 (by unfold maxLen at hc6'; omega) (owns_bytes ho6 HBs.out) (HT.out.below hB6 HT.out.pos))
        have HY6 := hide (HY5.out.below hb6)
        clear HCp ho6 hb6 hB6 hc6 hc6' HY5 HB5
        go_wp2_with fail
        refine HD.out.mono ?_
        rintro e w7 hdp
        rcases hdp with ⟨f7, sq7, hd, rfl, hmi7, hb7⟩ | ⟨hd, _, _⟩
        rotate_left
        · rw [HDc.out] at hd; cases hd
        rw [HDc.out] at hd
        cases hd
        unfold frV
        rw [HBL.out]
        have hB7 := HB6.out.trans (hb7.mono HB6.out.size)
        have hy7 : Bytes w7 sq7 fe.f.body := Bytes.of_c (hmi7.bytes HOk.out.by_.small)
        have HB7 := hide hB7
        have HY7 := hide (HY6.out.below hb7)
        have HZ7 := hide hy7
        clear hmi7 hb7 hB7 hy7 HD HY6 HB6
        go_upto_region 10 with (fail)
        obtain ⟨w8, hw8⟩ : ∃ w8, w7.alloc (.cells #[.int .i64 fe.f.fr, .int .i64 fe.f.tt, .int .u64 (fe.f.mine : Int), .int .u64 (fe.f.yours : Int), .int .u64 (fe.f.seq : Int), .int .u64 (fe.f.ack : Int), .slice sq7 bl bl] 33) = w8 := ⟨_, rfl⟩
        rw [hw8]
        obtain ⟨bx, hbx⟩ : ∃ bx, w7.heap.size = bx := ⟨_, rfl⟩
        have hk8 : w8.heap[bx]? = some (.cells #[.int .i64 fe.f.fr, .int .i64 fe.f.tt, .int .u64 (fe.f.mine : Int), .int .u64 (fe.f.yours : Int), .int .u64 (fe.f.seq : Int), .int .u64 (fe.f.ack : Int), .slice sq7 bl bl] 33 (0, 0)) := by rw [← hw8, ← hbx]; exact heap_alloc_new _ _
        have hb8 : Below w7.heap.size w7 w8 := by rw [← hw8]; exact (Below.refl _ _).alloc (Nat.le_refl _) _
        have hB8 := HB7.out.trans (hb8.mono HB7.out.size)
        have HY8 := hide (HY7.out.below hb8)
        have hs8 : bx < w8.heap.size := C.lt_of_block hk8
        rw [hbx]
        obtain ⟨b0, b1, b2, b3, b4, b5, b6, -⟩ := blk7 hk8
        obtain ⟨x2, y0, y1⟩ := HC.out w8 hB8
        obtain ⟨g', o', e', hg8, hok8, c0, c1, c2, c3, c4, c5, c6⟩ := (HF.out.below hB8).at HFe.out
        cases e'
        rw [HBL.out] at c6
        have hbx8 := hs8
        have htb8 : w.heap.size + 1 < w8.heap.size := by have := hB8.size; have := HZ.out; omega
        have HQ := hide (eqfr_any w8.drew fe.f fe.f sq7 fe.p bl fe.c ((HZ7.out.below hb8).drewN 1) (hok8.by_.drewN 1) (by have := HOk.out.len; omega) (by have := HOk.out.len; omega))
        unfold frV at HQ
        rw [HBL.out] at HQ
        have HB8 := hide hB8
        clear hw8 hk8 hb8 hB8 HY7 HB7 HZ7 hbx hok8
        go_region_held3 (fun w' => w'.cell? ⟨bx, 0, none⟩ = some (.int .i64 fe.f.fr) ∧ w'.cell? ⟨bx, 1, none⟩ = some (.int .i64 fe.f.tt) ∧ w'.cell? ⟨bx, 2, none⟩ = some (.int .u64 (fe.f.mine : Int)) ∧ w'.cell? ⟨bx, 3, none⟩ = some (.int .u64 (fe.f.yours : Int)) ∧ w'.cell? ⟨bx, 4, none⟩ = some (.int .u64 (fe.f.seq : Int)) ∧ w'.cell? ⟨bx, 5, none⟩ = some (.int .u64 (fe.f.ack : Int)) ∧ w'.cell? ⟨bx, 6, none⟩ = some (.slice sq7 bl bl) ∧ w'.cell? ⟨w.heap.size + 1, 0, none⟩ = some (.slice (some ⟨g, o, none⟩) l c) ∧ w'.cell? ⟨g, o + k * 7, none⟩ = some (.int .i64 fe.f.fr) ∧ w'.cell? ⟨g, o + k * 7 + 1, none⟩ = some (.int .i64 fe.f.tt) ∧ w'.cell? ⟨g, o + k * 7 + 2, none⟩ = some (.int .u64 (fe.f.mine : Int)) ∧ w'.cell? ⟨g, o + k * 7 + 3, none⟩ = some (.int .u64 (fe.f.yours : Int)) ∧ w'.cell? ⟨g, o + k * 7 + 4, none⟩ = some (.int .u64 (fe.f.seq : Int)) ∧ w'.cell? ⟨g, o + k * 7 + 5, none⟩ = some (.int .u64 (fe.f.ack : Int)) ∧ w'.cell? ⟨g, o + k * 7 + 6, none⟩ = some (.slice fe.p bl fe.c)) (go_keep) (first | (go_at_call 8; refine HQ.out.mono ?_; rintro e w9 ⟨r, rfl, hr, hb9⟩; obtain rfl : r = true := hr.2 (by first | trivial | rfl); have HB9 := hide hb9; have b09 := (hb9.cell (p := ⟨bx, 0, none⟩) hbx8).trans b0; have b19 := (hb9.cell (p := ⟨bx, 1, none⟩) hbx8).trans b1; have b29 := (hb9.cell (p := ⟨bx, 2, none⟩) hbx8).trans b2; have b39 := (hb9.cell (p := ⟨bx, 3, none⟩) hbx8).trans b3; have b49 := (hb9.cell (p := ⟨bx, 4, none⟩) hbx8).trans b4; have b59 := (hb9.cell (p := ⟨bx, 5, none⟩) hbx8).trans b5; have b69 := (hb9.cell (p := ⟨bx, 6, none⟩) hbx8).trans b6; have y09 := (hb9.cell (p := ⟨w.heap.size + 1, 0, none⟩) htb8).trans y0; have c09 := (hb9.cell (p := ⟨g, o + k * 7, none⟩) hg8).trans c0; have c19 := (hb9.cell (p := ⟨g, o + k * 7 + 1, none⟩) hg8).trans c1; have c29 := (hb9.cell (p := ⟨g, o + k * 7 + 2, none⟩) hg8).trans c2; have c39 := (hb9.cell (p := ⟨g, o + k * 7 + 3, none⟩) hg8).trans c3; have c49 := (hb9.cell (p := ⟨g, o + k * 7 + 4, none⟩) hg8).trans c4; have c59 := (hb9.cell (p := ⟨g, o + k * 7 + 5, none⟩) hg8).trans c5; have c69 := (hb9.cell (p := ⟨g, o + k * 7 + 6, none⟩) hg8).trans c6; clear hr hb9))
        clear HQ b0 b1 b2 b3 b4 b5 b6 x2 y0 y1 c0 c1 c2 c3 c4 c5 c6 b09 b19 b29 b39 b49 b59 b69 y09 c09 c19 c29 c39 c49 c59 c69
        have hd9 : Below w8.heap.size w8 w9 := Below.trans ((Below.refl _ _).drew) HB9.out
        have hB9 := HB8.out.trans (hd9.mono HB8.out.size)
        obtain ⟨x2, y0, y1⟩ := HC.out w9 hB9
        have HWi := hide (within_any w9 bit (8 * n) (by omega) (by omega))
        obtain ⟨bi, hbi⟩ : ∃ bi, (bit % ((8 * n : Nat) : Int)).toNat = bi := ⟨_, rfl⟩
        have hbi2 : bi < 8 * n := by
          have h1 := Int.emod_lt_of_pos bit (show (0 : Int) < ((8 * n : Nat) : Int) by omega)
          omega
        rw [hbi, show ((8 * n : Nat) : Int) = 8 * (n : Int) by omega] at HWi
        have HY9 := hide (HY8.out.below hd9)
        have HB9' := hide hB9
        have h8n : ((8 : Int) * (n : Int)) ≤ 16704 := by omega
        clear hbi hd9 hB9 HB9 HY8 HB8
        go_wp2_with fail
        refine HWi.out.mono ?_
        rintro e w10 ⟨rfl, rfl⟩
        have HCp := hide (copy_any w10 sq5 n n B HN.out HY9.out (by omega))
        clear HWi x2 y0 y1
        go_wp2_with fail
        refine HCp.out.mono ?_
        rintro e w11 ⟨a11, c11, rfl, ho11, hb11⟩
        obtain ⟨_, _, e11, hc11, hc11'⟩ := owns_form ho11
        cases e11
        obtain ⟨gb, e11, hgb⟩ : ∃ gb, a11 = some ⟨gb, 0, none⟩ ∧ w10.heap.size ≤ gb := by
          rcases ho11.2 with ⟨e1, e2⟩ | ⟨g', _, _, e1, h2, _⟩
          · cases e1; omega
          · cases e1; exact ⟨g', rfl, h2⟩
        subst e11
        have hq0 : w11.cell? ⟨gb, bi / 8, none⟩ = some (.int .u8 (B.getD (bi / 8) 0 : Nat)) := by
          rcases (owns_bytes ho11 HBs.out).lie with e | ⟨g', o', e, _, hc⟩
          · have := HN.out; rw [e] at this; simp at this; omega
          · cases e
            have := hc (bi / 8) (by rw [HN.out]; omega)
            simpa using this
        have hqf : w11.frozen? ⟨gb, bi / 8, none⟩ = false := by
          rcases ho11.2 with ⟨e1, _⟩ | ⟨g', _, _, e1, _, hg', _⟩
          · cases e1
          · cases e1; simp [World.frozen?, hg']
        have i3 : (0 : Int) ≤ (bi : Int) / 8 := by omega
        have i4 : (bi : Int) / 8 < (n : Int) := by omega
        have i5 : ((bi : Int) / 8).toNat = bi / 8 := by omega
        have i6 : (bi : Int) / 8 ≤ (n : Int) := by omega
        have HO11 := hide ho11
        have HB11 := hide hb11
        clear ho11 hb11 HCp
        go_wp2_with fail
        rw [flip_byte B HBs.out bi]
        have hst := HO11.out.stored (bi / 8) (.int .u8 ((B.getD (bi / 8) 0 ^^^ 2 ^ (bi % 8) : Nat) : Int))
        rw [flip_vals] at hst
        have hB12 : Below w10.heap.size w10 (w11.setCell ⟨gb, bi / 8, none⟩ (.int .u8 ((B.getD (bi / 8) 0 ^^^ 2 ^ (bi % 8) : Nat) : Int))) := HB11.out.setCell hgb _
        generalize w11.setCell ⟨gb, bi / 8, none⟩ (.int .u8 ((B.getD (bi / 8) 0 ^^^ 2 ^ (bi % 8) : Nat) : Int)) = w12 at *
        have hB12w := HB9'.out.trans (hB12.mono HB9'.out.size)
        have HY12 := hide (HY9.out.below hB12)
        have HB12 := hide hB12w
        have hfl := HFl.out bi hbi2
        have hfs := C.flip_small B bi HBs.out
        have hfn : (C.flip B bi).length = n := by rw [C.flip_len]; exact HN.out
        generalize C.flip B bi = Y at *
        refine (dec_any w12 (some ⟨gb, 0, none⟩) n c11 Y hfn hc11 (by unfold maxLen at hc11'; omega) (owns_bytes hst.1 hfs) (HT.out.below hB12w HT.out.pos)).mono ?_
        rintro e w13 hdp
        rcases hdp with ⟨f7, _, hd, _⟩ | ⟨-, rfl, hb13⟩
        · rw [hfl] at hd; cases hd
        have HY13 := hide (HY12.out.below hb13)
        have HB13 := hide (HB12.out.trans (hb13.mono HB12.out.size))
        clear hst hB12 hB12w hfl hfs hfn hb13 HY12 HB12 HO11 HB11 HY9 HB9' hq0 hqf hc11 hc11' hgb
        unfold frV fr0
        have HCp : Hid (∀ w14, Bytes w14 sq5 B → Calls Tryd.prog 7 #[.slice sq5 (bi / 8) n] w14 fun e w' => ∃ a c, e = .returned (.slice a (bi / 8) c) ∧ w'.ownsRow w14.heap.size 5 1 (.slice a (bi / 8) c) (bi / 8) (vals (B.take (bi / 8))) ∧ Below w14.heap.size w14 w') := fun w14 hb => copy_any w14 sq5 (bi / 8) n (B.take (bi / 8)) (by rw [List.length_take, HN.out]; omega) (Bytes.of_c (hb.c.take _)) (by omega)
        go_wp2_with fail
        refine (HCp.out _ (HY13.out.below ((Below.refl _ _).alloc (Nat.le_refl _) _))).mono ?_
        rintro e w15 ⟨a15, c15, rfl, ho15, hb15⟩
        have hb15' : Below w13.heap.size w13 w15 := ((Below.refl _ _).alloc (Nat.le_refl _) _).trans (hb15.mono (by simp))
        obtain ⟨_, _, e15, hc15, hc15'⟩ := owns_form ho15
        cases e15
        have HY15 := hide (HY13.out.below hb15')
        have hB15 := HB13.out.trans (hb15'.mono HB13.out.size)
        have HB15 := hide hB15
        have hct := HCt.out (bi / 8) (by omega)
        have HD := hide (dec_any w15 a15 (bi / 8) c15 (B.take (bi / 8)) (by rw [List.length_take, HN.out]; omega) hc15 (by unfold maxLen at hc15'; omega) (owns_bytes ho15 (fun x hx => HBs.out x (List.mem_of_mem_take hx))) (HT.out.below hB15 HT.out.pos))
        clear ho15 hb15 hb15' hc15 hc15' hB15 HY13 HB13 HCp
        go_wp2_with fail
        refine HD.out.mono ?_
        rintro e w16 hdp
        rcases hdp with ⟨f7, _, hd, _⟩ | ⟨-, rfl, hb16⟩
        · rw [hct] at hd; cases hd
        have HY16 := hide (HY15.out.below hb16)
        have HB16 := hide (HB15.out.trans (hb16.mono HB15.out.size))
        clear hct hb16 HY15 HB15 HD
        unfold frV fr0
        have HCp : Hid (∀ w14, Bytes w14 sq5 B → Calls Tryd.prog 7 #[.slice sq5 n n] w14 fun e w' => ∃ a c, e = .returned (.slice a n c) ∧ w'.ownsRow w14.heap.size 5 1 (.slice a n c) n (vals B) ∧ Below w14.heap.size w14 w') := fun w14 hb => copy_any w14 sq5 n n B HN.out hb (by omega)
        go_wp2_with fail
        refine (HCp.out _ (HY16.out.below ((Below.refl _ _).alloc (Nat.le_refl _) _))).mono ?_
        rintro e w18 ⟨a18, c18, rfl, ho18, hb18⟩
        have hb18' : Below w16.heap.size w16 w18 := ((Below.refl _ _).alloc (Nat.le_refl _) _).trans (hb18.mono (by simp))
        have HB18 := hide (HB16.out.trans (hb18'.mono HB16.out.size))
        have HB17 := hide HB16.out
        have HO18 := hide ho18
        obtain ⟨i0, hi, hz0, hz1, hz2⟩ := info_parts Tryd.infoU8
        have hv0 : vals B ++ [.int .u8 0] = vals (B ++ [0]) := by simp [vals]
        clear hb18 hb18' ho18 HCp HY16 HB16
        go_wp2_with (at_builtin; refine wpList_append_lies _ rfl (.tmp 100) (.tmp 101) 29 rfl 0 5 i0 (.int .u8 0) 1 1 Tryd.underlying29 hi hz0 hz1 hz2 rfl (by omega) (.slice a18 n c18) n (vals B) rfl (owns_low (HO18.out.alloc _)) ⟨w18.heap.size, 0, none⟩ 1 1 [.int .u8 0] rfl rfl (World.news_of_block (heap_alloc_new w18 (.cells #[.int .u8 0] 5))) (by simp [Value.oneCell']) (by omega) (by unfold maxLen; omega) (by omega) (Nat.zero_le _) _ rfl ?_; intro g' cap' w19 hown hgrow hat hltg; have HO19 := hide hown; have HG19 := hide hgrow; clear hown hgrow hat)
        have hB19 : Below w2.heap.size w2 w19 := (HB18.out.alloc HB18.out.size _).grown HG19.out (by have := HB18.out.size; simp; omega) (fun k2 e2 => by
          rcases HO18.out.2 with ⟨e1, _⟩ | ⟨g2, _, _, e1, h2, _⟩
          · cases e1; simp [Value.ownBlock] at e2
          · cases e1; simp [Value.ownBlock] at e2; have := HB17.out.size; simp at h2; omega)
        obtain ⟨_, _, e19, hc19, hc19'⟩ := owns_form HO19.out
        cases e19
        have hr19 := HO19.out
        rw [hv0] at hr19
        have hmo := HMo.out
        have hsm : ∀ x ∈ B ++ [0], x < 256 := fun x hx => by
          rcases List.mem_append.1 hx with h1 | h1
          · exact HBs.out x h1
          · simp at h1; omega
        have hln : (B ++ [0]).length = n + 1 := by rw [List.length_append, HN.out]; rfl
        have HB19 := hide hB19
        have hd19 := dec_any w19 (some ⟨g', 0, none⟩) (n + 1) cap' (B ++ [0]) hln hc19 (by unfold maxLen at hc19'; omega) (owns_bytes hr19 hsm) (HT.out.below hB19 HT.out.pos)
        refine hd19.mono ?_
        rintro e w20 hdp
        rcases hdp with ⟨f7, _, hd, _⟩ | ⟨-, rfl, hb20⟩
        · rw [hmo] at hd; cases hd
        have HB20 := hide (HB19.out.trans (hb20.mono HB19.out.size))
        clear hd19 hr19 hmo hsm hln hb20 hB19 HB19 HB18 HO18 HO19 HG19 hc19 hc19' hv0
        unfold frV fr0
        go_wp2
        exact ⟨⟨k + 1, by omega, by go_num, hide (HB20.out.alloc HB20.out.size _)⟩, by simp [intOf]; omega⟩
      · have hen : encB fe.f = [] := by unfold encB; rw [if_neg hfit]
        rw [hen] at HE
        clear hen hfit
        go_wp2_with fail
        refine HE.out.mono ?_
        rintro e w5 ⟨sq5, rfl, -, hb5⟩
        have HB5 := hide (HBr.out.trans (hb5.mono HBr.out.size))
        clear hb5 HE
        go_wp2
        exact ⟨⟨k + 1, by omega, by go_num, HB5⟩, by simp [intOf]; omega⟩
    · obtain rfl : k = l := by omega
      clear x2 y0 y1
      obtain ⟨x2, y0, y1⟩ := HC.out wr HBr.out
      go_wp2_with fail
      clear x2 y0 y1
      go_loopw [16] (fun i w' => ∃ j : Nat, j ≤ m ∧ i = .int .i64 (j : Int) ∧ Hid (Below w2.heap.size w2 w')) (fun i _ => m - (intOf i).toNat)
      case atStart => exact ⟨0, Nat.zero_le _, rfl, HBr⟩
      case round =>
        obtain ⟨j, hj, rfl, HBq⟩ := hrel
        clear HBr
        obtain ⟨x2, y0, y1⟩ := HC.out _ HBq.out
        by_cases hlt2 : j < m
        · obtain ⟨p, hp⟩ : ∃ p, ps[j]? = some p := ⟨_, List.getElem?_eq_getElem (by rw [HM.out]; exact hlt2)⟩
          obtain ⟨g, o, ap, cp, rfl, hg, q0, hbp⟩ := (HP.out.below HBq.out).at hp
          have hps := HP.out.small p (List.mem_of_getElem? hp)
          have i1 : (0 : Int) ≤ (j : Int) := by omega
          have i2 : (j : Int) < (m : Int) := by omega
          obtain ⟨pl, hpl⟩ : ∃ pl, p.length = pl := ⟨_, rfl⟩
          rw [hpl] at q0 hps
          have HPl := hide hpl
          have HPp := hide hp
          have HPs := hide hbp.small
          have HCp := hide (copy_any wr ap pl cp p hpl hbp (by omega))
          clear hp hpl hbp
          go_wp2_with fail
          refine HCp.out.mono ?_
          rintro e w6 ⟨a6, c6', rfl, ho6, hb6⟩
          obtain ⟨_, _, e6, hc6, hc6'⟩ := owns_form ho6
          cases e6
          have hB6 := HBq.out.trans (hb6.mono HBq.out.size)
          have HB6 := hide hB6
          have HD := hide (dec_any w6 a6 pl c6' p HPl.out hc6 (by unfold maxLen at hc6'; omega) (owns_bytes ho6 HPs.out) (HT.out.below hB6 HT.out.pos))
          clear HCp ho6 hb6 hB6 hc6 hc6' x2 y0 y1 q0 hg
          go_wp2_with fail
          refine HD.out.mono ?_
          rintro e w7 hdp
          rcases hdp with ⟨f, sq7, hd, rfl, hmi7, hb7⟩ | ⟨hd, rfl, hb7⟩
          · obtain ⟨hfit, hfsm, hfb⟩ := dec_some HPs.out hd
            have hen : encB f = p := by unfold encB; rw [if_pos hfit]; exact hfb
            have hB7 := HB6.out.trans (hb7.mono HB6.out.size)
            have hy7 : Bytes w7 sq7 f.body := Bytes.of_c (hmi7.bytes hfsm)
            obtain ⟨bl, hbl⟩ : ∃ bl, f.body.length = bl := ⟨_, rfl⟩
            unfold frV
            rw [hbl]
            have HB7 := hide hB7
            have HZ7 := hide hy7
            have HBL := hide hbl
            have HEn := hide hen
            clear hmi7 hb7 hB7 hy7 HD HB6 hd hfit hfsm hfb hbl hen
            go_upto_region 24 with (fail)
            obtain ⟨w8, hw8⟩ : ∃ w8, w7.alloc (.cells #[.int .i64 f.fr, .int .i64 f.tt, .int .u64 (f.mine : Int), .int .u64 (f.yours : Int), .int .u64 (f.seq : Int), .int .u64 (f.ack : Int), .slice sq7 bl bl] 33) = w8 := ⟨_, rfl⟩
            rw [hw8]
            obtain ⟨bx, hbx⟩ : ∃ bx, w7.heap.size = bx := ⟨_, rfl⟩
            have hk8 : w8.heap[bx]? = some (.cells #[.int .i64 f.fr, .int .i64 f.tt, .int .u64 (f.mine : Int), .int .u64 (f.yours : Int), .int .u64 (f.seq : Int), .int .u64 (f.ack : Int), .slice sq7 bl bl] 33 (0, 0)) := by rw [← hw8, ← hbx]; exact heap_alloc_new _ _
            have hb8 : Below w7.heap.size w7 w8 := by rw [← hw8]; exact (Below.refl _ _).alloc (Nat.le_refl _) _
            have hB8 := HB7.out.trans (hb8.mono HB7.out.size)
            have hbx8 : bx < w8.heap.size := C.lt_of_block hk8
            rw [hbx]
            obtain ⟨b0, b1, b2, b3, b4, b5, b6, -⟩ := blk7 hk8
            obtain ⟨x2, y0, y1⟩ := HC.out w8 hB8
            obtain ⟨g', o', ap', cp', e', hg8, q0, hbp8⟩ := (HP.out.below hB8).at HPp.out
            cases e'
            rw [HPl.out] at q0
            have htb8 : w.heap.size + 1 < w8.heap.size := by have := hB8.size; have := HZ.out; omega
            have HQ := hide (enc_any w8.drew f sq7 bl ((HZ7.out.below hb8).drewN 1) (HT.out.below (hB8.drew) HT.out.pos))
            unfold frV at HQ
            rw [HBL.out, HEn.out, HPl.out] at HQ
            have HBp8 := hide hbp8
            have HB8 := hide hB8
            clear hw8 hk8 hb8 hB8 HB7 HZ7 hbx hbp8
            refine wp_region_held_drew (S := (fun w' => w'.cell? ⟨bx, 0, none⟩ = some (.int .i64 f.fr) ∧ w'.cell? ⟨bx, 1, none⟩ = some (.int .i64 f.tt) ∧ w'.cell? ⟨bx, 2, none⟩ = some (.int .u64 (f.mine : Int)) ∧ w'.cell? ⟨bx, 3, none⟩ = some (.int .u64 (f.yours : Int)) ∧ w'.cell? ⟨bx, 4, none⟩ = some (.int .u64 (f.seq : Int)) ∧ w'.cell? ⟨bx, 5, none⟩ = some (.int .u64 (f.ack : Int)) ∧ w'.cell? ⟨bx, 6, none⟩ = some (.slice sq7 bl bl) ∧ w'.cell? ⟨w.heap.size + 1, 1, none⟩ = some (.slice (some ⟨g, o, none⟩) m d) ∧ w'.cell? ⟨g, o + j, none⟩ = some (.slice ap' pl cp'))) (by kernel_rfl) (by go_keep) (fun hHeld => ?_)
            refine wpAnyH_take (i := 0) (oi := { dst := some 130, op := Op.move (Operand.tmp 18), type := 4, pos := _, after := _, guard := _ }) (v := ?vs0) rfl (by kernel_rfl) (by kernel_rfl) (by kernel_rfl) (fun _ _ _ h => h) (Or.inl ⟨by rfl, ?ys0⟩) (by assumption) ?rs0
            case ys0 => (intro w hSw; (try dsimp only at hSw); go_simp; try with_reducible rfl)
            try simp only [Act.put, List.setIfInBounds_toArray, List.set_cons_zero, List.set_cons_succ]
            refine wpAnyH_take (i := 1) (oi := { dst := some 131, op := Op.move (Operand.tmp 130), type := 4, pos := _, after := _, guard := _ }) (v := ?vs1) rfl (by kernel_rfl) (by kernel_rfl) (by kernel_rfl) (fun _ _ _ h => h) (Or.inl ⟨by rfl, ?ys1⟩) (by assumption) ?rs1
            case ys1 => (intro w hSw; (try dsimp only at hSw); go_simp; try with_reducible rfl)
            try simp only [Act.put, List.setIfInBounds_toArray, List.set_cons_zero, List.set_cons_succ]
            refine wpAnyH_take (i := 2) (oi := { dst := some 132, op := Op.load 33 (Operand.tmp 17), type := 33, pos := _, after := _, guard := _ }) (v := ?vs2) rfl (by kernel_rfl) (by kernel_rfl) (by kernel_rfl) (fun _ _ _ h => h) (Or.inl ⟨by rfl, ?ys2⟩) (by assumption) ?rs2
            case ys2 => (intro w hSw; (try dsimp only at hSw); go_simp; try with_reducible rfl)
            try simp only [Act.put, List.setIfInBounds_toArray, List.set_cons_zero, List.set_cons_succ]
            refine wpAnyH_take (i := 4) (oi := { dst := some 134, op := Op.fieldAddr 25 (Operand.tmp 3) 1, type := 0, pos := _, after := _, guard := _ }) (v := ?vs4) rfl (by kernel_rfl) (by kernel_rfl) (by kernel_rfl) (fun _ _ _ h => h) (Or.inl ⟨by rfl, ?ys4⟩) (by assumption) ?rs4
            case ys4 => (intro w hSw; (try dsimp only at hSw); go_simp; try with_reducible rfl)
            try simp only [Act.put, List.setIfInBounds_toArray, List.set_cons_zero, List.set_cons_succ]
            refine wpAnyH_take (i := 5) (oi := { dst := some 135, op := Op.load 23 (Operand.tmp 134), type := 23, pos := _, after := _, guard := _ }) (v := ?vs5) rfl (by kernel_rfl) (by kernel_rfl) (by kernel_rfl) (fun _ _ _ h => h) (Or.inl ⟨by rfl, ?ys5⟩) (by assumption) ?rs5
            case ys5 => (intro w hSw; (try dsimp only at hSw); go_simp; try with_reducible rfl)
            try simp only [Act.put, List.setIfInBounds_toArray, List.set_cons_zero, List.set_cons_succ]
            refine wpAnyH_take (i := 6) (oi := { dst := some 136, op := Op.move (Operand.tmp 16), type := 3, pos := _, after := _, guard := _ }) (v := ?vs6) rfl (by kernel_rfl) (by kernel_rfl) (by kernel_rfl) (fun _ _ _ h => h) (Or.inl ⟨by rfl, ?ys6⟩) (by assumption) ?rs6
            case ys6 => (intro w hSw; (try dsimp only at hSw); go_simp; try with_reducible rfl)
            try simp only [Act.put, List.setIfInBounds_toArray, List.set_cons_zero, List.set_cons_succ]
            refine wpAnyH_take (i := 7) (oi := { dst := some 137, op := Op.indexAddr 23 (Operand.tmp 135) (Operand.tmp 136), type := 0, pos := _, after := _, guard := _ }) (v := ?vs7) rfl (by kernel_rfl) (by kernel_rfl) (by kernel_rfl) (fun _ _ _ h => h) (Or.inl ⟨by rfl, ?ys7⟩) (by assumption) ?rs7
            case ys7 => (intro w hSw; (try dsimp only at hSw); go_simp; try with_reducible rfl)
            try simp only [Act.put, List.setIfInBounds_toArray, List.set_cons_zero, List.set_cons_succ]
            refine wpAnyH_take (i := 8) (oi := { dst := some 138, op := Op.load 29 (Operand.tmp 137), type := 29, pos := _, after := _, guard := _ }) (v := ?vs8) rfl (by kernel_rfl) (by kernel_rfl) (by kernel_rfl) (fun _ _ _ h => h) (Or.inl ⟨by rfl, ?ys8⟩) (by assumption) ?rs8
            case ys8 => (intro w hSw; (try dsimp only at hSw); go_simp; try with_reducible rfl)
            try simp only [Act.put, List.setIfInBounds_toArray, List.set_cons_zero, List.set_cons_succ]
            refine wpAnyH_ready (rs := [3]) (by kernel_rfl) (by simp) ?_
            refine AllReadyH.cons (o := { dst := some 133, op := Op.call { callee := Callee.value (Operand.func 5), args := #[Operand.tmp 132], argTypes := #[33] }, type := 29, pos := _, after := _, guard := _ }) rfl (fun KK hKK => ?_) AllReadyH.nil
            go_simp
            (go_at_call 5; refine HQ.out.mono ?_; rintro e w9 ⟨sq9, rfl, hm9, hb9⟩; have b0n := (hb9.cell (p := ⟨bx, 0, none⟩) hbx8).trans b0; have b1n := (hb9.cell (p := ⟨bx, 1, none⟩) hbx8).trans b1; have b2n := (hb9.cell (p := ⟨bx, 2, none⟩) hbx8).trans b2; have b3n := (hb9.cell (p := ⟨bx, 3, none⟩) hbx8).trans b3; have b4n := (hb9.cell (p := ⟨bx, 4, none⟩) hbx8).trans b4; have b5n := (hb9.cell (p := ⟨bx, 5, none⟩) hbx8).trans b5; have b6n := (hb9.cell (p := ⟨bx, 6, none⟩) hbx8).trans b6; have y1n := (hb9.cell (p := ⟨w.heap.size + 1, 1, none⟩) htb8).trans y1; have q0n := (hb9.cell (p := ⟨g, o + j, none⟩) hg8).trans q0; have hsz9 := hb9.size; have HV := hide (eq_val w9 sq9 ap' pl pl pl cp' p p HPl.out HPl.out (by omega) (by omega) (Bytes.of_c (hm9.bytes HPs.out)) (HBp8.out.below (Below.trans ((Below.refl _ _).drew) hb9))); simp only [decide_true] at HV; have HB9 := hide hb9; clear hm9 hb9)
            try go_wp2_with fail
            refine hKK.out _ _ (by (try dsimp only); go_keep) (fun hHeld => ?_)
            clear hKK KK
            try simp only [Act.put, List.setIfInBounds_toArray, List.set_cons_zero, List.set_cons_succ]
            refine wpAnyH_ready (rs := [9]) (by kernel_rfl) (by simp) ?_
            refine AllReadyH.cons (o := { dst := some 139, op := Op.call { callee := Callee.value (Operand.func 10), args := #[Operand.tmp 133, Operand.tmp 138], argTypes := #[29, 29] }, type := 4, pos := _, after := _, guard := _ }) rfl (fun KK hKK => ?_) AllReadyH.nil
            go_simp
            (go_at_call 10; refine HV.out.mono ?_; rintro e w10 ⟨rfl, q10, hw10⟩; have hb10 : Below w9.heap.size w9 w10 := (by rw [hw10]; exact below_drewN (Below.refl _ _) q10); have b0m := (hb10.cell (p := ⟨bx, 0, none⟩) (Nat.lt_of_lt_of_le hbx8 hsz9)).trans b0n; have b1m := (hb10.cell (p := ⟨bx, 1, none⟩) (Nat.lt_of_lt_of_le hbx8 hsz9)).trans b1n; have b2m := (hb10.cell (p := ⟨bx, 2, none⟩) (Nat.lt_of_lt_of_le hbx8 hsz9)).trans b2n; have b3m := (hb10.cell (p := ⟨bx, 3, none⟩) (Nat.lt_of_lt_of_le hbx8 hsz9)).trans b3n; have b4m := (hb10.cell (p := ⟨bx, 4, none⟩) (Nat.lt_of_lt_of_le hbx8 hsz9)).trans b4n; have b5m := (hb10.cell (p := ⟨bx, 5, none⟩) (Nat.lt_of_lt_of_le hbx8 hsz9)).trans b5n; have b6m := (hb10.cell (p := ⟨bx, 6, none⟩) (Nat.lt_of_lt_of_le hbx8 hsz9)).trans b6n; have y1m := (hb10.cell (p := ⟨w.heap.size + 1, 1, none⟩) (Nat.lt_of_lt_of_le htb8 hsz9)).trans y1n; have q0m := (hb10.cell (p := ⟨g, o + j, none⟩) (Nat.lt_of_lt_of_le hg8 hsz9)).trans q0n; have HB10 := hide hb10; clear hw10 hb10)
            try go_wp2_with fail
            refine hKK.out _ _ (by (try dsimp only); go_keep) (fun hHeld => ?_)
            clear hKK KK
            try simp only [Act.put, List.setIfInBounds_toArray, List.set_cons_zero, List.set_cons_succ]
            refine wpAnyH_take (i := 10) (oi := { dst := some 140, op := Op.unOp UnOp.not 4 (Operand.tmp 139), type := 4, pos := _, after := _, guard := _ }) (v := ?vs10) rfl (by kernel_rfl) (by kernel_rfl) (by kernel_rfl) (fun _ _ _ h => h) (Or.inl ⟨by rfl, ?ys10⟩) (by assumption) ?rs10
            case ys10 => (intro w hSw; (try dsimp only at hSw); go_simp; try with_reducible rfl)
            try simp only [Act.put, List.setIfInBounds_toArray, List.set_cons_zero, List.set_cons_succ]
            refine wpAnyH_take (i := 11) (oi := { dst := some 141, op := Op.pick (Operand.tmp 131) (Operand.tmp 140) (Operand.const (Value.bool false)), type := 4, pos := _, after := _, guard := _ }) (v := ?vs11) rfl (by kernel_rfl) (by kernel_rfl) (by kernel_rfl) (fun _ _ _ h => h) (Or.inl ⟨by rfl, ?ys11⟩) (by assumption) ?rs11
            case ys11 => (intro w hSw; (try dsimp only at hSw); go_simp; try with_reducible rfl)
            try simp only [Act.put, List.setIfInBounds_toArray, List.set_cons_zero, List.set_cons_succ]
            refine wpAnyH_take (i := 12) (oi := { dst := some 142, op := Op.move (Operand.tmp 141), type := 4, pos := _, after := _, guard := _ }) (v := ?vs12) rfl (by kernel_rfl) (by kernel_rfl) (by kernel_rfl) (fun _ _ _ h => h) (Or.inl ⟨by rfl, ?ys12⟩) (by assumption) ?rs12
            case ys12 => (intro w hSw; (try dsimp only at hSw); go_simp; try with_reducible rfl)
            try simp only [Act.put, List.setIfInBounds_toArray, List.set_cons_zero, List.set_cons_succ]
            refine wpAnyH_take (i := 13) (oi := { dst := some 143, op := Op.move (Operand.tmp 18), type := 4, pos := _, after := _, guard := _ }) (v := ?vs13) rfl (by kernel_rfl) (by kernel_rfl) (by kernel_rfl) (fun _ _ _ h => h) (Or.inl ⟨by rfl, ?ys13⟩) (by assumption) ?rs13
            case ys13 => (intro w hSw; (try dsimp only at hSw); go_simp; try with_reducible rfl)
            try simp only [Act.put, List.setIfInBounds_toArray, List.set_cons_zero, List.set_cons_succ]
            refine wpAnyH_take (i := 14) (oi := { dst := some 144, op := Op.unOp UnOp.not 4 (Operand.tmp 143), type := 4, pos := _, after := _, guard := _ }) (v := ?vs14) rfl (by kernel_rfl) (by kernel_rfl) (by kernel_rfl) (fun _ _ _ h => h) (Or.inl ⟨by rfl, ?ys14⟩) (by assumption) ?rs14
            case ys14 => (intro w hSw; (try dsimp only at hSw); go_simp; try with_reducible rfl)
            try simp only [Act.put, List.setIfInBounds_toArray, List.set_cons_zero, List.set_cons_succ]
            refine wpAnyH_take (i := 15) (oi := { dst := some 145, op := Op.move (Operand.tmp 144), type := 4, pos := _, after := _, guard := _ }) (v := ?vs15) rfl (by kernel_rfl) (by kernel_rfl) (by kernel_rfl) (fun _ _ _ h => h) (Or.inl ⟨by rfl, ?ys15⟩) (by assumption) ?rs15
            case ys15 => (intro w hSw; (try dsimp only at hSw); go_simp; try with_reducible rfl)
            try simp only [Act.put, List.setIfInBounds_toArray, List.set_cons_zero, List.set_cons_succ]
            refine wpAnyH_take (i := 16) (oi := { dst := some 146, op := Op.load 33 (Operand.tmp 17), type := 33, pos := _, after := _, guard := _ }) (v := undef) rfl (by kernel_rfl) (by kernel_rfl) (by kernel_rfl) (fun _ _ _ h => h) (Or.inr ⟨by rfl, rfl⟩) (by assumption) ?_
            try simp only [Act.put, List.setIfInBounds_toArray, List.set_cons_zero, List.set_cons_succ]
            refine wpAnyH_take (i := 17) (oi := { dst := some 147, op := Op.build 33 #[], type := 33, pos := _, after := _, guard := _ }) (v := undef) rfl (by kernel_rfl) (by kernel_rfl) (by kernel_rfl) (fun _ _ _ h => h) (Or.inr ⟨by rfl, rfl⟩) (by assumption) ?_
            try simp only [Act.put, List.setIfInBounds_toArray, List.set_cons_zero, List.set_cons_succ]
            refine wpAnyH_take (i := 18) (oi := { dst := some 148, op := Op.call { callee := Callee.value (Operand.func 8), args := #[Operand.tmp 146, Operand.tmp 147], argTypes := #[33, 33] }, type := 4, pos := _, after := _, guard := _ }) (v := undef) rfl (by kernel_rfl) (by kernel_rfl) (by kernel_rfl) (fun _ _ _ h => h) (Or.inr ⟨by rfl, rfl⟩) (by assumption) ?_
            try simp only [Act.put, List.setIfInBounds_toArray, List.set_cons_zero, List.set_cons_succ]
            refine wpAnyH_take (i := 19) (oi := { dst := some 149, op := Op.unOp UnOp.not 4 (Operand.tmp 148), type := 4, pos := _, after := _, guard := _ }) (v := undef) rfl (by kernel_rfl) (by kernel_rfl) (by kernel_rfl) (fun _ _ _ h => h) (Or.inr ⟨by rfl, rfl⟩) (by assumption) ?_
            try simp only [Act.put, List.setIfInBounds_toArray, List.set_cons_zero, List.set_cons_succ]
            refine wpAnyH_take (i := 20) (oi := { dst := some 150, op := Op.pick (Operand.tmp 145) (Operand.tmp 149) (Operand.const (Value.bool false)), type := 4, pos := _, after := _, guard := _ }) (v := ?vs20) rfl (by kernel_rfl) (by kernel_rfl) (by kernel_rfl) (fun _ _ _ h => h) (Or.inl ⟨by rfl, ?ys20⟩) (by assumption) ?rs20
            case ys20 => (intro w hSw; (try dsimp only at hSw); go_simp; try with_reducible rfl)
            try simp only [Act.put, List.setIfInBounds_toArray, List.set_cons_zero, List.set_cons_succ]
            refine wpAnyH_take (i := 21) (oi := { dst := some 151, op := Op.pick (Operand.tmp 142) (Operand.const (Value.bool true)) (Operand.tmp 150), type := 4, pos := _, after := _, guard := _ }) (v := ?vs21) rfl (by kernel_rfl) (by kernel_rfl) (by kernel_rfl) (fun _ _ _ h => h) (Or.inl ⟨by rfl, ?ys21⟩) (by assumption) ?rs21
            case ys21 => (intro w hSw; (try dsimp only at hSw); go_simp; try with_reducible rfl)
            try simp only [Act.put, List.setIfInBounds_toArray, List.set_cons_zero, List.set_cons_succ]
            refine wpAnyH_done (by kernel_rfl) ?_ _
            go_wp2
            have hB10 := HB8.out.trans ((Below.trans ((Below.refl _ _).drew) (HB9.out.trans (HB10.out.mono HB9.out.size))).mono HB8.out.size)
            exact ⟨⟨j + 1, by omega, by go_num, hide hB10⟩, by simp [intOf]; omega⟩
          · have hB7 := HB6.out.trans (hb7.mono HB6.out.size)
            have HB7 := hide hB7
            clear hb7 hB7 HD HB6 hd
            unfold frV fr0
            go_upto_region 24 with (fail)
            obtain ⟨w8, hw8⟩ : ∃ w8, w7.alloc (.cells #[.int .i64 0, .int .i64 0, .int .u64 0, .int .u64 0, .int .u64 0, .int .u64 0, .slice none 0 0] 33) = w8 := ⟨_, rfl⟩
            rw [hw8]
            obtain ⟨bx, hbx⟩ : ∃ bx, w7.heap.size = bx := ⟨_, rfl⟩
            have hk8 : w8.heap[bx]? = some (.cells #[.int .i64 0, .int .i64 0, .int .u64 0, .int .u64 0, .int .u64 0, .int .u64 0, .slice none 0 0] 33 (0, 0)) := by rw [← hw8, ← hbx]; exact heap_alloc_new _ _
            have hb8 : Below w7.heap.size w7 w8 := by rw [← hw8]; exact (Below.refl _ _).alloc (Nat.le_refl _) _
            have hB8 := HB7.out.trans (hb8.mono HB7.out.size)
            have hbx8 : bx < w8.heap.size := C.lt_of_block hk8
            rw [hbx]
            obtain ⟨b0, b1, b2, b3, b4, b5, b6, -⟩ := blk7 hk8
            obtain ⟨x2, y0, y1⟩ := HC.out w8 hB8
            obtain ⟨g', o', ap', cp', e', hg8, q0, hbp8⟩ := (HP.out.below hB8).at HPp.out
            cases e'
            rw [HPl.out] at q0
            have htb8 : w.heap.size + 1 < w8.heap.size := by have := hB8.size; have := HZ.out; omega
            have HQ := hide (eqfr_any w8.drew fr0 fr0 none none 0 0 ⟨fun x hx => by simp [fr0] at hx, Or.inl rfl⟩ ⟨fun x hx => by simp [fr0] at hx, Or.inl rfl⟩ (by simp [fr0]) (by simp [fr0]))
            have hv0 : frV fr0 none 0 = .agg #[.int .i64 0, .int .i64 0, .int .u64 0, .int .u64 0, .int .u64 0, .int .u64 0, .slice none 0 0] := rfl
            rw [hv0] at HQ
            have HB8 := hide hB8
            clear hw8 hk8 hb8 hB8 HB7 hbx hbp8 hv0
            refine wp_region_held_drew (S := (fun w' => w'.cell? ⟨bx, 0, none⟩ = some (.int .i64 0) ∧ w'.cell? ⟨bx, 1, none⟩ = some (.int .i64 0) ∧ w'.cell? ⟨bx, 2, none⟩ = some (.int .u64 0) ∧ w'.cell? ⟨bx, 3, none⟩ = some (.int .u64 0) ∧ w'.cell? ⟨bx, 4, none⟩ = some (.int .u64 0) ∧ w'.cell? ⟨bx, 5, none⟩ = some (.int .u64 0) ∧ w'.cell? ⟨bx, 6, none⟩ = some (.slice none 0 0) ∧ w'.cell? ⟨w.heap.size + 1, 1, none⟩ = some (.slice (some ⟨g, o, none⟩) m d) ∧ w'.cell? ⟨g, o + j, none⟩ = some (.slice ap' pl cp'))) (by kernel_rfl) (by go_keep) (fun hHeld => ?_)
            refine wpAnyH_take (i := 0) (oi := { dst := some 130, op := Op.move (Operand.tmp 18), type := 4, pos := _, after := _, guard := _ }) (v := ?vz0) rfl (by kernel_rfl) (by kernel_rfl) (by kernel_rfl) (fun _ _ _ h => h) (Or.inl ⟨by rfl, ?yz0⟩) (by assumption) ?rz0
            case yz0 => (intro w hSw; (try dsimp only at hSw); go_simp; try with_reducible rfl)
            try simp only [Act.put, List.setIfInBounds_toArray, List.set_cons_zero, List.set_cons_succ]
            refine wpAnyH_take (i := 1) (oi := { dst := some 131, op := Op.move (Operand.tmp 130), type := 4, pos := _, after := _, guard := _ }) (v := ?vz1) rfl (by kernel_rfl) (by kernel_rfl) (by kernel_rfl) (fun _ _ _ h => h) (Or.inl ⟨by rfl, ?yz1⟩) (by assumption) ?rz1
            case yz1 => (intro w hSw; (try dsimp only at hSw); go_simp; try with_reducible rfl)
            try simp only [Act.put, List.setIfInBounds_toArray, List.set_cons_zero, List.set_cons_succ]
            refine wpAnyH_take (i := 2) (oi := { dst := some 132, op := Op.load 33 (Operand.tmp 17), type := 33, pos := _, after := _, guard := _ }) (v := undef) rfl (by kernel_rfl) (by kernel_rfl) (by kernel_rfl) (fun _ _ _ h => h) (Or.inr ⟨by rfl, rfl⟩) (by assumption) ?_
            try simp only [Act.put, List.setIfInBounds_toArray, List.set_cons_zero, List.set_cons_succ]
            refine wpAnyH_take (i := 3) (oi := { dst := some 133, op := Op.call { callee := Callee.value (Operand.func 5), args := #[Operand.tmp 132], argTypes := #[33] }, type := 29, pos := _, after := _, guard := _ }) (v := undef) rfl (by kernel_rfl) (by kernel_rfl) (by kernel_rfl) (fun _ _ _ h => h) (Or.inr ⟨by rfl, rfl⟩) (by assumption) ?_
            try simp only [Act.put, List.setIfInBounds_toArray, List.set_cons_zero, List.set_cons_succ]
            refine wpAnyH_take (i := 4) (oi := { dst := some 134, op := Op.fieldAddr 25 (Operand.tmp 3) 1, type := 0, pos := _, after := _, guard := _ }) (v := undef) rfl (by kernel_rfl) (by kernel_rfl) (by kernel_rfl) (fun _ _ _ h => h) (Or.inr ⟨by rfl, rfl⟩) (by assumption) ?_
            try simp only [Act.put, List.setIfInBounds_toArray, List.set_cons_zero, List.set_cons_succ]
            refine wpAnyH_take (i := 5) (oi := { dst := some 135, op := Op.load 23 (Operand.tmp 134), type := 23, pos := _, after := _, guard := _ }) (v := undef) rfl (by kernel_rfl) (by kernel_rfl) (by kernel_rfl) (fun _ _ _ h => h) (Or.inr ⟨by rfl, rfl⟩) (by assumption) ?_
            try simp only [Act.put, List.setIfInBounds_toArray, List.set_cons_zero, List.set_cons_succ]
            refine wpAnyH_take (i := 6) (oi := { dst := some 136, op := Op.move (Operand.tmp 16), type := 3, pos := _, after := _, guard := _ }) (v := undef) rfl (by kernel_rfl) (by kernel_rfl) (by kernel_rfl) (fun _ _ _ h => h) (Or.inr ⟨by rfl, rfl⟩) (by assumption) ?_
            try simp only [Act.put, List.setIfInBounds_toArray, List.set_cons_zero, List.set_cons_succ]
            refine wpAnyH_take (i := 7) (oi := { dst := some 137, op := Op.indexAddr 23 (Operand.tmp 135) (Operand.tmp 136), type := 0, pos := _, after := _, guard := _ }) (v := undef) rfl (by kernel_rfl) (by kernel_rfl) (by kernel_rfl) (fun _ _ _ h => h) (Or.inr ⟨by rfl, rfl⟩) (by assumption) ?_
            try simp only [Act.put, List.setIfInBounds_toArray, List.set_cons_zero, List.set_cons_succ]
            refine wpAnyH_take (i := 8) (oi := { dst := some 138, op := Op.load 29 (Operand.tmp 137), type := 29, pos := _, after := _, guard := _ }) (v := undef) rfl (by kernel_rfl) (by kernel_rfl) (by kernel_rfl) (fun _ _ _ h => h) (Or.inr ⟨by rfl, rfl⟩) (by assumption) ?_
            try simp only [Act.put, List.setIfInBounds_toArray, List.set_cons_zero, List.set_cons_succ]
            refine wpAnyH_take (i := 9) (oi := { dst := some 139, op := Op.call { callee := Callee.value (Operand.func 10), args := #[Operand.tmp 133, Operand.tmp 138], argTypes := #[29, 29] }, type := 4, pos := _, after := _, guard := _ }) (v := undef) rfl (by kernel_rfl) (by kernel_rfl) (by kernel_rfl) (fun _ _ _ h => h) (Or.inr ⟨by rfl, rfl⟩) (by assumption) ?_
            try simp only [Act.put, List.setIfInBounds_toArray, List.set_cons_zero, List.set_cons_succ]
            refine wpAnyH_take (i := 10) (oi := { dst := some 140, op := Op.unOp UnOp.not 4 (Operand.tmp 139), type := 4, pos := _, after := _, guard := _ }) (v := undef) rfl (by kernel_rfl) (by kernel_rfl) (by kernel_rfl) (fun _ _ _ h => h) (Or.inr ⟨by rfl, rfl⟩) (by assumption) ?_
            try simp only [Act.put, List.setIfInBounds_toArray, List.set_cons_zero, List.set_cons_succ]
            refine wpAnyH_take (i := 11) (oi := { dst := some 141, op := Op.pick (Operand.tmp 131) (Operand.tmp 140) (Operand.const (Value.bool false)), type := 4, pos := _, after := _, guard := _ }) (v := ?vz11) rfl (by kernel_rfl) (by kernel_rfl) (by kernel_rfl) (fun _ _ _ h => h) (Or.inl ⟨by rfl, ?yz11⟩) (by assumption) ?rz11
            case yz11 => (intro w hSw; (try dsimp only at hSw); go_simp; try with_reducible rfl)
            try simp only [Act.put, List.setIfInBounds_toArray, List.set_cons_zero, List.set_cons_succ]
            refine wpAnyH_take (i := 12) (oi := { dst := some 142, op := Op.move (Operand.tmp 141), type := 4, pos := _, after := _, guard := _ }) (v := ?vz12) rfl (by kernel_rfl) (by kernel_rfl) (by kernel_rfl) (fun _ _ _ h => h) (Or.inl ⟨by rfl, ?yz12⟩) (by assumption) ?rz12
            case yz12 => (intro w hSw; (try dsimp only at hSw); go_simp; try with_reducible rfl)
            try simp only [Act.put, List.setIfInBounds_toArray, List.set_cons_zero, List.set_cons_succ]
            refine wpAnyH_take (i := 13) (oi := { dst := some 143, op := Op.move (Operand.tmp 18), type := 4, pos := _, after := _, guard := _ }) (v := ?vz13) rfl (by kernel_rfl) (by kernel_rfl) (by kernel_rfl) (fun _ _ _ h => h) (Or.inl ⟨by rfl, ?yz13⟩) (by assumption) ?rz13
            case yz13 => (intro w hSw; (try dsimp only at hSw); go_simp; try with_reducible rfl)
            try simp only [Act.put, List.setIfInBounds_toArray, List.set_cons_zero, List.set_cons_succ]
            refine wpAnyH_take (i := 14) (oi := { dst := some 144, op := Op.unOp UnOp.not 4 (Operand.tmp 143), type := 4, pos := _, after := _, guard := _ }) (v := ?vz14) rfl (by kernel_rfl) (by kernel_rfl) (by kernel_rfl) (fun _ _ _ h => h) (Or.inl ⟨by rfl, ?yz14⟩) (by assumption) ?rz14
            case yz14 => (intro w hSw; (try dsimp only at hSw); go_simp; try with_reducible rfl)
            try simp only [Act.put, List.setIfInBounds_toArray, List.set_cons_zero, List.set_cons_succ]
            refine wpAnyH_take (i := 15) (oi := { dst := some 145, op := Op.move (Operand.tmp 144), type := 4, pos := _, after := _, guard := _ }) (v := ?vz15) rfl (by kernel_rfl) (by kernel_rfl) (by kernel_rfl) (fun _ _ _ h => h) (Or.inl ⟨by rfl, ?yz15⟩) (by assumption) ?rz15
            case yz15 => (intro w hSw; (try dsimp only at hSw); go_simp; try with_reducible rfl)
            try simp only [Act.put, List.setIfInBounds_toArray, List.set_cons_zero, List.set_cons_succ]
            refine wpAnyH_take (i := 16) (oi := { dst := some 146, op := Op.load 33 (Operand.tmp 17), type := 33, pos := _, after := _, guard := _ }) (v := ?vz16) rfl (by kernel_rfl) (by kernel_rfl) (by kernel_rfl) (fun _ _ _ h => h) (Or.inl ⟨by rfl, ?yz16⟩) (by assumption) ?rz16
            case yz16 => (intro w hSw; (try dsimp only at hSw); go_simp; try with_reducible rfl)
            try simp only [Act.put, List.setIfInBounds_toArray, List.set_cons_zero, List.set_cons_succ]
            refine wpAnyH_take (i := 17) (oi := { dst := some 147, op := Op.build 33 #[], type := 33, pos := _, after := _, guard := _ }) (v := ?vz17) rfl (by kernel_rfl) (by kernel_rfl) (by kernel_rfl) (fun _ _ _ h => h) (Or.inl ⟨by rfl, ?yz17⟩) (by assumption) ?rz17
            case yz17 => (intro w hSw; (try dsimp only at hSw); go_simp; try with_reducible rfl)
            try simp only [Act.put, List.setIfInBounds_toArray, List.set_cons_zero, List.set_cons_succ]
            refine wpAnyH_ready (rs := [18]) (by kernel_rfl) (by simp) ?_
            refine AllReadyH.cons (o := { dst := some 148, op := Op.call { callee := Callee.value (Operand.func 8), args := #[Operand.tmp 146, Operand.tmp 147], argTypes := #[33, 33] }, type := 4, pos := _, after := _, guard := _ }) rfl (fun KK hKK => ?_) AllReadyH.nil
            go_simp
            (go_at_call 8; refine HQ.out.mono ?_; rintro e w9 ⟨r, rfl, hr, hb9⟩; obtain rfl : r = true := hr.2 (by first | trivial | rfl); have b0n := (hb9.cell (p := ⟨bx, 0, none⟩) hbx8).trans b0; have b1n := (hb9.cell (p := ⟨bx, 1, none⟩) hbx8).trans b1; have b2n := (hb9.cell (p := ⟨bx, 2, none⟩) hbx8).trans b2; have b3n := (hb9.cell (p := ⟨bx, 3, none⟩) hbx8).trans b3; have b4n := (hb9.cell (p := ⟨bx, 4, none⟩) hbx8).trans b4; have b5n := (hb9.cell (p := ⟨bx, 5, none⟩) hbx8).trans b5; have b6n := (hb9.cell (p := ⟨bx, 6, none⟩) hbx8).trans b6; have y1n := (hb9.cell (p := ⟨w.heap.size + 1, 1, none⟩) htb8).trans y1; have q0n := (hb9.cell (p := ⟨g, o + j, none⟩) hg8).trans q0; have HB9 := hide hb9; clear hr hb9)
            try go_wp2_with fail
            refine hKK.out _ _ (by (try dsimp only); go_keep) (fun hHeld => ?_)
            clear hKK KK
            try simp only [Act.put, List.setIfInBounds_toArray, List.set_cons_zero, List.set_cons_succ]
            refine wpAnyH_take (i := 19) (oi := { dst := some 149, op := Op.unOp UnOp.not 4 (Operand.tmp 148), type := 4, pos := _, after := _, guard := _ }) (v := ?vz19) rfl (by kernel_rfl) (by kernel_rfl) (by kernel_rfl) (fun _ _ _ h => h) (Or.inl ⟨by rfl, ?yz19⟩) (by assumption) ?rz19
            case yz19 => (intro w hSw; (try dsimp only at hSw); go_simp; try with_reducible rfl)
            try simp only [Act.put, List.setIfInBounds_toArray, List.set_cons_zero, List.set_cons_succ]
            refine wpAnyH_take (i := 20) (oi := { dst := some 150, op := Op.pick (Operand.tmp 145) (Operand.tmp 149) (Operand.const (Value.bool false)), type := 4, pos := _, after := _, guard := _ }) (v := ?vz20) rfl (by kernel_rfl) (by kernel_rfl) (by kernel_rfl) (fun _ _ _ h => h) (Or.inl ⟨by rfl, ?yz20⟩) (by assumption) ?rz20
            case yz20 => (intro w hSw; (try dsimp only at hSw); go_simp; try with_reducible rfl)
            try simp only [Act.put, List.setIfInBounds_toArray, List.set_cons_zero, List.set_cons_succ]
            refine wpAnyH_take (i := 21) (oi := { dst := some 151, op := Op.pick (Operand.tmp 142) (Operand.const (Value.bool true)) (Operand.tmp 150), type := 4, pos := _, after := _, guard := _ }) (v := ?vz21) rfl (by kernel_rfl) (by kernel_rfl) (by kernel_rfl) (fun _ _ _ h => h) (Or.inl ⟨by rfl, ?yz21⟩) (by assumption) ?rz21
            case yz21 => (intro w hSw; (try dsimp only at hSw); go_simp; try with_reducible rfl)
            try simp only [Act.put, List.setIfInBounds_toArray, List.set_cons_zero, List.set_cons_succ]
            refine wpAnyH_done (by kernel_rfl) ?_ _
            go_wp2
            have hB9 := HB8.out.trans ((Below.trans ((Below.refl _ _).drew) HB9.out).mono HB8.out.size)
            exact ⟨⟨j + 1, by omega, by go_num, hide hB9⟩, by simp [intOf]; omega⟩
        · obtain rfl : j = m := by omega
          have HBg := hide (begun_any _ (HT.out.below HBq.out HT.out.pos))
          go_wp2_with fail
          refine HBg.out.mono ?_
          rintro e w5 ⟨rfl, hb5⟩
          have HB5 := hide (HBq.out.trans (hb5.mono HBq.out.size))
          clear hb5 HBg
          go_wp2
          go_ret
          exact ⟨rfl, HB2.out.trans (HB5.out.mono HB2.out.size)⟩
end Go.Proofs.YtdpiefafelegbaaDoor
