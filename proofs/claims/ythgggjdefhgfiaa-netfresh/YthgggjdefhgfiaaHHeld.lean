import Derived.Test.YthgggjdefhgfiaaHR20
import Derived.Test.YthgggjdefhgfiaaHR21
import Derived.Test.YthgggjdefhgfiaaHR22
import Derived.Test.YthgggjdefhgfiaaHR23
import Derived.Deep.DeepCutAuto
namespace Go.Proofs.Ythgggjdefhgfiaa
open Go.RowKit Go.Maps

theorem Hd.start {w w7 : World} {K : Knd} {sb bb : Nat} {x : Nat → Option Sl} {bm : Bm} (h : Sg w K sb bb 0 x bm) (hw : w7 = (w.alloc (.cells #[.slice none 0 0, .slice none 0 0] 66)).alloc (.cells #[.slice none 0 0, .slice none 0 0] 69)) :
    ∃ K', Hd w7 K' sb bb w.heap.size (w.heap.size + 1) 0 x bm (.slice none 0 0) (.slice none 0 0) [] (.slice none 0 0) [] ∧ Kp (fun _ => False) K K' w w7 := by
  obtain ⟨w6, hw6⟩ : ∃ w6, w.alloc (.cells #[.slice none 0 0, .slice none 0 0] 66) = w6 := ⟨_, rfl⟩
  have s6 : w6.heap.size = w.heap.size + 1 := by rw [← hw6]; simp
  rw [hw6] at hw
  have k6 : Kp (fun _ => False) K (ext K w.heap.size (6, 0)) w w6 := by rw [← hw6]; exact kp_below ((Below.refl _ _).alloc (Nat.le_refl _) _) _ _ _
  have k7 : Kp (fun _ => False) (ext K w.heap.size (6, 0)) (ext (ext K w.heap.size (6, 0)) w6.heap.size (8, 0)) w6 w7 := by rw [hw]; exact kp_below ((Below.refl _ _).alloc (Nat.le_refl _) _) _ _ _
  have hl6 : w6.heap[w.heap.size]? = some (.cells #[.slice none 0 0, .slice none 0 0] 66 (0, 0)) := by rw [← hw6]; exact heap_alloc_new _ _
  have hp7 : w7.heap[w.heap.size + 1]? = some (.cells #[.slice none 0 0, .slice none 0 0] 69 (0, 0)) := by rw [hw, ← s6]; exact heap_alloc_new _ _
  have hn : ∀ g, (Value.slice none 0 0).ownBlock = some g → False := fun g e => by simp [Value.ownBlock] at e
  refine ⟨_, ⟨h.kept (k6.trans k7) (fun _ _ h => h), ⟨(k7.block _ (lt_of_block hl6) (fun h => h)).trans hl6, ⟨rfl, Or.inl ⟨rfl, rfl⟩⟩, ⟨rfl, Or.inl ⟨rfl, rfl⟩⟩, fun g e => (hn g e).elim, by simp, by simp, by simp, by simp, ?_, fun g e => (hn g e).elim, fun g e => (hn g e).elim, by simp⟩, Or.inl ⟨hp7, ?_⟩, ⟨rk_nil _ _ _ _ _, by simp⟩⟩, k6.trans k7⟩
  · rw [k7.same _ (lt_of_block hl6)]; exact ext_new _ _ (Nat.le_refl _)
  · exact ext_new _ _ (by omega)

set_option maxRecDepth 100000 in
set_option maxHeartbeats 40000000 in
theorem held_any (w : World) (r0 r1 : Int) (sp : Option Addr) (m c : Nat) (ops : List NOp) (hm : ops.length = m) (_hml : m ≤ 140737488355328) (h : Nopi w sp ops) :
    Calls Try.prog 5 #[.agg #[.int .i64 r0, .int .i64 r1, .slice sp m c]] w fun e w' => e = .returned (.bool true) ∧ Below w.heap.size w w' := by
  have HM := hide hm
  have HV := hide h
  obtain ⟨w3, hw3⟩ : ∃ w3, w3 = ((w.alloc (.cells #[.int .i64 r0, .int .i64 r1, .slice sp m c] 25)).alloc (.cells bk0 50)).alloc (.cells #[.pointer none, .pointer none, .pointer none, .pointer none, .pointer (some ⟨w.heap.size + 1, 0, none⟩), .bool false] 56) := ⟨_, rfl⟩
  have s3 : w3.heap.size = w.heap.size + 1 + 1 + 1 := by rw [hw3]; simp
  have hb3 : Below w.heap.size w w3 := by rw [hw3]; exact (((Below.refl _ _).alloc (Nat.le_refl _) _).alloc (by simp) _).alloc (by simp; omega) _
  have hx3 : w3.heap[w.heap.size]? = some (.cells #[.int .i64 r0, .int .i64 r1, .slice sp m c] 25 (0, 0)) := by
    rw [hw3]
    exact (Below.heap_alloc _ _ _ (by simp; omega)).trans ((Below.heap_alloc _ _ _ (by simp)).trans (heap_alloc_new _ _))
  have hbk : w3.heap[w.heap.size + 1]? = some (.cells bk0 50 (0, 0)) := by
    have e := heap_alloc_new (w.alloc (.cells #[.int .i64 r0, .int .i64 r1, .slice sp m c] 25)) (.cells bk0 50)
    rw [World.size_alloc] at e
    rw [hw3]
    exact (Below.heap_alloc _ _ _ (by simp)).trans e
  have hsg : w3.heap[w.heap.size + 1 + 1]? = some (.cells (sgCells (fun _ => none) (w.heap.size + 1) false) 56 (0, 0)) := by
    have e := heap_alloc_new ((w.alloc (.cells #[.int .i64 r0, .int .i64 r1, .slice sp m c] 25)).alloc (.cells bk0 50)) (.cells #[.pointer none, .pointer none, .pointer none, .pointer none, .pointer (some ⟨w.heap.size + 1, 0, none⟩), .bool false] 56)
    rw [World.size_alloc, World.size_alloc] at e
    rw [hw3]
    exact e
  obtain ⟨K3, hK3⟩ : ∃ K3, K3 = ext (ext K00 (w.heap.size + 1) (5, 1)) (w.heap.size + 1 + 1) (5, 0) := ⟨_, rfl⟩
  have hK0 : ∀ b, b < w.heap.size + 1 → K3 b = (0, 0) := fun b hb => by rw [hK3, ext_old _ _ (by omega), ext_old _ _ hb]; rfl
  have hS3 : Sg w3 K3 (w.heap.size + 1 + 1) (w.heap.size + 1) 0 (fun _ => none) (Bm.new false) := ⟨hsg, by rw [hK3, ext_new _ _ (Nat.le_refl _)], Q.bt_empty hbk (by rw [hK3, ext_old _ _ (by omega), ext_new _ _ (Nat.le_refl _)]), Q.jn_empty, fun k s _ e => by cases e⟩
  have HB3 := hide hb3
  have HX3 := hide hx3
  have HK0 := hide hK0
  have HSz := hide s3
  have HF0 := hide (fresh_any w3 K3 (w.heap.size + 1 + 1) (w.heap.size + 1) 0 _ (Bm.new false) hS3 0 (by omega) r0)
  rw [show ((0 : Nat) : Int) = 0 from rfl] at HF0
  clear hm h hsg hbk hx3 hb3 s3 hK0 hS3 hK3
  have HW3 := hide hw3
  clear hw3
  go_enter Try.func5, Try.ntmps5
  go_wp2_with fail
  refine book_build rfl ?_
  go_wp2_with fail
  rw [← HW3.out]
  refine HF0.out.mono ?_
  rintro e w4 ⟨rfl, K4, x4, hs4, hk4⟩
  have HF1 := hide (fresh_any w4 K4 (w.heap.size + 1 + 1) (w.heap.size + 1) 0 x4 (Bm.new false) hs4 1 (by omega) r1)
  rw [show ((1 : Nat) : Int) = 1 from rfl] at HF1
  have hl3 : w.heap.size < w3.heap.size := by have := HSz.out; omega
  have hx4 : w4.heap[w.heap.size]? = _ := (hk4.block _ hl3 (by rw [HK0.out _ (by omega)]; simp)).trans HX3.out
  obtain ⟨y0, y1, y2, yf⟩ := blk3 hx4
  have HKp4 := hide hk4
  have hl4 := lt_of_block hx4
  clear hs4 hk4 hx4
  go_wp2_with fail
  refine HF1.out.mono ?_
  rintro e w5 ⟨rfl, K5, x5, hs5, hk5⟩
  have HKp5 : Hid (Kp (fun q => 1 ≤ q.1) K3 K5 w3 w5) := ((HKp4.out.trans hk5).mono (fun q e => by subst e; show 1 ≤ 5; omega))
  obtain ⟨w7, hw7⟩ : ∃ w7, w7 = (w5.alloc (.cells #[.slice none 0 0, .slice none 0 0] 66)).alloc (.cells #[.slice none 0 0, .slice none 0 0] 69) := ⟨_, rfl⟩
  obtain ⟨K7, hd7, hk7⟩ := Hd.start hs5 hw7
  have HD7 := hide hd7
  have HKp7 := hide (HKp5.out.trans (hk7.mono (fun _ h => h.elim)))
  have HW7 := hide hw7
  clear hs5 hk5 y0 y1 y2 yf HF0 HF1 hw7 hd7 hk7 HKp5
  have hl3 : w.heap.size < w3.heap.size := by have := HSz.out; omega
  have HWr : Hid (∀ (wr : World) (K : Knd), Kp (fun q => 1 ≤ q.1) K3 K w3 wr → Below w.heap.size w wr ∧ wr.heap[w.heap.size]? = some (.cells #[.int .i64 r0, .int .i64 r1, .slice sp m c] 25 (0, 0)) ∧ ∀ b, b < w.heap.size → K b = (0, 0)) := fun wr K hk => by
    refine ⟨hk.below HB3.out (fun b hb => by rw [HK0.out b (by omega)]; simp), (hk.block _ hl3 (by rw [HK0.out _ (by omega)]; simp)).trans HX3.out, fun b hb => (hk.same b (by omega)).trans (HK0.out b (by omega))⟩
  go_upto_block 0 with (fail)
  rw [← HW7.out]
  generalize w5.heap.size = lb at *
  generalize w.heap.size + 1 + 1 = sb at *
  generalize w.heap.size + 1 = bb at *
  go_cut [6] (fun V wy => ∃ (K : Knd) (x : Nat → Option Sl) (bm : Bm) (G W : Value) (xs : List Q.Gt) (ns : List Nat), Hid (Hd wy K sb bb lb (lb + 1) 3600000 x bm G W xs V ns) ∧ Hid (bm.n ≤ 400 ∧ xs.length ≤ 1600 ∧ ns.length < 256) ∧ Hid (Kp (fun q => 1 ≤ q.1) K3 K w3 wy))
  case first =>
    rename_i aO J0 K0 hJ0 hK0
    clear aO HW3 HW7 HSz HX3 HB3 HKp4
    go_wp2_with fail
    go_loopw [6, 7] (fun V i wr => ∃ (j : Nat) (K : Knd) (x : Nat → Option Sl) (bm : Bm) (G W : Value) (xs : List Q.Gt) (ns : List Nat), j ≤ m ∧ j ≤ 400 ∧ i = .int .i64 j ∧ V.ownBlock = V.ownBlock ∧ Hid (Hd wr K sb bb lb (lb + 1) (9000 * j) x bm G W xs V ns) ∧ Hid (bm.n ≤ j ∧ xs.length ≤ 4 * j ∧ 8 * ns.length ≤ j + 2) ∧ Hid (Kp (fun q => 1 ≤ q.1) K3 K w3 wr)) (fun _ i _ => 400 - (intOf i).toNat)
    case atStart => exact ⟨0, K7, x5, Bm.new false, _, _, [], [], Nat.zero_le _, by omega, rfl, rfl, HD7, ⟨Nat.le_refl _, Nat.le_refl _, by simp⟩, HKp7⟩
    case round =>
      obtain ⟨j, K, x, bm, G, W, xs, ns, hj, hj4, rfl, _, HD, HNm, HKp⟩ := hrel
      obtain ⟨hbw, hxw, hKw⟩ := HWr.out wr K HKp.out
      obtain ⟨y0, y1, y2, yf⟩ := blk3 hxw
      have hlw := lt_of_block hxw
      have HBw := hide hbw
      have HKw := hide hKw
      have hnm := HNm.out
      clear hxw hbw hKw
      by_cases hlt : j < m ∧ j < 400
      · obtain ⟨hlt, hlt2⟩ := hlt
        have hlt' : (j : Int) < (m : Int) := by omega
        have hlt2' : (j : Int) < 400 := by omega
        obtain ⟨q, hq⟩ : ∃ q, ops[j]? = some q := ⟨_, List.getElem?_eq_getElem (by have := HM.out; omega)⟩
        obtain ⟨g, o, rfl, hg, hcs⟩ : ∃ g o, sp = some ⟨g, o, none⟩ ∧ g < w.heap.size ∧ ∀ (j : Nat) (q : NOp), ops[j]? = some q → ∀ i v, (nopc q)[i]? = some v → w.cell? ⟨g, o + j * 5 + i, none⟩ = some v := by
          rcases HV.out.lie with e | e
          · rw [e] at hq; simp at hq
          · exact e
        have f : ∀ i v, (nopc q)[i]? = some v → wr.cell? ⟨g, o + j * 5 + i, none⟩ = some v := fun i v hv => (HBw.out.cell (p := ⟨g, o + j * 5 + i, none⟩) hg).trans (hcs j q hq i v hv)
        have a0 := f 0 _ rfl
        have a1 := f 1 _ rfl
        have a2 := f 2 _ rfl
        have a3 := f 3 _ rfl
        have a4 := f 4 _ rfl
        rw [Nat.add_zero] at a0
        have HQo := hide (HV.out.ok q (List.mem_of_getElem? hq))
        have i0 : (0 : Int) ≤ (j : Int) := by omega
        obtain ⟨qd, wh, at_, ad, bp, bl, bc, ys⟩ := q
        simp only at a0 a1 a2 a3 a4 HQo
        -- the step as a variable of its own
        obtain ⟨w1, hw1⟩ : ∃ w1, wr.alloc (.cells #[.int .i64 qd, .int .i64 wh, .int .i64 at_, .int .i64 ad, .slice bp bl bc] 61) = w1 := ⟨_, rfl⟩
        have hb1 : Below wr.heap.size wr w1 := by rw [← hw1]; exact (Below.refl _ _).alloc (Nat.le_refl _) _
        have hx1 : w1.heap[wr.heap.size]? = some (.cells #[.int .i64 qd, .int .i64 wh, .int .i64 at_, .int .i64 ad, .slice bp bl bc] 61 (0, 0)) := by rw [← hw1]; exact heap_alloc_new _ _
        have HB1 := hide hb1
        have HX1 := hide hx1
        have HD1 := hide (HD.out.below hb1 (0, 0))
        have HK1 := hide (HKp.out.trans (kp_below hb1 (fun q => 1 ≤ q.1) K (0, 0)))
        obtain ⟨k, hkk⟩ : ∃ k, (wh % 2).toNat = k := ⟨_, rfl⟩
        have hk : k < 2 := by omega
        have HIn := hide (into_any w1 wh 2 (by omega) (by omega))
        rw [show ((2 : Nat) : Int) = 2 from rfl, hkk] at HIn
        have k0 : (0 : Int) ≤ (k : Int) := by omega
        have k1 : (k : Int) < 2 := by omega
        obtain ⟨c0, c1, c2, c3, cf⟩ := HD1.out.sg.cells hk
        obtain ⟨b0, b1, b2, b3, b4⟩ := blk5 hx1
        have hlb := lt_of_block hx1
        have hsl := lt_of_block HD1.out.sg.blk
        have HKo : Hid (ext K wr.heap.size (0, 0) wr.heap.size = (0, 0)) := ext_new _ _ (Nat.le_refl _)
        have HW1 := hide hw1
        clear f hcs hq hb1 hx1 hw1 hkk
        go_wp2_with fail
        rw [HW1.out]
        refine HIn.out.mono ?_
        rintro e w9 ⟨rfl, h9⟩
        have h9 := h9.symm
        subst h9
        go_upto_region 12 with (fail)
        obtain ⟨B, hB⟩ : ∃ B : Bool, B = (!(decide (qd = 1)) || (x k).isNone) := ⟨_, rfl⟩
        have HBo := hide hB
        clear hB
        go_cut [76] (fun b wx => b = .bool B ∧ wx = w1)
        case first =>
          rename_i aP KP1 aQ J1 K1 hJ1 hK1
          clear aP aQ
          by_cases hq1 : qd = 1
          · subst hq1
            cases hs0 : x k with
            | none =>
              rw [hs0] at c0 c1
              unfold ptrN at c0
              unfold ptrF at c1
              simp only [Option.map_none] at c0 c1
              go_wp2
              go_meet
              exact ⟨by rw [HBo.out, hs0]; rfl, rfl⟩
            | some s0 =>
              rw [hs0] at c0 c1
              unfold ptrN at c0
              unfold ptrF at c1
              simp only [Option.map_some] at c0 c1
              go_wp2
              go_meet
              exact ⟨by rw [HBo.out, hs0]; rfl, rfl⟩
          · have hq1b : (qd == 1) = false := by simpa using hq1
            go_wp2
            go_meet
            exact ⟨by rw [HBo.out]; simp [hq1], rfl⟩
        case rest =>
          obtain ⟨rfl, rfl⟩ := hcut
          go_upto_if 76 with (fail)
          go_cut [] (fun wx => ∃ (K2 : Knd) (x2 : Nat → Option Sl) (bm2 : Bm), Hid (Hd wx K2 sb bb lb (lb + 1) (9000 * j + 9000) x2 bm2 G W xs u6 ns) ∧ Hid (bm2.n ≤ j + 1) ∧ Hid (Kp (fun q => 1 ≤ q.1) K3 K2 w3 wx) ∧ Hid (wx.heap[wr.heap.size]? = some (.cells #[.int .i64 qd, .int .i64 wh, .int .i64 at_, .int .i64 ad, .slice bp bl bc] 61 (0, 0))) ∧ Hid (K2 wr.heap.size = (0, 0)))
          case first =>
            rename_i aQ J2 K2 hJ2 hK2
            clear aQ
            have HQr : Hid (NOk wc ⟨qd, wh, at_, ad, bp, bl, bc, ys⟩) := ⟨(HQo.out.by_.below HBw.out).below HB1.out, HQo.out.len, HQo.out.le, HQo.out.max, HQo.out.near.imp id (fun h g p e => Nat.lt_of_lt_of_le (Nat.lt_of_lt_of_le (h g p e) HBw.out.size) HB1.out.size)⟩
            have HQk : Hid (ys = [] ∨ ∀ b p, bp = some ⟨b, p, none⟩ → b < wc.heap.size ∧ ext K wr.heap.size (0, 0) b = (0, 0)) := HQo.out.near.imp id (fun h b p e => ⟨Nat.lt_of_lt_of_le (Nat.lt_of_lt_of_le (h b p e) HBw.out.size) HB1.out.size, by
              have h1 : b < w.heap.size := h b p e
              have h2 := HBw.out.size
              rw [ext_old _ _ (by omega)]; exact HKw.out b h1⟩)
            cases B with
            | true =>
              have HPl : Hid (Calls Try.prog 7 #[.pointer (some ⟨sb, 0, none⟩), .agg #[.int .i64 qd, .int .i64 wh, .int .i64 at_, .int .i64 ad, .slice bp bl bc]] wc (PlPost (ext K wr.heap.size (0, 0)) sb bb (9000 * j) bm wc)) :=
                plays_any wc _ _ _ _ x bm HD1.out.sg (by omega) (by omega) ⟨qd, wh, at_, ad, bp, bl, bc, ys⟩ HQr.out HQk.out
              go_wp2_with fail
              refine HPl.out.mono ?_
              rintro e w2 ⟨rfl, K2, x2, m2, hs2, hm2, hk2⟩
              have HF : Hid (∃ (K2 : Knd) (x2 : Nat → Option Sl) (bm2 : Bm), Hid (Hd w2 K2 sb bb lb (lb + 1) (9000 * j + 9000) x2 bm2 G W xs u6 ns) ∧ Hid (bm2.n ≤ j + 1) ∧ Hid (Kp (fun q => 1 ≤ q.1) K3 K2 w3 w2) ∧ Hid (w2.heap[wr.heap.size]? = some (.cells #[.int .i64 qd, .int .i64 wh, .int .i64 at_, .int .i64 ad, .slice bp bl bc] 61 (0, 0))) ∧ Hid (K2 wr.heap.size = (0, 0))) :=
                ⟨K2, x2, m2, HD1.out.played hs2 hk2, (by have h1 := hm2.2; show _ ≤ _; omega), HK1.out.trans (hk2.mono ppl_one), (hk2.block _ hlb (by rw [HKo.out]; rintro (e | e) <;> simp at e)).trans HX1.out, (hk2.same _ hlb).trans HKo.out⟩
              clear hs2 hm2 hk2
              go_wp2
              go_meet
              exact HF.out
            | false =>
              as_aux_lemma =>
                have hqd : qd = 1 ∧ ∃ s0, x k = some s0 := by
                  have h := HBo.out
                  cases hx0 : x k with
                  | none => rw [hx0] at h; simp at h
                  | some s0 => rw [hx0] at h; simp at h; exact ⟨h, s0, rfl⟩
                obtain ⟨rfl, s0, hs0⟩ := hqd
                obtain ⟨nb, fb, N⟩ := s0
                have HS0 := hide hs0
                rw [hs0] at c0 c1
                unfold ptrN at c0
                unfold ptrF at c1
                simp only [Option.map_some] at c0 c1
                clear hs0
                obtain ⟨xz, hxz⟩ : ∃ xz, ys.take 4096 = xz := ⟨_, rfl⟩
                obtain ⟨n, hn⟩ : ∃ n, min bl 4096 = n := ⟨_, rfl⟩
                have hql := HQo.out.len
                simp only at hql
                have hxl : xz.length = n := by rw [← hxz, List.length_take]; omega
                have hn4 : n ≤ 4096 := by omega
                have kd : Kp (fun _ => False) (ext K wr.heap.size (0, 0)) (ext K wr.heap.size (0, 0)) wc wc.drew := (Kp.refl _ _ _).drew
                have HDd := hide (HD1.out.free kd)
                have hyx : Bytes wc.drew bp xz := by rw [← hxz]; exact bytes_take (bytes_or (w' := wc.drew) HQr.out.by_ (Nat.le_refl _) (Or.inr (fun _ _ _ _ => rfl))) _
                have HYx := hide hyx
                have HXk : Hid (xz = [] ∨ ∀ g q, bp = some ⟨g, q, none⟩ → g < wc.drew.heap.size ∧ ext K wr.heap.size (0, 0) g = (0, 0)) := HQk.out.imp (fun e => by rw [← hxz, e]; rfl) id
                have HCl := hide (fun (W : World) => clip_any W bp bl bc HQo.out.le HQo.out.max)
                simp only [hn] at HCl
                have HXl := hide hxl
                have HC0 : Hid (C4 wc.drew wr.heap.size sb k ad bp bl bc nb fb) := ⟨b3, b4, c0, c1⟩
                have HPb := hide (pbytes_any wc.drew _ (lb + 1) HDd.out.pl bp n bc xz hyx hxl hn4 HXk.out)
                have hlbd : wr.heap.size < wc.drew.heap.size := hlb
                have HKd := hide (HK1.out.trans (kd.mono (fun _ h => h.elim)))
                clear hyx hxl hxz hn kd hql
                go_upto_region 15 with (fail)
                go_region_held3 (fun w' => w'.cell? ⟨wr.heap.size, 3, none⟩ = some (.int .i64 ad) ∧ w'.cell? ⟨wr.heap.size, 4, none⟩ = some (.slice bp bl bc) ∧ w'.cell? ⟨sb, k, none⟩ = some (.pointer (some ⟨nb, 0, none⟩)) ∧ w'.cell? ⟨sb, 2 + k, none⟩ = some (.pointer (some ⟨fb, 0, none⟩))) (go_keep) (first | (go_at_call 15; refine HFs.out.mono ?_; rintro e wC ⟨KC, rfl, hnC, hkC⟩; have hbo := held_both HDA.out hk HS0.out HOA.out.1 HOA.out.2 HCA.out HYx.out.small HXl.out hn4 HKB.out HNB.out hkC hnC; have HBB := hide hbo; obtain ⟨vC1, vC2, vC3, vC4⟩ := hbo.1; clear hbo hnC hkC) | (go_at_call 12; refine HSd.out.mono ?_; rintro e wB ⟨KB, rfl, hnB, hkB⟩; have hse := held_sent HDA.out hk HS0.out (by omega) HOA.out.1 HOA.out.2 HCA.out HYA.out HXA.out HXl.out hn4 hkB; have HFs := hide hse.2; obtain ⟨vB1, vB2, vB3, vB4⟩ := hse.1; have HKB := hide hkB; have HNB := hide hnB; clear hse hnB hkB) | (go_at_call 13; refine HPb.out.mono ?_; rintro e wA ⟨KA, a, c', rfl, hbA, hpA, hkA, _⟩; have hla := held_laid (c' := c') HDd.out hk HS0.out (by omega) hlbd HKo.out HC0.out HYx.out HXk.out HXl.out hpA hkA hbA; have HCA := hide hla.1; have HDA := hide hla.2.1; have HYA := hide hla.2.2.1; have HXA := hide hla.2.2.2.1; have HOA := hide hla.2.2.2.2.1; have HSd := hide hla.2.2.2.2.2; have hxA : wA.heap[wr.heap.size]? = _ := (hkA.block _ hlbd (by rw [HKo.out]; exact fun e => absurd (show (0 : Nat) = 8 from e) (by decide))).trans HX1.out; have HXX := hide hxA; have HKA := hide (HKd.out.trans (hkA.mono (q := fun q => 1 ≤ q.1) (fun q e => by have h8 : q.1 = 8 := e; omega))); obtain ⟨vA1, vA2, vA3, vA4⟩ := hla.1; clear hla hbA hpA hkA hxA) | (go_at_call 14; refine (HCl.out _).mono ?_; rintro e w9 ⟨rfl, rfl⟩) | fail)
                go_wp2
                go_meet
                exact ⟨_, _, bm, HBB.out.2.1.more (by omega), (by show _ ≤ _; omega), HKA.out.trans (HBB.out.2.2.2.2.mono ppl_one), HBB.out.2.2.1.trans HXX.out, HBB.out.2.2.2.1⟩
          case rest =>
            obtain ⟨K2, x2, bm2, HD2, HBm2, HK2, HX2, HKo2⟩ := hcut
            clear HD1 HK1 HX1 HKo c0 c1 c2 c3 cf b0 b1 b2 b3 b4 hsl hlb y0 y1 y2 yf hlw a0 a1 a2 a3 a4 HIn HBo HQo HKp HD HBw HKw HB1 HW1
            have HL0 : Hid (xs.length ≤ 4 * j + 2 * 0) := by have := hnm.2.1; show _ ≤ _; omega
            have HN0 : Hid (8 * ns.length ≤ j + 2) := hnm.2.2
            generalize wr.heap.size = ob at *
            go_upto_block 2 with (fail)
            go_cut [] (fun wy => ∃ (K4 : Knd) (G4 W4 : Value) (xs4 : List Q.Gt), Hid (Hd wy K4 sb bb lb (lb + 1) (9000 * j + 9000) x2 bm2 G4 W4 xs4 u6 ns) ∧ Hid (xs4.length ≤ 4 * (j + 1)) ∧ Hid (Kp (fun q => 1 ≤ q.1) K3 K4 w3 wy))
            case first =>
              rename_i aQ J3 K3' hJ3 hK3
              clear aQ
              go_wp2_with fail
              go_loopw [10] (fun nn wx => ∃ (i : Nat) (K4 : Knd) (G4 W4 : Value) (xs4 : List Q.Gt), i ≤ 2 ∧ nn = .int .i64 i ∧ Hid (Hd wx K4 sb bb lb (lb + 1) (9000 * j + 9000) x2 bm2 G4 W4 xs4 u6 ns) ∧ Hid (xs4.length ≤ 4 * j + 2 * i) ∧ Hid (Kp (fun q => 1 ≤ q.1) K3 K4 w3 wx) ∧ Hid (wx.heap[ob]? = some (.cells #[.int .i64 qd, .int .i64 wh, .int .i64 at_, .int .i64 ad, .slice bp bl bc] 61 (0, 0))) ∧ Hid (K4 ob = (0, 0))) (fun nn _ => 2 - (intOf nn).toNat)
              case atStart => exact ⟨0, K2, G, W, xs, by omega, rfl, HD2, HL0, HK2, HX2, HKo2⟩
              case round =>
                obtain ⟨i, K4, G4, W4, xs4, hi, rfl, HD4, HL4, HK4, HX4, HKo4⟩ := hrel
                clear HD2 HL0 HK2 HX2 HKo2
                have hl4 := HL4.out
                obtain ⟨c0, c1, c2, c3, cf⟩ := HD4.out.sg.cells hk
                obtain ⟨b0, b1, b2, b3, b4⟩ := blk5 HX4.out
                have hlb := lt_of_block HX4.out
                have hsl := lt_of_block HD4.out.sg.blk
                by_cases hi2 : i < 2
                · have hi2' : (i : Int) < 2 := by omega
                  cases hs2 : x2 k with
                  | none =>
                    rw [hs2] at c0 c1
                    unfold ptrN at c0
                    unfold ptrF at c1
                    simp only [Option.map_none] at c0 c1
                    go_wp2
                    go_meet
                    exact ⟨K4, G4, W4, xs4, HD4, (by show _ ≤ _; omega), HK4⟩
                  | some s0 =>
                    obtain ⟨nb, fb, N⟩ := s0
                    have HS0 := hide hs2
                    rw [hs2] at c0 c1
                    unfold ptrN at c0
                    unfold ptrF at c1
                    simp only [Option.map_some] at c0 c1
                    have HOk := hide (HD4.out.sg.ok k _ hk hs2)
                    obtain ⟨t1, hv1, xs1, l1, ht1⟩ := td_ex N at_ HOk.out.small
                    obtain ⟨t2, hv2, xs2, l2, ht2⟩ := td_ex N ((N.row.length : Int) - 1) HOk.out.small
                    have HT1 := hide ht1
                    have HT2 := hide ht2
                    have hrl : N.row.length ≤ 8192 := Nat.le_trans HOk.out.le HOk.out.room
                    have hl1 := ht1.le
                    have hl2 := ht2.le
                    clear hs2 ht1 ht2
                    as_aux_lemma =>
                      go_upto_region 20 with (fail)
                      refine reg20 hk HOk.out.net HOk.out.small HT1.out b2 c0 c1 ?_
                      intro _ _ _ _ _ _ _ _ _ _ _ _ _ _ f1 p1 ca1 wy1 HA1
                      clear c0 c1 c2 c3 cf b0 b1 b2 b3 b4 hlb hsl HOk
                      have HG1 := hide (HA1.out.2.2.2)
                      obtain ⟨c0, c1, c2, c3, cf⟩ := (HD4.out.sg.below HG1.out).cells hk
                      rw [HS0.out] at c0 c1
                      unfold ptrN at c0
                      unfold ptrF at c1
                      simp only [Option.map_some] at c0 c1
                      have hx4 : wy1.heap[ob]? = _ := (HG1.out.block _ (lt_of_block HX4.out)).trans HX4.out
                      obtain ⟨b0, b1, b2, b3, b4⟩ := blk5 hx4
                      have hlb := lt_of_block hx4
                      have hsl := lt_of_block (HD4.out.sg.below HG1.out).blk
                      clear hx4
                      have HOk := hide ((HD4.out.sg.below HG1.out).ok k _ hk HS0.out)
                      go_upto_region 21 with (fail)
                      refine reg21 hk HOk.out.net HOk.out.doc HOk.out.small hrl HT2.out b2 c0 c1 ?_
                      intro _ _ _ _ _ _ _ _ _ _ _ _ _ _ _ _ _ _ _ _ f2 p2 ca2 wy2 HA2
                      clear c0 c1 c2 c3 cf b0 b1 b2 b3 b4 hlb hsl HOk
                      have HG2 := hide (below_of HG1.out HA2.out.2.2.2)
                      obtain ⟨c0, c1, c2, c3, cf⟩ := (HD4.out.sg.below HG2.out).cells hk
                      rw [HS0.out] at c0 c1
                      unfold ptrN at c0
                      unfold ptrF at c1
                      simp only [Option.map_some] at c0 c1
                      have hx4 : wy2.heap[ob]? = _ := (HG2.out.block _ (lt_of_block HX4.out)).trans HX4.out
                      obtain ⟨b0, b1, b2, b3, b4⟩ := blk5 hx4
                      have hlb := lt_of_block hx4
                      have hsl := lt_of_block (HD4.out.sg.below HG2.out).blk
                      clear hx4
                      have HOk := hide ((HD4.out.sg.below HG2.out).ok k _ hk HS0.out)
                      go_upto_region 22 with (fail)
                      refine reg22 hk HOk.out.doc HOk.out.small HT1.out b2 c0 c1 ?_
                      intro _ _ _ _ _ _ _ _ _ _ _ _ f3 p3 ca3 wy3 HA3
                      clear c0 c1 c2 c3 cf b0 b1 b2 b3 b4 hlb hsl HOk
                      have HG3 := hide (below_of HG2.out HA3.out.2.2.2)
                      obtain ⟨c0, c1, c2, c3, cf⟩ := (HD4.out.sg.below HG3.out).cells hk
                      rw [HS0.out] at c0 c1
                      unfold ptrN at c0
                      unfold ptrF at c1
                      simp only [Option.map_some] at c0 c1
                      have hx4 : wy3.heap[ob]? = _ := (HG3.out.block _ (lt_of_block HX4.out)).trans HX4.out
                      obtain ⟨b0, b1, b2, b3, b4⟩ := blk5 hx4
                      have hlb := lt_of_block hx4
                      have hsl := lt_of_block (HD4.out.sg.below HG3.out).blk
                      clear hx4
                      have HOk := hide ((HD4.out.sg.below HG3.out).ok k _ hk HS0.out)
                      go_upto_region 23 with (fail)
                      refine reg23 hk HOk.out.doc HOk.out.small hrl HT2.out b2 c0 c1 ?_
                      intro _ _ _ _ _ _ _ _ _ _ _ _ _ _ _ _ _ _ f4 p4 ca4 wy4 HA4
                      clear c0 c1 c2 c3 cf b0 b1 b2 b3 b4 hlb hsl HOk
                      have HF4 : Hid (Fr4 wr wy1 wy2 wy3 wy4 f1 f2 f3 f4 t1 t2 p1 p2 p3 p4 l1 l2 ca1 ca2 ca3 ca4 xs1 xs2) := ⟨HA1.out, HA2.out, HA3.out, HA4.out⟩
                      have hq := HF4.out.below
                      obtain ⟨x0, x1⟩ := blk2 ((hq.1.block _ (lt_of_block HA1.out.1)).trans HA1.out.1)
                      obtain ⟨z0, z1⟩ := blk2 ((HA4.out.2.2.2.block _ (lt_of_block HA3.out.1)).trans HA3.out.1)
                      have lx := Nat.lt_of_lt_of_le (lt_of_block HA1.out.1) hq.1.size
                      have lz := Nat.lt_of_lt_of_le (lt_of_block HA3.out.1) HA4.out.2.2.2.size
                      have HF2 : Hid (wy4.heap[f2]? = some (.cells #[.int .i64 t2, .slice p2 l2 ca2] 75 (0, 0))) := (hq.2.1.block _ (lt_of_block HA2.out.1)).trans HA2.out.1
                      have HF4b : Hid (wy4.heap[f4]? = some (.cells #[.int .i64 t2, .slice p4 l2 ca4] 75 (0, 0))) := HA4.out.1
                      have HAd := hide (held_adds HD4.out HK4.out HX4.out HKo4.out (by omega) HF4.out hl1 hl2)
                      clear hq
                      go_wp2_with fail
                      refine HAd.out.mono ?_
                      rintro e w5 ⟨rfl, hf2, hf4, hc5⟩
                      have HC5 := hide hc5
                      obtain ⟨g0, g1⟩ := blk2 (hf2.trans HF2.out)
                      obtain ⟨j0, j1⟩ := blk2 (hf4.trans HF4b.out)
                      have lg := lt_of_block (hf2.trans HF2.out)
                      have lj := lt_of_block (hf4.trans HF4b.out)
                      clear hf2 hf4 hc5 x0 x1 z0 z1
                      go_wp2_with fail
                      refine HC5.out.mono ?_
                      rintro e w6 ⟨rfl, K6, G6, W6, xs6, hd6, hx6, hk6, hO6, hKo6, _⟩
                      have HR : Hid (Hd w6 K6 sb bb lb (lb + 1) (9000 * j + 9000) x2 bm2 G6 W6 xs6 u6 ns) := hd6
                      have HX6 : Hid (xs6.length ≤ 4 * j + 2 * (i + 1)) := by show _ ≤ _; omega
                      have HK6 := hide hk6
                      have HO6 := hide hO6
                      have HKo6 := hide hKo6
                      clear hd6 hx6 hk6 hO6 hKo6
                      go_wp2
                      go_roundw
                      case rel => exact ⟨i + 1, K6, G6, W6, xs6, by omega, by go_num, HR, HX6, HK6, HO6, HKo6⟩
                      case measure => simp [intOf]; omega
                · have hi2' : ¬ (i : Int) < 2 := by omega
                  go_wp2
                  go_meet
                  exact ⟨K4, G4, W4, xs4, HD4, (by show _ ≤ _; omega), HK4⟩
            case rest =>
              as_aux_lemma =>
                obtain ⟨K4, G4, W4, xs4, HD4, HL4, HK4⟩ := hcut
                have hn0 := HN0.out
                clear HD2 HK2 HX2 HKo2
                obtain ⟨wz, hwz⟩ : ∃ wz, wz = wc := ⟨_, rfl⟩
                subst hwz
                obtain ⟨va, vc, hv6, hv6c, hv6m⟩ := HD4.out.ot.row.form
                subst hv6
                by_cases h5 : j % 8 = 5
                · have h5' : ((j : Int) % 8 == 5) = true := by simp; omega
                  have h5'' : (j : Int) % 8 = 5 := by omega
                  have hnb : ns.length < 256 := by omega
                  have HNw := hide (New_any wz K4 (100 + ns.length) 1)
                  go_wp2_with fail
                  refine HNw.out.mono ?_
                  rintro e wA ⟨hbA, ⟨_, rfl, hnA⟩ | ⟨hf, _⟩⟩
                  rotate_left
                  · exact absurd hf (by decide)
                  have kA : Kp (P100 ns.length) K4 (ext K4 wz.heap.size (100 + ns.length, 1)) wz wA := kp_below hbA _ _ _
                  have HDA := hide (HD4.out.apart kA)
                  have HNA := hide hnA
                  have HKA := hide (HK4.out.trans (kA.mono (q := fun q => 1 ≤ q.1) (fun q e => by have h1 : q.1 = 100 + ns.length := e; omega)))
                  generalize hKA : ext K4 wz.heap.size (100 + ns.length, 1) = KA at *
                  clear hnA hbA kA hKA
                  go_wp2_with fail
                  refine (num_any _ 0).mono ?_
                  rintro e w9 ⟨rfl, h9⟩
                  have h9 := h9.symm
                  subst h9
                  have e1 : (ns.length : Int) % 256 = (ns.length : Int) := by omega
                  obtain ⟨wB, hwB⟩ : ∃ wB, wA.alloc (.cells #[.int .u8 (ns.length : Int), .int .u8 111] 5) = wB := ⟨_, rfl⟩
                  have hbB : Below wA.heap.size wA wB := by rw [← hwB]; exact (Below.refl _ _).alloc (Nat.le_refl _) _
                  have hyB : Bytes wB (some ⟨wA.heap.size, 0, none⟩) (oxs ns.length) := by rw [← hwB]; exact lit2 (x := ns.length) (y := 111) ⟨hnb, by decide⟩ (heap_alloc_new _ _)
                  have kB : Kp (fun _ => False) KA (ext KA wA.heap.size (0, 0)) wA wB := kp_below hbB _ _ _
                  have HDB := hide (HDA.out.free kB)
                  have HKB := hide (HKA.out.trans (kB.mono (fun _ h => h.elim)))
                  have HSB := hide (Send_any wB _ (100 + ns.length) wz.heap.size _ (HNA.out.kept kB (fun _ h => h)) (by decide) (by show (0 : Nat) < _; omega) (ns.length : Int) (some ⟨wA.heap.size, 0, none⟩) 2 2 (oxs ns.length) hyB rfl)
                  rw [show Nt.adds ⟨Int.toNat 1, [], 0⟩ = true from rfl] at HSB
                  have HWB := hide hwB
                  clear hbB hyB kB hwB
                  go_wp2_with fail
                  rw [HWB.out]
                  refine HSB.out.mono ?_
                  rintro e wC ⟨KC, rfl, hnC, hkC⟩
                  rw [other_sent] at hnC
                  have hkC' : Kp (P100 ns.length) (ext KA wA.heap.size (0, 0)) KC wB wC := hkC.mono (fun q e => by rcases e with e | e <;> (subst e; rfl))
                  have HDC := hide (HDB.out.apart hkC')
                  have HNC := hide hnC
                  have HKC := hide (HKB.out.trans (hkC'.mono (q := fun q => 1 ≤ q.1) (fun q e => by have h1 : q.1 = 100 + ns.length := e; omega)))
                  clear hnC hkC hkC'
                  obtain ⟨i3, hi3, hz30, hz31, hz32⟩ := info_parts Try.infoPn
                  go_upto_region 9 with (at_builtin; refine wpList_append_lies _ rfl (.tmp 222) (.tmp 224) 70 rfl 0 51 i3 (.pointer none) 1 8 Try.underlying70 hi3 hz30 hz31 hz32 rfl (by omega) (.slice va ns.length vc) ns.length _ rfl (HDC.out.ot.row.own.alloc _) ⟨wC.heap.size, 0, none⟩ 1 1 [.pointer (some ⟨wz.heap.size, 0, none⟩)] rfl rfl (World.news_of_block (heap_alloc_new wC (.cells #[.pointer (some ⟨wz.heap.size, 0, none⟩)] 51))) (by simp [Value.oneCell']) (by omega) (by unfold maxLen; omega) (by omega) (Nat.zero_le _) _ rfl ?_; intro gl cl wD hown3 hgrow3 hat3 hlt3; have HO3 := hide hown3; have HG3 := hide hgrow3; have HA3 := hide hat3; clear hown3 hgrow3 hat3 hlt3)
                  obtain ⟨KD, HDD, HKD⟩ := other_row HDC.out HNC.out HO3.out HG3.out HA3.out
                  repeat (first | go_values | go_skip | go_guarded | go_step | go_upon | go_in | go_back)
                  dsimp only [Exit.then]
                  go_big_round
                  refine ⟨?rel, ?measure⟩
                  case rel => exact ⟨j + 1, KD, x2, bm2, G4, W4, xs4, ns ++ [wz.heap.size], by omega, by omega, by go_num, rfl, hide (by rw [show 9000 * (j + 1) = 9000 * j + 9000 by omega]; exact HDD), ⟨HBm2.out, HL4.out, by simp; omega⟩, HKC.out.trans (HKD.mono (fun q e => by subst e; show 1 ≤ 9; omega))⟩
                  case measure => simp [intOf]; omega
                · have h5' : ((j : Int) % 8 == 5) = false := by simp; omega
                  have h5'' : ¬ (j : Int) % 8 = 5 := by omega
                  go_upto_region 9 with (fail)
                  repeat (first | go_values | go_skip | go_guarded | go_step | go_upon | go_in | go_back)
                  dsimp only [Exit.then]
                  go_big_round
                  refine ⟨?rel, ?measure⟩
                  case rel => exact ⟨j + 1, K4, x2, bm2, G4, W4, xs4, ns, by omega, by omega, by go_num, rfl, hide (by rw [show 9000 * (j + 1) = 9000 * j + 9000 by omega]; exact HD4.out), ⟨HBm2.out, HL4.out, by omega⟩, HK4⟩
                  case measure => simp [intOf]; omega
      · by_cases hjm : j < m
        · have e1 : (j : Int) < (m : Int) := by omega
          have e2 : ¬ (j : Int) < 400 := by omega
          go_wp2
          go_meet
          exact ⟨K, x, bm, G, W, xs, ns, HD.out.more (by omega), ⟨by omega, by omega, by omega⟩, HKp⟩
        · have e1 : ¬ (j : Int) < (m : Int) := by omega
          go_wp2
          go_meet
          exact ⟨K, x, bm, G, W, xs, ns, HD.out.more (by omega), ⟨by omega, by omega, by omega⟩, HKp⟩
  case rest =>
    as_aux_lemma =>
      obtain ⟨K, x, bm, G, W, xs, ns, HD, HNm, HKp⟩ := hcut
      have hnm := HNm.out
      obtain ⟨va, vc, hv6, hv6c, hv6m⟩ := HD.out.ot.row.form
      subst hv6
      have HR0 := hide HD.out.rest
      have hnl : ns.length < 256 := hnm.2.2
      clear HD7 HKp7 HKp4
      go_wp2
      go_loopw [21] (fun nn wx => ∃ (i : Nat) (K' : Knd), i ≤ ns.length ∧ nn = .int .i64 i ∧ Hid (Hr wx K' sb bb lb 3600000 x bm G W xs (.slice va ns.length vc) ns i) ∧ Hid (Kp (fun q => 1 ≤ q.1) K3 K' w3 wx)) (fun nn _ => ns.length - (intOf nn).toNat)
      case atStart => exact ⟨0, K, Nat.zero_le _, rfl, HR0, HKp⟩
      case round =>
        obtain ⟨i, K', hi, rfl, HR, HK⟩ := hrel
        clear HR0
        by_cases hlt : i < ns.length
        · have e1 : (i : Int) < (ns.length : Int) := by omega
          have e2 : (0 : Int) ≤ (i : Int) := by omega
          obtain ⟨b, hop⟩ : ∃ b, ns[i]? = some b := ⟨_, List.getElem?_eq_getElem hlt⟩
          obtain ⟨gl, _, hgl, cl⟩ := Q.row_cell (Q.ownsQ_of (z := true) HR.out.row.own) (k := i) (a := .pointer (some ⟨b, 0, none⟩)) (by simp [hop])
          cases hgl
          have hi2 : i < 256 := by omega
          have hglt : gl < wr.heap.size := cell_block cl
          have HT := hide (other_take (HR.out.net i b (Nat.le_refl _) hop) hi2)
          have e3 : (i : Int) % 256 = (i : Int) := by omega
          clear hop
          go_wp2_with fail
          refine HT.out.mono ?_
          rintro e w2 ⟨p, c', rfl, hy2, hk2⟩
          have HR2 := hide (HR.out.took hk2)
          have HK2 := hide (HK.out.trans (hk2.mono (q := fun q => 1 ≤ q.1) (fun q e => by have h1 : q.1 = 100 + i := e; omega)))
          obtain ⟨w4, hw4⟩ : ∃ w4, w2.alloc (.cells #[.int .i64 (i : Int), .slice p 2 c'] 75) = w4 := ⟨_, rfl⟩
          obtain ⟨w5, hw5⟩ : ∃ w5, w4.alloc (.cells #[.int .u8 (i : Int), .int .u8 111] 5) = w5 := ⟨_, rfl⟩
          have hb4 : Below w2.heap.size w2 w4 := by rw [← hw4]; exact (Below.refl _ _).alloc (Nat.le_refl _) _
          have hb5 : Below w4.heap.size w4 w5 := by rw [← hw5]; exact (Below.refl _ _).alloc (Nat.le_refl _) _
          have hf4 : w4.heap[w2.heap.size]? = some (.cells #[.int .i64 (i : Int), .slice p 2 c'] 75 (0, 0)) := by rw [← hw4]; exact heap_alloc_new _ _
          have hz5 : Bytes w5 (some ⟨w4.heap.size, 0, none⟩) (oxs i) := by rw [← hw5]; exact lit2 (x := i) (y := 111) ⟨hi2, by decide⟩ (heap_alloc_new _ _)
          have HSa := hide (same_any w5 (i : Int) p (some ⟨w4.heap.size, 0, none⟩) 2 c' 2 (oxs i) rfl (by omega) ((hy2.below hb4).below hb5) hz5)
          have HB5 := hide (below_of hb4 hb5)
          obtain ⟨f0, f1⟩ := blk2 hf4
          have hlf := lt_of_block hf4
          have HW4 := hide hw4
          have HW5 := hide hw5
          clear hy2 hk2 hb4 hb5 hf4 hz5 hw4 hw5
          go_upto_region 35 with (fail)
          rw [HW4.out]
          go_wp2_with fail
          rw [HW5.out]
          refine HSa.out.mono ?_
          rintro e w6 ⟨rfl, hb6⟩
          have HB6 := hide (below_of HB5.out hb6)
          clear hb6
          go_wp2
          go_roundw
          case rel => exact ⟨i + 1, _, by omega, by go_num, hide (HR2.out.below HB6.out), hide (HK2.out.trans (kp_below HB6.out _ _ (0, 0)))⟩
          case measure => simp [intOf]; omega
        · have e1 : ¬ (i : Int) < (ns.length : Int) := by omega
          have HSt := hide (Q.late_settle2 K' wr lb G W xs bb _ _ _ _ _ _ _ _ HR.out.lt HR.out.sg.bt HR.out.sg.jn (by omega))
          obtain ⟨c0, c1, c2, c3, cf⟩ := HR.out.sg.cells (show 0 < 2 by omega)
          clear c0 c1
          go_wp2_with fail
          refine HSt.out.mono ?_
          rintro e w6 ⟨rfl, K6, L6, M6, A6, t6, d6, us6, ks6, n6, hb6, hj6, hk6⟩
          obtain ⟨K7', bm7, hs7⟩ := HR.out.sg.settled hk6 hb6 hj6
          have HS7 := hide hs7
          have HBw := hide (HWr.out w6 K6 (HK.out.trans (hk6.mono (q := fun q => 1 ≤ q.1) (fun q e => by rcases e with e | e | e | e; all_goals (first | (subst e; decide) | omega))))).1
          have HA0 := hide (all_any w6 K7' _ _ _ x bm7 hs7 0 (by omega))
          have HA1 := hide (fun (W : World) (hb : Below w6.heap.size w6 W) => all_any W _ _ _ _ x bm7 (HS7.out.below hb) 1 (by omega))
          rw [show ((0 : Nat) : Int) = 0 from rfl] at HA0
          rw [show ((1 : Nat) : Int) = 1 from rfl] at HA1
          clear hb6 hj6 hk6 hs7
          go_wp2_with fail
          refine HA0.out.mono ?_
          rintro e w8 ⟨rfl, hb8⟩
          have HB8 := hide hb8
          have HA1' := hide (HA1.out w8 hb8)
          clear hb8
          go_wp2_with fail
          refine HA1'.out.mono ?_
          rintro e w9 ⟨rfl, hb9⟩
          have HB9 := hide (below_of HB8.out hb9)
          clear hb9
          go_wp2
          go_ret
          exact ⟨rfl, HBw.out.trans (HB9.out.mono HBw.out.size)⟩

end Go.Proofs.Ythgggjdefhgfiaa
