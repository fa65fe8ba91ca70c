import Derived.Test.YthgggjdefhgfiaaNPlay
namespace Go.Proofs.Ythgggjdefhgfiaa
open Go.RowKit Go.Maps

/-- A call of the script. -/
structure NOp where
  d : Int
  wh : Int
  at_ : Int
  ad : Int
  bp : Option Addr
  bl : Nat
  bc : Nat
  ys : List Nat
def nopc (q : NOp) : List Value := [.int .i64 q.d, .int .i64 q.wh, .int .i64 q.at_, .int .i64 q.ad, .slice q.bp q.bl q.bc]
structure NOk (w : World) (q : NOp) : Prop where
  by_ : Bytes w q.bp q.ys
  len : q.ys.length = q.bl
  le : q.bl ≤ q.bc
  max : q.bc ≤ 9223372036854775807
  near : q.ys = [] ∨ ∀ g p, q.bp = some ⟨g, p, none⟩ → g < w.heap.size
structure Nopi (w : World) (sp : Option Addr) (ops : List NOp) : Prop where
  lie : ops = [] ∨ ∃ g o, sp = some ⟨g, o, none⟩ ∧ g < w.heap.size ∧ ∀ (j : Nat) (q : NOp), ops[j]? = some q → ∀ i v, (nopc q)[i]? = some v → w.cell? ⟨g, o + j * 5 + i, none⟩ = some v
  ok : ∀ q ∈ ops, NOk w q

theorem plays_any (w : World) (K : Knd) (sb bb M : Nat) (x : Nat → Option Sl) (mark : Bm) (h : Sg w K sb bb M x mark) (hM : M ≤ 1099511627776) (hmn : mark.n ≤ 5000) (q : NOp) (hq : NOk w q) (hk : q.ys = [] ∨ ∀ b p, q.bp = some ⟨b, p, none⟩ → b < w.heap.size ∧ K b = (0, 0)) :
    Calls Try.prog 7 #[.pointer (some ⟨sb, 0, none⟩), .agg #[.int .i64 q.d, .int .i64 q.wh, .int .i64 q.at_, .int .i64 q.ad, .slice q.bp q.bl q.bc]] w (PlPost K sb bb M mark w) := by
  obtain ⟨d, wh, at_, ad, bp, bl, bc, ys⟩ := q
  simp only
  by_cases h6 : d = 6
  · subst h6; exact plays_new w K sb bb M x mark h hM hmn wh at_ ad bp bl bc
  cases hs : x (wh % 2).toNat with
  | none => exact plays_none w K sb bb M x mark h hM hmn d wh at_ ad bp bl bc hs h6
  | some s0 =>
    by_cases h1 : d = 1
    · subst h1
      exact plays_send w K sb bb M x mark h hM hmn wh at_ ad bp bl bc s0 hs ys hq.len hq.by_ hq.le hq.max hk
    by_cases h2 : d = 2
    · subst h2; exact plays_look w K sb bb M x mark h hM hmn wh at_ ad bp bl bc s0 hs
    by_cases h3 : d = 3
    · subst h3; exact plays_take w K sb bb M x mark h hM hmn wh at_ ad bp bl bc s0 hs
    by_cases h4 : d = 4
    · subst h4; exact plays_drop w K sb bb M x mark h hM hmn wh at_ ad bp bl bc s0 hs
    by_cases h5 : d = 5
    · subst h5; exact plays_double w K sb bb M x mark h hM hmn wh at_ ad bp bl bc s0 hs
    by_cases h7 : d = 7
    · subst h7; exact plays_fill w K sb bb M x mark h hM hmn wh at_ ad bp bl bc s0 hs
    exact plays_else w K sb bb M x mark h hM hmn d wh at_ ad bp bl bc s0 hs h1 h2 h3 h4 h5 h6 h7

theorem Sg.book {K K' : Knd} {w w' : World} {sb bb M : Nat} {x : Nat → Option Sl} {m m' : Bm} (h : Sg w K sb bb M x m) (hk : Kp (Q.PB P5) K K' w w') (ho : m'.on = m.on) (hb : Q.Bt P5 K' w' bb m'.L m'.M m'.A m'.turn m'.done m'.used m'.ks) (hj : Q.Jn m'.A m'.turn m'.done m'.used m'.ks m'.n) : Sg w' K' sb bb M x m' := by
  have hk' := hk.mono (q := fun q => q = (5, 1) ∨ q = (5, 2)) (fun q e => by rcases e with e | e | e; exact Or.inl e; exact Or.inr e; exact Or.inr e)
  refine ⟨?_, (hk'.same _ (lt_of_block h.blk)).trans h.ks, hb, hj, fun k s hk e => (h.ok k s hk e).kept hk' (fun j e => by rcases e with e | e <;> (have := congrArg Prod.fst e; simp at this; omega)) (fun j e => by rcases e with e | e <;> (have := congrArg Prod.fst e; simp at this; omega))⟩
  rw [ho]
  exact (hk'.block _ (lt_of_block h.blk) (by rw [h.ks]; simp)).trans h.blk
theorem pb_one : ∀ q, Q.PB P5 q → 1 ≤ q.1 := by
  rintro q (e | e | e)
  · subst e; decide
  · subst e; decide
  · cases e; decide
theorem ppl_one : ∀ q, PPl q → 1 ≤ q.1 := by rintro q (e | e) <;> omega
/-- An empty Book. -/
def Bm.new (on : Bool) : Bm := ⟨on, .slice none 0 0, .slice none 0 0, 0, 0, 0, 0, [], 0⟩
theorem Try.builtBook : Try.prog.built 50 [] = some bk0 := by kernel_rfl
theorem book_build {o : Oper} {a : Act} {w : World} {K : Act → World → Prop} {Q : Exit → Act → World → Prop} (ho : o.op = .build 50 #[]) (h : K (a.put o.dst (.agg bk0)) w) : o.wp Try.prog a w K Q := by
  have e0 : (#[].map fun (i, x) => (i, a.eval x)).toList = ([] : List (Nat × Value)) := by simp
  refine wp_build 50 #[] ho ?_ ?_
  · rw [e0, Try.builtBook]; rfl
  · rw [e0, Try.builtBook]; exact h

set_option maxRecDepth 100000 in
set_option maxHeartbeats 4000000 in
theorem play_any (w : World) (r0 r1 : Int) (sp : Option Addr) (m c : Nat) (ops : List NOp) (hm : ops.length = m) (hml : m ≤ 140737488355328) (h : Nopi w sp ops) (mk : Bool) :
    Calls Try.prog 4 #[.agg #[.int .i64 r0, .int .i64 r1, .slice sp m c], .bool mk] w fun e w' => e = .returned (.bool true) ∧ Below w.heap.size w w' := by
  have HM := hide hm
  have HV := hide h
  obtain ⟨S0, hS0⟩ : ∃ S0 : Obj, S0 = .cells #[.int .i64 r0, .int .i64 r1, .slice sp m c] 25 := ⟨_, rfl⟩
  obtain ⟨w3, hw3⟩ : ∃ w3, w3 = ((w.alloc (.cells #[.int .i64 r0, .int .i64 r1, .slice sp m c] 25)).alloc (.cells bk0 50)).alloc (.cells #[.pointer none, .pointer none, .pointer none, .pointer none, .pointer (some ⟨w.heap.size + 1, 0, none⟩), .bool mk] 56) := ⟨_, rfl⟩
  have s3 : w3.heap.size = w.heap.size + 1 + 1 + 1 := by rw [hw3]; simp
  have hb3 : Below w.heap.size w w3 := by rw [hw3]; exact (((Below.refl _ _).alloc (Nat.le_refl _) _).alloc (by simp) _).alloc (by simp; omega) _
  have hx3 : w3.heap[w.heap.size]? = some (.cells #[.int .i64 r0, .int .i64 r1, .slice sp m c] 25 (0, 0)) := by
    rw [hw3]
    exact (Below.heap_alloc _ _ _ (by simp; omega)).trans ((Below.heap_alloc _ _ _ (by simp)).trans (heap_alloc_new _ _))
  have hbk : w3.heap[w.heap.size + 1]? = some (.cells bk0 50 (0, 0)) := by
    have e := heap_alloc_new (w.alloc (.cells #[.int .i64 r0, .int .i64 r1, .slice sp m c] 25)) (.cells bk0 50)
    rw [World.size_alloc] at e
    rw [hw3]
    exact (Below.heap_alloc _ _ _ (by simp)).trans e
  have hsg : w3.heap[w.heap.size + 1 + 1]? = some (.cells (sgCells (fun _ => none) (w.heap.size + 1) mk) 56 (0, 0)) := by
    have e := heap_alloc_new ((w.alloc (.cells #[.int .i64 r0, .int .i64 r1, .slice sp m c] 25)).alloc (.cells bk0 50)) (.cells #[.pointer none, .pointer none, .pointer none, .pointer none, .pointer (some ⟨w.heap.size + 1, 0, none⟩), .bool mk] 56)
    rw [World.size_alloc, World.size_alloc] at e
    rw [hw3]
    exact e
  obtain ⟨K3, hK3⟩ : ∃ K3, K3 = ext (ext K00 (w.heap.size + 1) (5, 1)) (w.heap.size + 1 + 1) (5, 0) := ⟨_, rfl⟩
  have hK0 : ∀ b, b < w.heap.size + 1 → K3 b = (0, 0) := fun b hb => by rw [hK3, ext_old _ _ (by omega), ext_old _ _ hb]; rfl
  have hS3 : Sg w3 K3 (w.heap.size + 1 + 1) (w.heap.size + 1) 0 (fun _ => none) (Bm.new mk) := ⟨hsg, by rw [hK3, ext_new _ _ (Nat.le_refl _)], Q.bt_empty hbk (by rw [hK3, ext_old _ _ (by omega), ext_new _ _ (Nat.le_refl _)]), Q.jn_empty, fun k s _ e => by cases e⟩
  have HS3 := hide hS3
  have HB3 := hide hb3
  have HX3 := hide hx3
  have HK0 := hide hK0
  have HSz := hide s3
  have HF0 := hide (fresh_any w3 K3 (w.heap.size + 1 + 1) (w.heap.size + 1) 0 _ (Bm.new mk) hS3 0 (by omega) r0)
  rw [show ((0 : Nat) : Int) = 0 from rfl] at HF0
  clear hm h hsg hbk hx3 hb3 s3 hK0 hS3 hK3 hS0
  have HW3 := hide hw3
  clear hw3
  go_enter Try.func4, Try.ntmps4
  go_wp2_with fail
  refine book_build rfl ?_
  go_wp2_with fail
  rw [← HW3.out]
  refine HF0.out.mono ?_
  rintro e w4 ⟨rfl, K4, x4, hs4, hk4⟩
  have HF1 := hide (fresh_any w4 K4 (w.heap.size + 1 + 1) (w.heap.size + 1) 0 x4 (Bm.new mk) hs4 1 (by omega) r1)
  rw [show ((1 : Nat) : Int) = 1 from rfl] at HF1
  have hl3 : w.heap.size < w3.heap.size := by have := HSz.out; omega
  have hx4 : w4.heap[w.heap.size]? = _ := (hk4.block _ hl3 (by rw [HK0.out _ (by omega)]; simp)).trans HX3.out
  obtain ⟨y0, y1, y2, yf⟩ := blk3 hx4
  have HKp4 := hide hk4
  have hl4 := lt_of_block hx4
  clear hs4 hk4 hx4
  go_wp2_with fail
  refine HF1.out.mono ?_
  rintro e w5 ⟨rfl, K5, x5, hs5, hk5⟩
  have HKp5 : Hid (Kp (fun q => 1 ≤ q.1) K3 K5 w3 w5) := ((HKp4.out.trans hk5).mono (fun q e => by subst e; show 1 ≤ 5; omega))
  have HS5 := hide hs5
  clear hs5 hk5 y0 y1 y2 yf HF0 HF1
  have hl3 : w.heap.size < w3.heap.size := by have := HSz.out; omega
  have HWr : Hid (∀ (wr : World) (K : Knd), Kp (fun q => 1 ≤ q.1) K3 K w3 wr → Below w.heap.size w wr ∧ wr.heap[w.heap.size]? = some (.cells #[.int .i64 r0, .int .i64 r1, .slice sp m c] 25 (0, 0)) ∧ ∀ b, b < w.heap.size → K b = (0, 0)) := fun wr K hk => by
    refine ⟨hk.below HB3.out (fun b hb => by rw [HK0.out b (by omega)]; simp), (hk.block _ hl3 (by rw [HK0.out _ (by omega)]; simp)).trans HX3.out, fun b hb => (hk.same b (by omega)).trans (HK0.out b (by omega))⟩
  go_wp2
  go_loopw [6] (fun i wr => ∃ (j : Nat) (K : Knd) (x : Nat → Option Sl) (bm : Bm), j ≤ m ∧ j ≤ 400 ∧ i = .int .i64 j ∧ Hid (Sg wr K (w.heap.size + 1 + 1) (w.heap.size + 1) (9000 * j) x bm) ∧ Hid (bm.n ≤ j) ∧ Hid (Kp (fun q => 1 ≤ q.1) K3 K w3 wr)) (fun i _ => 400 - (intOf i).toNat)
  case atStart => exact ⟨0, K5, x5, Bm.new mk, Nat.zero_le _, by omega, rfl, HS5, Nat.le_refl _, HKp5⟩
  case round =>
    obtain ⟨j, K, x, bm, hj, hj4, rfl, HS, HBn, HKp⟩ := hrel
    obtain ⟨hbw, hxw, hKw⟩ := HWr.out wr K HKp.out
    obtain ⟨y0, y1, y2, yf⟩ := blk3 hxw
    have hlw := lt_of_block hxw
    have HBw := hide hbw
    have HKw := hide hKw
    clear hxw hbw hKw
    by_cases hlt : j < m
    · have hlt' : (j : Int) < (m : Int) := by omega
      by_cases hlt2 : j < 400
      · have hlt2' : (j : Int) < 400 := by omega
        obtain ⟨q, hq⟩ : ∃ q, ops[j]? = some q := ⟨_, List.getElem?_eq_getElem (by have := HM.out; omega)⟩
        obtain ⟨g, o, rfl, hg, hcs⟩ : ∃ g o, sp = some ⟨g, o, none⟩ ∧ g < w.heap.size ∧ ∀ (j : Nat) (q : NOp), ops[j]? = some q → ∀ i v, (nopc q)[i]? = some v → w.cell? ⟨g, o + j * 5 + i, none⟩ = some v := by
          rcases HV.out.lie with e | e
          · rw [e] at hq; simp at hq
          · exact e
        have f : ∀ i v, (nopc q)[i]? = some v → wr.cell? ⟨g, o + j * 5 + i, none⟩ = some v := fun i v hv => (HBw.out.cell (p := ⟨g, o + j * 5 + i, none⟩) hg).trans (hcs j q hq i v hv)
        have a0 := f 0 _ rfl
        have a1 := f 1 _ rfl
        have a2 := f 2 _ rfl
        have a3 := f 3 _ rfl
        have a4 := f 4 _ rfl
        rw [Nat.add_zero] at a0
        have hqo := HV.out.ok q (List.mem_of_getElem? hq)
        have hqr : NOk wr q := ⟨hqo.by_.below HBw.out, hqo.len, hqo.le, hqo.max, hqo.near.imp id (fun h g p e => Nat.lt_of_lt_of_le (h g p e) HBw.out.size)⟩
        have i0 : (0 : Int) ≤ (j : Int) := by omega
        have HPl : Hid (Calls Try.prog 7 #[.pointer (some ⟨w.heap.size + 1 + 1, 0, none⟩), .agg #[.int .i64 q.d, .int .i64 q.wh, .int .i64 q.at_, .int .i64 q.ad, .slice q.bp q.bl q.bc]] wr (PlPost K (w.heap.size + 1 + 1) (w.heap.size + 1) (9000 * j) bm wr)) := by
          exact plays_any wr K _ _ _ x bm HS.out (by omega) (by have := HBn.out; omega) q hqr (hqo.near.imp id (fun h b p e => ⟨Nat.lt_of_lt_of_le (h b p e) HBw.out.size, HKw.out b (h b p e)⟩))
        clear f hcs hq hqo hqr
        go_wp2_with fail
        refine HPl.out.mono ?_
        rintro e w6 ⟨rfl, K6, x6, m6, hs6, hm6, hk6⟩
        have HS6 := hide hs6
        have HKp6 := hide (HKp.out.trans (hk6.mono ppl_one))
        have HM6 : Hid (m6.n ≤ j + 1) := by have h1 := HBn.out; have h2 := hm6.2; show _ ≤ _; omega
        have HBl := hide (Q.bt_look P5 rfl K6 w6 _ _ _ _ _ _ _ _ _ hs6.bt hs6.jn (by have := HM6.out; omega))
        obtain ⟨_, _, e4, _, _⟩ := hs6.cells (show 0 < 2 by omega)
        clear hs6 hk6 hm6
        go_wp2_with fail
        refine HBl.out.mono ?_
        rintro e w7 ⟨rfl, L7, M7, A7, d7, ks7, hb7, hj7, hk7⟩
        have HS7 := hide (HS6.out.book (m' := ⟨m6.on, L7, M7, A7, m6.turn, d7, m6.used, ks7, m6.n⟩) hk7 rfl hb7 hj7)
        have HKp7 := hide (HKp6.out.trans (hk7.mono pb_one))
        clear hb7 hj7 hk7
        go_wp2
        go_roundw
        case rel => exact ⟨j + 1, _, x6, ⟨m6.on, L7, M7, A7, m6.turn, d7, m6.used, ks7, m6.n⟩, by omega, by omega, by go_num, hide (by rw [show 9000 * (j + 1) = 9000 * j + 9000 by omega]; exact HS7.out), HM6, HKp7⟩
        case measure => simp [intOf]; omega
      · obtain rfl : j = 400 := by omega
        have HA0 := hide (all_any wr K _ _ _ x bm HS.out 0 (by omega))
        have HA1 := hide (fun (W : World) (hb : Below wr.heap.size wr W) => all_any W _ _ _ _ x bm (HS.out.below hb) 1 (by omega))
        rw [show ((0 : Nat) : Int) = 0 from rfl] at HA0
        rw [show ((1 : Nat) : Int) = 1 from rfl] at HA1
        go_wp2_with fail
        refine HA0.out.mono ?_
        rintro e w6 ⟨rfl, hb6⟩
        have HB6 := hide hb6
        have HA1' := hide (HA1.out w6 hb6)
        clear hb6
        go_wp2_with fail
        refine HA1'.out.mono ?_
        rintro e w7 ⟨rfl, hb7⟩
        have HB7 := hide (HB6.out.trans (hb7.mono HB6.out.size))
        have HLv := hide (lives_any w7)
        clear hb7
        go_wp2_with fail
        refine HLv.out.mono ?_
        rintro e w8 ⟨rfl, hb8⟩
        have HB8 := hide (HB7.out.trans (hb8.mono HB7.out.size))
        clear hb8
        go_wp2
        go_ret
        exact ⟨rfl, HBw.out.trans (HB8.out.mono HBw.out.size)⟩
    · obtain rfl : j = m := by omega
      have HA0 := hide (all_any wr K _ _ _ x bm HS.out 0 (by omega))
      have HA1 := hide (fun (W : World) (hb : Below wr.heap.size wr W) => all_any W _ _ _ _ x bm (HS.out.below hb) 1 (by omega))
      rw [show ((0 : Nat) : Int) = 0 from rfl] at HA0
      rw [show ((1 : Nat) : Int) = 1 from rfl] at HA1
      go_wp2_with fail
      refine HA0.out.mono ?_
      rintro e w6 ⟨rfl, hb6⟩
      have HB6 := hide hb6
      have HA1' := hide (HA1.out w6 hb6)
      clear hb6
      go_wp2_with fail
      refine HA1'.out.mono ?_
      rintro e w7 ⟨rfl, hb7⟩
      have HB7 := hide (HB6.out.trans (hb7.mono HB6.out.size))
      have HLv := hide (lives_any w7)
      clear hb7
      go_wp2_with fail
      refine HLv.out.mono ?_
      rintro e w8 ⟨rfl, hb8⟩
      have HB8 := hide (HB7.out.trans (hb8.mono HB7.out.size))
      clear hb8
      go_wp2
      go_ret
      exact ⟨rfl, HBw.out.trans (HB8.out.mono HBw.out.size)⟩

end Go.Proofs.Ythgggjdefhgfiaa
