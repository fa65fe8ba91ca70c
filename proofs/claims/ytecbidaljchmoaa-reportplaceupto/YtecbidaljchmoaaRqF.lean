import Derived.Test.YtecbidaljchmoaaRqE
import Derived.Test.YtecbidaljchmoaaBldA
namespace Go.Proofs.Ytecbidaljchmoaa
open Go.RowKit
set_option linter.unusedSimpArgs false in
set_option maxRecDepth 100000 in
set_option maxHeartbeats 8000000 in
theorem seatEntries_any (w : World) (K : Knd) (b : Nat) (C : Array Value) (ho : Oute w K b C) (s : Sli Eda) (hs : EntsZ w K s) :
    Calls Try.prog 11 #[.pointer (some ⟨b, 0, none⟩), .slice s.p s.n s.c] w fun r w' => ∃ (K' : Knd) (C' : Array Value) (a : Option Addr) (c : Nat) (ps : List Nat) (ds : List Eda), r = .returned (.slice a s.n c) ∧ C'[15]? = some (.slice a s.n c) ∧ Lp Eda.list 22 82 RE 3 15 w w' K K' b C C' s.n ps ds ∧ ds.map Eda.d = s.xs.map Eda.d := by
  obtain ⟨a0, n0, c0, y0, h0, r0⟩ := ho.all
  obtain ⟨ps0, hp0, hf0, hn0⟩ := ho.every
  have L0 := Lp.start (f := Eda.list) (R := RE) (j := 15) (by omega) (by omega) ho.blk ho.z ho.kb h0 r0 hp0 hf0 hn0
  have hcc : n0 ≤ c0 ∧ c0 ≤ maxLen := by
    obtain ⟨a2, c2, e2, h5, h6⟩ := r0.form
    simp only [Value.slice.injEq] at e2
    obtain ⟨_, _, rfl⟩ := e2
    exact ⟨h5, h6⟩
  have e0 : w.cell? ⟨b, 15, none⟩ = some (.slice a0 n0 c0) := by rw [cell_of_row _ _ _ _ _ _ ho.blk]; exact h0
  have fz0 : w.frozen? ⟨b, 15, none⟩ = false := frozen_of_row _ _ _ _ _ ho.blk
  obtain ⟨p, n, cp, xs⟩ := s
  have hlen : xs.length = n := hs.row.ok.len
  have hmost : n ≤ 4194304 := hs.row.ok.most
  have HS := hide hs
  have HO := hide ho
  obtain ⟨w1, hw1⟩ : ∃ w1, w.setCell ⟨b, 15, none⟩ (.slice a0 0 c0) = w1 := ⟨_, rfl⟩
  rw [hw1] at L0
  have HI0 : Hid (∃ (K' : Knd) (C' : Array Value) (ps : List Nat) (ds : List Eda), Lp Eda.list 22 82 RE 3 15 w w1 K K' b C C' 0 ps ds ∧ 0 ≤ ps.length ∧ ds.map Eda.d = (xs.take 0).map Eda.d) := ⟨K, _, ps0, [], L0, Nat.zero_le _, rfl⟩
  have HW1 := hide hw1
  clear hs ho h0 r0 hp0 hf0 hn0 L0 hw1
  go_enter Try.func11, Try.ntmps11
  go_upto_region 2 with (fail)
  rw [HW1.out]
  clear HW1 e0 fz0
  go_wp2
  go_loopw [5] (fun i wr => ∃ k : Nat, k ≤ n ∧ i = .int .i64 k ∧ Hid (∃ (K' : Knd) (C' : Array Value) (ps : List Nat) (ds : List Eda), Lp Eda.list 22 82 RE 3 15 w wr K K' b C C' k ps ds ∧ k ≤ ps.length ∧ ds.map Eda.d = (xs.take k).map Eda.d)) (fun i _ => n - (intOf i).toNat)
  case atStart => exact ⟨0, Nat.zero_le _, rfl, HI0⟩
  case round =>
    clear HI0
    obtain ⟨k, hk, rfl, HI⟩ := hrel
    obtain ⟨K1, C1, ps, ds, L, hkp, hd⟩ := HI.out
    by_cases hlt : k < n
    · obtain ⟨x, hx⟩ : ∃ x, xs[k]? = some x := ⟨_, List.getElem?_eq_getElem (by omega)⟩
      have hlt' : (k : Int) < (n : Int) := by omega
      obtain ⟨ap, cq, e14, r14⟩ := L.ptr
      have f14 : wr.cell? ⟨b, 16, none⟩ = some (.slice ap ps.length cq) := by rw [cell_of_row _ _ _ _ _ _ L.blk]; exact e14
      by_cases hnew : k = ps.length
      · have hlt2 : ps.length < 4194304 := by omega
        obtain ⟨a7, c7, w7, K7, hrun7, hc7, hf7, L7⟩ := L.more kept_RE (by omega) (by omega) hlt2 e14 46
        rw [← hnew] at hrun7 hc7 L7 f14
        have HR7 := hide hrun7
        have Hnew := hide hnew
        have hcc14' : ps.length ≤ cq ∧ cq ≤ maxLen := by
          obtain ⟨a2, c2, e2, h5, h6⟩ := r14.form
          simp only [Value.slice.injEq] at e2
          obtain ⟨_, _, rfl⟩ := e2
          exact ⟨h5, h6⟩
        have HL7 := hide L7
        rw [← hnew] at hcc14'
        clear hrun7 L7 hnew e14 r14
        go_upto_region 7 with (at_builtin; refine lp_append (.slice ap k cq) (.slice (some ⟨wr.heap.size + 1, 0, none⟩) 1 1) rfl rfl ⟨_, w7, HR7.out, ?_⟩)
        obtain ⟨W, hW⟩ : ∃ W, w7.setCell ⟨b, 16, none⟩ (.slice a7 (k + 1) c7) = W := ⟨_, rfl⟩
        have L7 := HL7.out
        rw [hW] at L7 ⊢
        obtain ⟨PS, hPS⟩ : ∃ PS, ps ++ [wr.heap.size] = PS := ⟨_, rfl⟩
        rw [hPS] at L7
        have hkP : k < PS.length := by rw [← hPS]; have := Hnew.out; simp; omega
        clear f14 HL7 HR7 hc7 hf7 hPS hcc14' Hnew
        have L2 := L7.drew kept_RE
        obtain ⟨bk, hbk⟩ : ∃ bk, PS[k]? = some bk := ⟨_, List.getElem?_eq_getElem hkP⟩
        obtain ⟨Ck, hSk⟩ := L2.nest k bk hbk
        obtain ⟨a13, c13, e13, r13⟩ := L2.row
        obtain ⟨a14, c14, e14, r14⟩ := L2.ptr
        have hcc14 : PS.length ≤ c14 ∧ c14 ≤ maxLen := by
          obtain ⟨a2, c2, e2, h5, h6⟩ := r14.form
          simp only [Value.slice.injEq] at e2
          obtain ⟨_, _, rfl⟩ := e2
          exact ⟨h5, h6⟩
        obtain ⟨gp, op, e, hgp, hclp⟩ := (cel_row (f := ptc) (fun _ => rfl) r14.own rfl).get (i := k) (r := ptc bk) (by simp [hbk])
        subst e
        have hgk : K7 gp = (1, 15 + 1 + 1) := r14.kind gp rfl
        have Z2 := HS.out.kept L2.kp (fun q hq => by rcases hq with h | ⟨i, h⟩ <;> omega)
        obtain ⟨bl, ol, e, hbl, hcl⟩ := Z2.row.ok.cel.get (i := k) (r := x.list) (by simp [hx])
        simp only at e
        subst e
        have hlk : (K7 bl).1 = 0 := Z2.row.far (by intro e; simp only at e; rw [e] at hx; simp at hx) bl ol rfl
        obtain ⟨LX, hLX⟩ : ∃ LX, x.list = LX := ⟨_, rfl⟩
        rw [hLX] at hcl
        have hLs : LX.length = 22 := by rw [← hLX]; rfl
        have hLi : (Try.prog.info? 82).map (·.size) = some LX.length := by rw [hLs]; exact Try.sizeE
        obtain ⟨PSn, hPn⟩ : ∃ n, PS.length = n := ⟨_, rfl⟩
        have hkn : (k : Int) < (PSn : Int) := by omega
        have hkn0 : (0 : Int) ≤ (k : Int) := by omega
        rw [hPn] at hcc14 e14
        have HallS : Hid (∀ (w' : World) (K' : Knd), Kp (fun q => q.1 = 2 * k + 3 ∨ q = (1, 15 + 1)) K7 K' W.drew w' → (w'.cell? ⟨b, 16, none⟩ = some (.slice (some ⟨gp, op, none⟩) PSn c14) ∧ w'.cell? ⟨gp, op + k, none⟩ = some (.pointer (some ⟨bk, 0, none⟩)) ∧ w'.rangeAt bl (ol + k * 22) LX)) := fun w' K' hk => by
          refine ⟨?_, ?_, fun i v hv => ?_⟩
          · rw [World.cell?_of_block (w := W.drew) (hk.block b (lt_of_block L2.blk) (by rw [L2.kb]; simp <;> omega)), cell_of_row _ _ _ _ _ _ L2.blk]
            exact e14
          · rw [World.cell?_of_block (w := W.drew) (hk.block gp hgp (by rw [hgk]; simp <;> omega))]
            have := hclp 0 _ rfl
            simpa using this
          · rw [World.cell?_of_block (w := W.drew) (hk.block bl hbl (by intro h; rcases h with h | h; omega; rw [h] at hlk; simp at hlk))]
            exact hcl i v hv
        have hS0 := HallS.out _ _ (Kp.refl _ _ _)
        have HCall := hide (seatEntry_any W.drew K7 (2 * k + 3) bk Ck hSk.blk hSk.sz hSk.k hSk.s0 hSk.s1 hSk.s2 hSk.s3 hSk.s4 hSk.s5 hSk.s6 x ((Z2.each x (List.mem_of_getElem? hx)).toK (by omega)) LX.toArray (by rw [← hLX]; rfl))
        have f13 : W.drew.cell? ⟨b, 15, none⟩ = some (.slice a13 k c13) := by rw [cell_of_row _ _ _ _ _ _ L2.blk]; exact e13
        have HSk := hide hSk
        have HL2 := hide L2
        have He13 := hide e13
        have He14 := hide e14
        have hgb : gp ≠ b := by rintro rfl; rw [L2.kb] at hgk; simp at hgk
        have hlb : bl ≠ b := by rintro rfl; rw [L2.kb] at hlk; simp at hlk
        clear hSk L2 Z2 r13 r14 e13 e14 hcl hclp hLX
        refine wp_region_noPanic ?_
        refine wp_region_held_drew (S := fun w' => w'.cell? ⟨b, 16, none⟩ = some (.slice (some ⟨gp, op, none⟩) PSn c14) ∧ w'.cell? ⟨gp, op + k, none⟩ = some (.pointer (some ⟨bk, 0, none⟩)) ∧ w'.rangeAt bl (ol + k * 22) LX) (by kernel_rfl) hS0 (fun hHeld => ?_)
        refine wpAnyH_take (i := 0) (oi := _) (v := ?v1001) rfl (by kernel_rfl) (by kernel_rfl) (by kernel_rfl) (fun _ _ _ h => h) (Or.inl ⟨by rfl, ?y1001⟩) (by assumption) ?r1001
        case y1001 => (intro w hSw; (try dsimp only at hSw); go_simp; try with_reducible rfl)
        try simp only [List.getElem_toArray, List.getElem_cons_zero, List.getElem_cons_succ, Act.put, List.setIfInBounds_toArray, List.set_cons_zero, List.set_cons_succ]
        refine wpAnyH_take (i := 1) (oi := _) (v := ?v1002) rfl (by kernel_rfl) (by kernel_rfl) (by kernel_rfl) (fun _ _ _ h => h) (Or.inl ⟨by rfl, ?y1002⟩) (by assumption) ?r1002
        case y1002 => (intro w hSw; (try dsimp only at hSw); go_simp; try with_reducible rfl)
        try simp only [List.getElem_toArray, List.getElem_cons_zero, List.getElem_cons_succ, Act.put, List.setIfInBounds_toArray, List.set_cons_zero, List.set_cons_succ]
        refine wpAnyH_take (i := 2) (oi := _) (v := ?v1003) rfl (by kernel_rfl) (by kernel_rfl) (by kernel_rfl) (fun _ _ _ h => h) (Or.inl ⟨by rfl, ?y1003⟩) (by assumption) ?r1003
        case y1003 => (intro w hSw; (try dsimp only at hSw); go_simp; try with_reducible rfl)
        try simp only [List.getElem_toArray, List.getElem_cons_zero, List.getElem_cons_succ, Act.put, List.setIfInBounds_toArray, List.set_cons_zero, List.set_cons_succ]
        refine wpAnyH_take (i := 3) (oi := _) (v := ?v1004) rfl (by kernel_rfl) (by kernel_rfl) (by kernel_rfl) (fun _ _ _ h => h) (Or.inl ⟨by rfl, ?y1004⟩) (by assumption) ?r1004
        case y1004 => (intro w hSw; (try dsimp only at hSw); go_simp; try with_reducible rfl)
        try simp only [List.getElem_toArray, List.getElem_cons_zero, List.getElem_cons_succ, Act.put, List.setIfInBounds_toArray, List.set_cons_zero, List.set_cons_succ]
        refine wpAnyH_take (i := 5) (oi := _) (v := ?v1005) rfl (by kernel_rfl) (by kernel_rfl) (by kernel_rfl) (fun _ _ _ h => h) (Or.inl ⟨by rfl, ?y1005⟩) (by assumption) ?r1005
        case y1005 => (intro w hSw; (try dsimp only at hSw); go_simp; try with_reducible rfl)
        try simp only [List.getElem_toArray, List.getElem_cons_zero, List.getElem_cons_succ, Act.put, List.setIfInBounds_toArray, List.set_cons_zero, List.set_cons_succ]
        refine wpAnyH_take (i := 6) (oi := _) (v := ?v1006) rfl (by kernel_rfl) (by kernel_rfl) (by kernel_rfl) (fun _ _ _ h => h) (Or.inl ⟨by rfl, ?y1006⟩) (by assumption) ?r1006
        case y1006 => (intro w hSw; (try dsimp only at hSw); go_simp; try with_reducible rfl)
        try simp only [List.getElem_toArray, List.getElem_cons_zero, List.getElem_cons_succ, Act.put, List.setIfInBounds_toArray, List.set_cons_zero, List.set_cons_succ]
        refine wpAnyH_take (i := 7) (oi := _) (v := ?v1007) rfl (by kernel_rfl) (by kernel_rfl) (by kernel_rfl) (fun _ _ _ h => h) (Or.inl ⟨by rfl, ?y1007⟩) (by assumption) ?r1007
        case y1007 => (intro w hSw; (try dsimp only at hSw); go_simp; try with_reducible rfl)
        try simp only [List.getElem_toArray, List.getElem_cons_zero, List.getElem_cons_succ, Act.put, List.setIfInBounds_toArray, List.set_cons_zero, List.set_cons_succ]
        refine wpAnyH_take (i := 8) (oi := _) (v := ?v1008) rfl (by kernel_rfl) (by kernel_rfl) (by kernel_rfl) (fun _ _ _ h => h) (Or.inl ⟨by rfl, ?y1008⟩) (by assumption) ?r1008
        case y1008 => (intro w hSw; (try dsimp only at hSw); go_simp; try with_reducible rfl)
        try simp only [List.getElem_toArray, List.getElem_cons_zero, List.getElem_cons_succ, Act.put, List.setIfInBounds_toArray, List.set_cons_zero, List.set_cons_succ]
        refine wpAnyH_take (i := 9) (oi := _) (v := ?v1009) rfl (by kernel_rfl) (by kernel_rfl) (by kernel_rfl) (fun _ _ _ h => h) (Or.inl ⟨by rfl, ?y1009⟩) (by assumption) ?r1009
        case y1009 => (intro w hSw; (try dsimp only at hSw); go_simp; try with_reducible rfl)
        try simp only [List.getElem_toArray, List.getElem_cons_zero, List.getElem_cons_succ, Act.put, List.setIfInBounds_toArray, List.set_cons_zero, List.set_cons_succ]
        refine wpAnyH_take (i := 10) (oi := _) (v := ?v1010) rfl (by kernel_rfl) (by kernel_rfl) (by kernel_rfl) (fun _ _ _ h => h) (Or.inl ⟨by rfl, ?y1010⟩) (by assumption) ?r1010
        case y1010 => (intro w hSw; (try dsimp only at hSw); go_simp; try with_reducible rfl)
        try simp only [List.getElem_toArray, List.getElem_cons_zero, List.getElem_cons_succ, Act.put, List.setIfInBounds_toArray, List.set_cons_zero, List.set_cons_succ]
        refine wpAnyH_take (i := 11) (oi := _) (v := ?v1011) rfl (by kernel_rfl) (by kernel_rfl) (by kernel_rfl) (fun _ _ _ h => h) (Or.inl ⟨by rfl, ?y1011⟩) (by assumption) ?r1011
        case y1011 => (intro w hSw; (try dsimp only at hSw); go_simp; try with_reducible rfl)
        try simp only [List.getElem_toArray, List.getElem_cons_zero, List.getElem_cons_succ, Act.put, List.setIfInBounds_toArray, List.set_cons_zero, List.set_cons_succ]
        refine wpAnyH_take (i := 12) (oi := _) (v := ?v1012) rfl (by kernel_rfl) (by kernel_rfl) (by kernel_rfl) (fun _ _ _ h => h) (Or.inl ⟨by rfl, ?y1012⟩) (by assumption) ?r1012
        case y1012 => (intro w hSw; (try dsimp only at hSw); go_simp; try with_reducible rfl)
        try simp only [List.getElem_toArray, List.getElem_cons_zero, List.getElem_cons_succ, Act.put, List.setIfInBounds_toArray, List.set_cons_zero, List.set_cons_succ]
        refine wpAnyH_take (i := 13) (oi := _) (v := ?v1013) rfl (by kernel_rfl) (by kernel_rfl) (by kernel_rfl) (fun _ _ _ h => h) (Or.inl ⟨by rfl, ?y1013⟩) (by assumption) ?r1013
        case y1013 => (intro w hSw; (try dsimp only at hSw); go_simp; try with_reducible rfl)
        try simp only [List.getElem_toArray, List.getElem_cons_zero, List.getElem_cons_succ, Act.put, List.setIfInBounds_toArray, List.set_cons_zero, List.set_cons_succ]
        refine wpAnyH_take (i := 14) (oi := _) (v := ?v1014) rfl (by kernel_rfl) (by kernel_rfl) (by kernel_rfl) (fun _ _ _ h => h) (Or.inl ⟨by rfl, ?y1014⟩) (by assumption) ?r1014
        case y1014 => (intro w hSw; (try dsimp only at hSw); go_simp; try with_reducible rfl)
        try simp only [List.getElem_toArray, List.getElem_cons_zero, List.getElem_cons_succ, Act.put, List.setIfInBounds_toArray, List.set_cons_zero, List.set_cons_succ]
        refine wpAnyH_take (i := 15) (oi := _) (v := _) rfl (by kernel_rfl) (by kernel_rfl) (by kernel_rfl) (fun _ _ _ h => h) (yieldsIf_load_mid (by rfl) _ _ rfl bl (ol + k * 22) rfl LX _ (fun w h => h.2.2) Try.underlying82 rfl hLi) (by assumption) ?_
        try simp only [List.getElem_toArray, List.getElem_cons_zero, List.getElem_cons_succ, Act.put, List.setIfInBounds_toArray, List.set_cons_zero, List.set_cons_succ]
        refine wpAnyH_ready (rs := [4, 16]) (by kernel_rfl) (by simp) ?_
        refine AllReadyH.cons (o := _) rfl (fun KK hKK => ?_) (AllReadyH.cons (o := _) rfl (fun KK hKK => ?_) AllReadyH.nil)
        · go_simp
          refine hKK.out _ _ (hS0) (fun hHeld => ?_)
          clear hKK KK
          try simp only [List.getElem_toArray, List.getElem_cons_zero, List.getElem_cons_succ, Act.put, List.setIfInBounds_toArray, List.set_cons_zero, List.set_cons_succ]
          refine wpAnyH_ready (rs := [16]) (by kernel_rfl) (by simp) ?_
          refine AllReadyH.cons (o := _) rfl (fun KK hKK => ?_) AllReadyH.nil
          go_simp
          (go_at_call 25; refine HCall.out.mono ?_; rintro r w3 ⟨K3, C3, d, rfl, hdd, hb3, hz3, hg3, R3, P3⟩)
          obtain ⟨E, hE⟩ : ∃ E, d.arr = E := ⟨_, rfl⟩
          rw [hE]
          dsimp only
          have hP3 : Kp (fun q => q.1 = 2 * k + 3) K7 K3 W.drew w3 := P3.mono (fun q h => h.1)
          have hS3 := HallS.out _ _ (hP3.mono (fun q h => Or.inl h))
          have hB3 : Below w3.heap.size w3 (w3.alloc (.cells E 82)) := (Below.refl _ w3).alloc (Nat.le_refl _) _
          have hS4 := HallS.out _ _ ((hP3.mono (fun q h => Or.inl h)).trans (kp_below hB3 _ K3 (0, 0)))
          have HEs : E.size = 22 := by rw [← hE]; rfl
          obtain ⟨a5, c5, w5, K5, hrun, hc5, hf5, kp5, L5⟩ := HL2.out.next elt_entry kept_RE (by omega) (by omega) (by omega) He13.out hbk (HSk.out.entered hb3 hz3 R3 P3) ⟨C3, R3⟩ hP3 E (by rw [← hE]; rfl) 26
          have hS5 := HallS.out _ _ kp5
          have hS6 : (fun w' => w'.cell? ⟨b, 16, none⟩ = some (.slice (some ⟨gp, op, none⟩) PSn c14) ∧ w'.cell? ⟨gp, op + k, none⟩ = some (.pointer (some ⟨bk, 0, none⟩)) ∧ w'.rangeAt bl (ol + k * 22) LX)  (w5.setCell ⟨b, 15, none⟩ (.slice a5 (k + 1) c5)) := by
            refine ⟨?_, ?_, fun i v hv => ?_⟩
            · rw [cell_of_row _ _ _ _ _ _ L5.blk, set_off _ (by omega)]; exact He14.out
            · rw [World.cell?_of_block (w := w5) (heap_setCell_other _ _ _ _ hgb)]; exact hS5.2.1
            · rw [World.cell?_of_block (w := w5) (heap_setCell_other _ _ _ _ hlb)]; exact hS5.2.2 i v hv
          have f13b : w3.cell? ⟨b, 15, none⟩ = some (.slice a13 k c13) := by rw [World.cell?_of_block (w := W.drew) (hP3.block b (lt_of_block HL2.out.blk) (by rw [HL2.out.kb]; simp <;> omega))]; exact f13
          have f13c : (w3.alloc (.cells E 82)).cell? ⟨b, 15, none⟩ = some (.slice a13 k c13) := by rw [World.cell?_of_block (w := w3) (hB3.block b (lt_of_block ((hP3.block b (lt_of_block HL2.out.blk) (by rw [HL2.out.kb]; simp <;> omega)).trans HL2.out.blk)))]; exact f13b
          have HD5 := hide hdd
          have HL5 := hide L5
          clear hE hdd L5 hb3 hz3 hg3 R3 P3
          refine hKK.out _ _ (hS3) (fun hHeld => ?_)
          clear hKK KK
          try simp only [List.getElem_toArray, List.getElem_cons_zero, List.getElem_cons_succ, Act.put, List.setIfInBounds_toArray, List.set_cons_zero, List.set_cons_succ]
          refine wpAnyH_ready (rs := [17]) (by kernel_rfl) (by simp) ?_
          refine AllReadyH.cons (o := _) rfl (fun KK hKK => ?_) AllReadyH.nil
          refine ite_wanted (by kernel_rfl) ?_
          refine wp_build_one 26 82 (.tmp 54) rfl E rfl 22 (by omega) (by omega) Try.underlying26 info_Entry HEs ?_
          refine hKK.out _ _ (hS4) (fun hHeld => ?_)
          clear hKK KK
          try simp only [List.getElem_toArray, List.getElem_cons_zero, List.getElem_cons_succ, Act.put, List.setIfInBounds_toArray, List.set_cons_zero, List.set_cons_succ]
          refine wpAnyH_ready (rs := [18]) (by kernel_rfl) (by simp) ?_
          refine AllReadyH.cons (o := _) rfl (fun KK hKK => ?_) AllReadyH.nil
          refine ite_wanted (by kernel_rfl) ?_
          refine wp_app_run (.tmp 42) (.tmp 55) 26 26 rfl (.slice a13 k c13) (.slice (some ⟨w3.heap.size, 0, none⟩) 1 1) (.slice a5 (k + 1) c5) w5 rfl rfl hrun ?_
          refine hKK.out _ _ (hS5) (fun hHeld => ?_)
          clear hKK KK
          try simp only [List.getElem_toArray, List.getElem_cons_zero, List.getElem_cons_succ, Act.put, List.setIfInBounds_toArray, List.set_cons_zero, List.set_cons_succ]
          refine wpAnyH_take (i := 19) (oi := _) (v := ?v1015) rfl (by kernel_rfl) (by kernel_rfl) (by kernel_rfl) (fun _ _ _ h => h) (Or.inl ⟨by rfl, ?y1015⟩) (by assumption) ?r1015
          case y1015 => (intro w hSw; (try dsimp only at hSw); go_simp; try with_reducible rfl)
          try simp only [List.getElem_toArray, List.getElem_cons_zero, List.getElem_cons_succ, Act.put, List.setIfInBounds_toArray, List.set_cons_zero, List.set_cons_succ]
          refine wpAnyH_take (i := 20) (oi := _) (v := ?v1016) rfl (by kernel_rfl) (by kernel_rfl) (by kernel_rfl) (fun _ _ _ h => h) (Or.inl ⟨by rfl, ?y1016⟩) (by assumption) ?r1016
          case y1016 => (intro w hSw; (try dsimp only at hSw); go_simp; try with_reducible rfl)
          try simp only [List.getElem_toArray, List.getElem_cons_zero, List.getElem_cons_succ, Act.put, List.setIfInBounds_toArray, List.set_cons_zero, List.set_cons_succ]
          refine wpAnyH_ready (rs := [21]) (by kernel_rfl) (by simp) ?_
          refine AllReadyH.cons (o := _) rfl (fun KK hKK => ?_) AllReadyH.nil
          go_simp
          refine hKK.out _ _ (hS6) (fun hHeld => ?_)
          clear hKK KK
          try simp only [List.getElem_toArray, List.getElem_cons_zero, List.getElem_cons_succ, Act.put, List.setIfInBounds_toArray, List.set_cons_zero, List.set_cons_succ]
          refine wpAnyH_done (by kernel_rfl) (NoPanic.normal ?_) _
          obtain ⟨W6, hW6⟩ : ∃ W6, w5.setCell ⟨b, 15, none⟩ (.slice a5 (k + 1) c5) = W6 := ⟨_, rfl⟩
          rw [hW6] at HL5 ⊢
          clear hS0 hS3 hS4 hS5 hS6 hHeld f13 f13b f13c hc5 hf5 hrun
          go_wp2
          go_roundw
          case rel =>
            refine ⟨k + 1, by omega, by go_num, K5, _, _, _, HL5.out, by omega, ?_⟩
            rw [List.map_append, take_snoc hx, List.map_append, hd, List.map_singleton, HD5.out, List.map_singleton]
          simp [intOf]; omega
        · go_simp
          (go_at_call 25; refine HCall.out.mono ?_; rintro r w3 ⟨K3, C3, d, rfl, hdd, hb3, hz3, hg3, R3, P3⟩)
          obtain ⟨E, hE⟩ : ∃ E, d.arr = E := ⟨_, rfl⟩
          rw [hE]
          dsimp only
          have hP3 : Kp (fun q => q.1 = 2 * k + 3) K7 K3 W.drew w3 := P3.mono (fun q h => h.1)
          have hS3 := HallS.out _ _ (hP3.mono (fun q h => Or.inl h))
          have hB3 : Below w3.heap.size w3 (w3.alloc (.cells E 82)) := (Below.refl _ w3).alloc (Nat.le_refl _) _
          have hS4 := HallS.out _ _ ((hP3.mono (fun q h => Or.inl h)).trans (kp_below hB3 _ K3 (0, 0)))
          have HEs : E.size = 22 := by rw [← hE]; rfl
          obtain ⟨a5, c5, w5, K5, hrun, hc5, hf5, kp5, L5⟩ := HL2.out.next elt_entry kept_RE (by omega) (by omega) (by omega) He13.out hbk (HSk.out.entered hb3 hz3 R3 P3) ⟨C3, R3⟩ hP3 E (by rw [← hE]; rfl) 26
          have hS5 := HallS.out _ _ kp5
          have hS6 : (fun w' => w'.cell? ⟨b, 16, none⟩ = some (.slice (some ⟨gp, op, none⟩) PSn c14) ∧ w'.cell? ⟨gp, op + k, none⟩ = some (.pointer (some ⟨bk, 0, none⟩)) ∧ w'.rangeAt bl (ol + k * 22) LX)  (w5.setCell ⟨b, 15, none⟩ (.slice a5 (k + 1) c5)) := by
            refine ⟨?_, ?_, fun i v hv => ?_⟩
            · rw [cell_of_row _ _ _ _ _ _ L5.blk, set_off _ (by omega)]; exact He14.out
            · rw [World.cell?_of_block (w := w5) (heap_setCell_other _ _ _ _ hgb)]; exact hS5.2.1
            · rw [World.cell?_of_block (w := w5) (heap_setCell_other _ _ _ _ hlb)]; exact hS5.2.2 i v hv
          have f13b : w3.cell? ⟨b, 15, none⟩ = some (.slice a13 k c13) := by rw [World.cell?_of_block (w := W.drew) (hP3.block b (lt_of_block HL2.out.blk) (by rw [HL2.out.kb]; simp <;> omega))]; exact f13
          have f13c : (w3.alloc (.cells E 82)).cell? ⟨b, 15, none⟩ = some (.slice a13 k c13) := by rw [World.cell?_of_block (w := w3) (hB3.block b (lt_of_block ((hP3.block b (lt_of_block HL2.out.blk) (by rw [HL2.out.kb]; simp <;> omega)).trans HL2.out.blk)))]; exact f13b
          have HD5 := hide hdd
          have HL5 := hide L5
          clear hE hdd L5 hb3 hz3 hg3 R3 P3
          refine hKK.out _ _ (hS3) (fun hHeld => ?_)
          clear hKK KK
          try simp only [List.getElem_toArray, List.getElem_cons_zero, List.getElem_cons_succ, Act.put, List.setIfInBounds_toArray, List.set_cons_zero, List.set_cons_succ]
          refine wpAnyH_ready (rs := [4, 17]) (by kernel_rfl) (by simp) ?_
          refine AllReadyH.cons (o := _) rfl (fun KK hKK => ?_) (AllReadyH.cons (o := _) rfl (fun KK hKK => ?_) AllReadyH.nil)
          · go_simp
            refine hKK.out _ _ (hS3) (fun hHeld => ?_)
            clear hKK KK
            try simp only [List.getElem_toArray, List.getElem_cons_zero, List.getElem_cons_succ, Act.put, List.setIfInBounds_toArray, List.set_cons_zero, List.set_cons_succ]
            refine wpAnyH_ready (rs := [17]) (by kernel_rfl) (by simp) ?_
            refine AllReadyH.cons (o := _) rfl (fun KK hKK => ?_) AllReadyH.nil
            refine ite_wanted (by kernel_rfl) ?_
            refine wp_build_one 26 82 (.tmp 54) rfl E rfl 22 (by omega) (by omega) Try.underlying26 info_Entry HEs ?_
            refine hKK.out _ _ (hS4) (fun hHeld => ?_)
            clear hKK KK
            try simp only [List.getElem_toArray, List.getElem_cons_zero, List.getElem_cons_succ, Act.put, List.setIfInBounds_toArray, List.set_cons_zero, List.set_cons_succ]
            refine wpAnyH_ready (rs := [18]) (by kernel_rfl) (by simp) ?_
            refine AllReadyH.cons (o := _) rfl (fun KK hKK => ?_) AllReadyH.nil
            refine ite_wanted (by kernel_rfl) ?_
            refine wp_app_run (.tmp 42) (.tmp 55) 26 26 rfl (.slice a13 k c13) (.slice (some ⟨w3.heap.size, 0, none⟩) 1 1) (.slice a5 (k + 1) c5) w5 rfl rfl hrun ?_
            refine hKK.out _ _ (hS5) (fun hHeld => ?_)
            clear hKK KK
            try simp only [List.getElem_toArray, List.getElem_cons_zero, List.getElem_cons_succ, Act.put, List.setIfInBounds_toArray, List.set_cons_zero, List.set_cons_succ]
            refine wpAnyH_take (i := 19) (oi := _) (v := ?v1017) rfl (by kernel_rfl) (by kernel_rfl) (by kernel_rfl) (fun _ _ _ h => h) (Or.inl ⟨by rfl, ?y1017⟩) (by assumption) ?r1017
            case y1017 => (intro w hSw; (try dsimp only at hSw); go_simp; try with_reducible rfl)
            try simp only [List.getElem_toArray, List.getElem_cons_zero, List.getElem_cons_succ, Act.put, List.setIfInBounds_toArray, List.set_cons_zero, List.set_cons_succ]
            refine wpAnyH_take (i := 20) (oi := _) (v := ?v1018) rfl (by kernel_rfl) (by kernel_rfl) (by kernel_rfl) (fun _ _ _ h => h) (Or.inl ⟨by rfl, ?y1018⟩) (by assumption) ?r1018
            case y1018 => (intro w hSw; (try dsimp only at hSw); go_simp; try with_reducible rfl)
            try simp only [List.getElem_toArray, List.getElem_cons_zero, List.getElem_cons_succ, Act.put, List.setIfInBounds_toArray, List.set_cons_zero, List.set_cons_succ]
            refine wpAnyH_ready (rs := [21]) (by kernel_rfl) (by simp) ?_
            refine AllReadyH.cons (o := _) rfl (fun KK hKK => ?_) AllReadyH.nil
            go_simp
            refine hKK.out _ _ (hS6) (fun hHeld => ?_)
            clear hKK KK
            try simp only [List.getElem_toArray, List.getElem_cons_zero, List.getElem_cons_succ, Act.put, List.setIfInBounds_toArray, List.set_cons_zero, List.set_cons_succ]
            refine wpAnyH_done (by kernel_rfl) (NoPanic.normal ?_) _
            obtain ⟨W6, hW6⟩ : ∃ W6, w5.setCell ⟨b, 15, none⟩ (.slice a5 (k + 1) c5) = W6 := ⟨_, rfl⟩
            rw [hW6] at HL5 ⊢
            clear hS0 hS3 hS4 hS5 hS6 hHeld f13 f13b f13c hc5 hf5 hrun
            go_wp2
            go_roundw
            case rel =>
              refine ⟨k + 1, by omega, by go_num, K5, _, _, _, HL5.out, by omega, ?_⟩
              rw [List.map_append, take_snoc hx, List.map_append, hd, List.map_singleton, HD5.out, List.map_singleton]
            simp [intOf]; omega
          · refine ite_wanted (by kernel_rfl) ?_
            refine wp_build_one 26 82 (.tmp 54) rfl E rfl 22 (by omega) (by omega) Try.underlying26 info_Entry HEs ?_
            refine hKK.out _ _ (hS4) (fun hHeld => ?_)
            clear hKK KK
            try simp only [List.getElem_toArray, List.getElem_cons_zero, List.getElem_cons_succ, Act.put, List.setIfInBounds_toArray, List.set_cons_zero, List.set_cons_succ]
            refine wpAnyH_ready (rs := [4]) (by kernel_rfl) (by simp) ?_
            refine AllReadyH.cons (o := _) rfl (fun KK hKK => ?_) AllReadyH.nil
            go_simp
            refine hKK.out _ _ (hS4) (fun hHeld => ?_)
            clear hKK KK
            try simp only [List.getElem_toArray, List.getElem_cons_zero, List.getElem_cons_succ, Act.put, List.setIfInBounds_toArray, List.set_cons_zero, List.set_cons_succ]
            refine wpAnyH_ready (rs := [18]) (by kernel_rfl) (by simp) ?_
            refine AllReadyH.cons (o := _) rfl (fun KK hKK => ?_) AllReadyH.nil
            refine ite_wanted (by kernel_rfl) ?_
            refine wp_app_run (.tmp 42) (.tmp 55) 26 26 rfl (.slice a13 k c13) (.slice (some ⟨w3.heap.size, 0, none⟩) 1 1) (.slice a5 (k + 1) c5) w5 rfl rfl hrun ?_
            refine hKK.out _ _ (hS5) (fun hHeld => ?_)
            clear hKK KK
            try simp only [List.getElem_toArray, List.getElem_cons_zero, List.getElem_cons_succ, Act.put, List.setIfInBounds_toArray, List.set_cons_zero, List.set_cons_succ]
            refine wpAnyH_take (i := 19) (oi := _) (v := ?v1019) rfl (by kernel_rfl) (by kernel_rfl) (by kernel_rfl) (fun _ _ _ h => h) (Or.inl ⟨by rfl, ?y1019⟩) (by assumption) ?r1019
            case y1019 => (intro w hSw; (try dsimp only at hSw); go_simp; try with_reducible rfl)
            try simp only [List.getElem_toArray, List.getElem_cons_zero, List.getElem_cons_succ, Act.put, List.setIfInBounds_toArray, List.set_cons_zero, List.set_cons_succ]
            refine wpAnyH_take (i := 20) (oi := _) (v := ?v1020) rfl (by kernel_rfl) (by kernel_rfl) (by kernel_rfl) (fun _ _ _ h => h) (Or.inl ⟨by rfl, ?y1020⟩) (by assumption) ?r1020
            case y1020 => (intro w hSw; (try dsimp only at hSw); go_simp; try with_reducible rfl)
            try simp only [List.getElem_toArray, List.getElem_cons_zero, List.getElem_cons_succ, Act.put, List.setIfInBounds_toArray, List.set_cons_zero, List.set_cons_succ]
            refine wpAnyH_ready (rs := [21]) (by kernel_rfl) (by simp) ?_
            refine AllReadyH.cons (o := _) rfl (fun KK hKK => ?_) AllReadyH.nil
            go_simp
            refine hKK.out _ _ (hS6) (fun hHeld => ?_)
            clear hKK KK
            try simp only [List.getElem_toArray, List.getElem_cons_zero, List.getElem_cons_succ, Act.put, List.setIfInBounds_toArray, List.set_cons_zero, List.set_cons_succ]
            refine wpAnyH_done (by kernel_rfl) (NoPanic.normal ?_) _
            obtain ⟨W6, hW6⟩ : ∃ W6, w5.setCell ⟨b, 15, none⟩ (.slice a5 (k + 1) c5) = W6 := ⟨_, rfl⟩
            rw [hW6] at HL5 ⊢
            clear hS0 hS3 hS4 hS5 hS6 hHeld f13 f13b f13c hc5 hf5 hrun
            go_wp2
            go_roundw
            case rel =>
              refine ⟨k + 1, by omega, by go_num, K5, _, _, _, HL5.out, by omega, ?_⟩
              rw [List.map_append, take_snoc hx, List.map_append, hd, List.map_singleton, HD5.out, List.map_singleton]
            simp [intOf]; omega
      · have hnew' : ¬ (k : Int) = (ps.length : Int) := by omega
        go_upto_region 7 with (fail)
        obtain ⟨PS, hPS⟩ : ∃ PS, ps = PS := ⟨_, rfl⟩
        obtain ⟨KK2, hKK2⟩ : ∃ KK2, K1 = KK2 := ⟨_, rfl⟩
        subst hPS hKK2
        have hkP : k < ps.length := by omega
        clear f14 e14 r14
        have L2 := L.drew kept_RE
        obtain ⟨bk, hbk⟩ : ∃ bk, ps[k]? = some bk := ⟨_, List.getElem?_eq_getElem hkP⟩
        obtain ⟨Ck, hSk⟩ := L2.nest k bk hbk
        obtain ⟨a13, c13, e13, r13⟩ := L2.row
        obtain ⟨a14, c14, e14, r14⟩ := L2.ptr
        have hcc14 : ps.length ≤ c14 ∧ c14 ≤ maxLen := by
          obtain ⟨a2, c2, e2, h5, h6⟩ := r14.form
          simp only [Value.slice.injEq] at e2
          obtain ⟨_, _, rfl⟩ := e2
          exact ⟨h5, h6⟩
        obtain ⟨gp, op, e, hgp, hclp⟩ := (cel_row (f := ptc) (fun _ => rfl) r14.own rfl).get (i := k) (r := ptc bk) (by simp [hbk])
        subst e
        have hgk : K1 gp = (1, 15 + 1 + 1) := r14.kind gp rfl
        have Z2 := HS.out.kept L2.kp (fun q hq => by rcases hq with h | ⟨i, h⟩ <;> omega)
        obtain ⟨bl, ol, e, hbl, hcl⟩ := Z2.row.ok.cel.get (i := k) (r := x.list) (by simp [hx])
        simp only at e
        subst e
        have hlk : (K1 bl).1 = 0 := Z2.row.far (by intro e; simp only at e; rw [e] at hx; simp at hx) bl ol rfl
        obtain ⟨LX, hLX⟩ : ∃ LX, x.list = LX := ⟨_, rfl⟩
        rw [hLX] at hcl
        have hLs : LX.length = 22 := by rw [← hLX]; rfl
        have hLi : (Try.prog.info? 82).map (·.size) = some LX.length := by rw [hLs]; exact Try.sizeE
        obtain ⟨psn, hPn⟩ : ∃ n, ps.length = n := ⟨_, rfl⟩
        have hkn : (k : Int) < (psn : Int) := by omega
        have hkn0 : (0 : Int) ≤ (k : Int) := by omega
        rw [hPn] at hcc14 e14
        have HallS : Hid (∀ (w' : World) (K' : Knd), Kp (fun q => q.1 = 2 * k + 3 ∨ q = (1, 15 + 1)) K1 K' wr.drew w' → (w'.cell? ⟨b, 16, none⟩ = some (.slice (some ⟨gp, op, none⟩) psn c14) ∧ w'.cell? ⟨gp, op + k, none⟩ = some (.pointer (some ⟨bk, 0, none⟩)) ∧ w'.rangeAt bl (ol + k * 22) LX)) := fun w' K' hk => by
          refine ⟨?_, ?_, fun i v hv => ?_⟩
          · rw [World.cell?_of_block (w := wr.drew) (hk.block b (lt_of_block L2.blk) (by rw [L2.kb]; simp <;> omega)), cell_of_row _ _ _ _ _ _ L2.blk]
            exact e14
          · rw [World.cell?_of_block (w := wr.drew) (hk.block gp hgp (by rw [hgk]; simp <;> omega))]
            have := hclp 0 _ rfl
            simpa using this
          · rw [World.cell?_of_block (w := wr.drew) (hk.block bl hbl (by intro h; rcases h with h | h; omega; rw [h] at hlk; simp at hlk))]
            exact hcl i v hv
        have hS0 := HallS.out _ _ (Kp.refl _ _ _)
        have HCall := hide (seatEntry_any wr.drew K1 (2 * k + 3) bk Ck hSk.blk hSk.sz hSk.k hSk.s0 hSk.s1 hSk.s2 hSk.s3 hSk.s4 hSk.s5 hSk.s6 x ((Z2.each x (List.mem_of_getElem? hx)).toK (by omega)) LX.toArray (by rw [← hLX]; rfl))
        have f13 : wr.drew.cell? ⟨b, 15, none⟩ = some (.slice a13 k c13) := by rw [cell_of_row _ _ _ _ _ _ L2.blk]; exact e13
        have HSk := hide hSk
        have HL2 := hide L2
        have He13 := hide e13
        have He14 := hide e14
        have hgb : gp ≠ b := by rintro rfl; rw [L2.kb] at hgk; simp at hgk
        have hlb : bl ≠ b := by rintro rfl; rw [L2.kb] at hlk; simp at hlk
        clear hSk L2 Z2 r13 r14 e13 e14 hcl hclp hLX
        refine wp_region_noPanic ?_
        refine wp_region_held_drew (S := fun w' => w'.cell? ⟨b, 16, none⟩ = some (.slice (some ⟨gp, op, none⟩) psn c14) ∧ w'.cell? ⟨gp, op + k, none⟩ = some (.pointer (some ⟨bk, 0, none⟩)) ∧ w'.rangeAt bl (ol + k * 22) LX) (by kernel_rfl) hS0 (fun hHeld => ?_)
        refine wpAnyH_take (i := 0) (oi := _) (v := ?v1021) rfl (by kernel_rfl) (by kernel_rfl) (by kernel_rfl) (fun _ _ _ h => h) (Or.inl ⟨by rfl, ?y1021⟩) (by assumption) ?r1021
        case y1021 => (intro w hSw; (try dsimp only at hSw); go_simp; try with_reducible rfl)
        try simp only [List.getElem_toArray, List.getElem_cons_zero, List.getElem_cons_succ, Act.put, List.setIfInBounds_toArray, List.set_cons_zero, List.set_cons_succ]
        refine wpAnyH_take (i := 1) (oi := _) (v := ?v1022) rfl (by kernel_rfl) (by kernel_rfl) (by kernel_rfl) (fun _ _ _ h => h) (Or.inl ⟨by rfl, ?y1022⟩) (by assumption) ?r1022
        case y1022 => (intro w hSw; (try dsimp only at hSw); go_simp; try with_reducible rfl)
        try simp only [List.getElem_toArray, List.getElem_cons_zero, List.getElem_cons_succ, Act.put, List.setIfInBounds_toArray, List.set_cons_zero, List.set_cons_succ]
        refine wpAnyH_take (i := 2) (oi := _) (v := ?v1023) rfl (by kernel_rfl) (by kernel_rfl) (by kernel_rfl) (fun _ _ _ h => h) (Or.inl ⟨by rfl, ?y1023⟩) (by assumption) ?r1023
        case y1023 => (intro w hSw; (try dsimp only at hSw); go_simp; try with_reducible rfl)
        try simp only [List.getElem_toArray, List.getElem_cons_zero, List.getElem_cons_succ, Act.put, List.setIfInBounds_toArray, List.set_cons_zero, List.set_cons_succ]
        refine wpAnyH_take (i := 3) (oi := _) (v := ?v1024) rfl (by kernel_rfl) (by kernel_rfl) (by kernel_rfl) (fun _ _ _ h => h) (Or.inl ⟨by rfl, ?y1024⟩) (by assumption) ?r1024
        case y1024 => (intro w hSw; (try dsimp only at hSw); go_simp; try with_reducible rfl)
        try simp only [List.getElem_toArray, List.getElem_cons_zero, List.getElem_cons_succ, Act.put, List.setIfInBounds_toArray, List.set_cons_zero, List.set_cons_succ]
        refine wpAnyH_take (i := 5) (oi := _) (v := ?v1025) rfl (by kernel_rfl) (by kernel_rfl) (by kernel_rfl) (fun _ _ _ h => h) (Or.inl ⟨by rfl, ?y1025⟩) (by assumption) ?r1025
        case y1025 => (intro w hSw; (try dsimp only at hSw); go_simp; try with_reducible rfl)
        try simp only [List.getElem_toArray, List.getElem_cons_zero, List.getElem_cons_succ, Act.put, List.setIfInBounds_toArray, List.set_cons_zero, List.set_cons_succ]
        refine wpAnyH_take (i := 6) (oi := _) (v := ?v1026) rfl (by kernel_rfl) (by kernel_rfl) (by kernel_rfl) (fun _ _ _ h => h) (Or.inl ⟨by rfl, ?y1026⟩) (by assumption) ?r1026
        case y1026 => (intro w hSw; (try dsimp only at hSw); go_simp; try with_reducible rfl)
        try simp only [List.getElem_toArray, List.getElem_cons_zero, List.getElem_cons_succ, Act.put, List.setIfInBounds_toArray, List.set_cons_zero, List.set_cons_succ]
        refine wpAnyH_take (i := 7) (oi := _) (v := ?v1027) rfl (by kernel_rfl) (by kernel_rfl) (by kernel_rfl) (fun _ _ _ h => h) (Or.inl ⟨by rfl, ?y1027⟩) (by assumption) ?r1027
        case y1027 => (intro w hSw; (try dsimp only at hSw); go_simp; try with_reducible rfl)
        try simp only [List.getElem_toArray, List.getElem_cons_zero, List.getElem_cons_succ, Act.put, List.setIfInBounds_toArray, List.set_cons_zero, List.set_cons_succ]
        refine wpAnyH_take (i := 8) (oi := _) (v := ?v1028) rfl (by kernel_rfl) (by kernel_rfl) (by kernel_rfl) (fun _ _ _ h => h) (Or.inl ⟨by rfl, ?y1028⟩) (by assumption) ?r1028
        case y1028 => (intro w hSw; (try dsimp only at hSw); go_simp; try with_reducible rfl)
        try simp only [List.getElem_toArray, List.getElem_cons_zero, List.getElem_cons_succ, Act.put, List.setIfInBounds_toArray, List.set_cons_zero, List.set_cons_succ]
        refine wpAnyH_take (i := 9) (oi := _) (v := ?v1029) rfl (by kernel_rfl) (by kernel_rfl) (by kernel_rfl) (fun _ _ _ h => h) (Or.inl ⟨by rfl, ?y1029⟩) (by assumption) ?r1029
        case y1029 => (intro w hSw; (try dsimp only at hSw); go_simp; try with_reducible rfl)
        try simp only [List.getElem_toArray, List.getElem_cons_zero, List.getElem_cons_succ, Act.put, List.setIfInBounds_toArray, List.set_cons_zero, List.set_cons_succ]
        refine wpAnyH_take (i := 10) (oi := _) (v := ?v1030) rfl (by kernel_rfl) (by kernel_rfl) (by kernel_rfl) (fun _ _ _ h => h) (Or.inl ⟨by rfl, ?y1030⟩) (by assumption) ?r1030
        case y1030 => (intro w hSw; (try dsimp only at hSw); go_simp; try with_reducible rfl)
        try simp only [List.getElem_toArray, List.getElem_cons_zero, List.getElem_cons_succ, Act.put, List.setIfInBounds_toArray, List.set_cons_zero, List.set_cons_succ]
        refine wpAnyH_take (i := 11) (oi := _) (v := ?v1031) rfl (by kernel_rfl) (by kernel_rfl) (by kernel_rfl) (fun _ _ _ h => h) (Or.inl ⟨by rfl, ?y1031⟩) (by assumption) ?r1031
        case y1031 => (intro w hSw; (try dsimp only at hSw); go_simp; try with_reducible rfl)
        try simp only [List.getElem_toArray, List.getElem_cons_zero, List.getElem_cons_succ, Act.put, List.setIfInBounds_toArray, List.set_cons_zero, List.set_cons_succ]
        refine wpAnyH_take (i := 12) (oi := _) (v := ?v1032) rfl (by kernel_rfl) (by kernel_rfl) (by kernel_rfl) (fun _ _ _ h => h) (Or.inl ⟨by rfl, ?y1032⟩) (by assumption) ?r1032
        case y1032 => (intro w hSw; (try dsimp only at hSw); go_simp; try with_reducible rfl)
        try simp only [List.getElem_toArray, List.getElem_cons_zero, List.getElem_cons_succ, Act.put, List.setIfInBounds_toArray, List.set_cons_zero, List.set_cons_succ]
        refine wpAnyH_take (i := 13) (oi := _) (v := ?v1033) rfl (by kernel_rfl) (by kernel_rfl) (by kernel_rfl) (fun _ _ _ h => h) (Or.inl ⟨by rfl, ?y1033⟩) (by assumption) ?r1033
        case y1033 => (intro w hSw; (try dsimp only at hSw); go_simp; try with_reducible rfl)
        try simp only [List.getElem_toArray, List.getElem_cons_zero, List.getElem_cons_succ, Act.put, List.setIfInBounds_toArray, List.set_cons_zero, List.set_cons_succ]
        refine wpAnyH_take (i := 14) (oi := _) (v := ?v1034) rfl (by kernel_rfl) (by kernel_rfl) (by kernel_rfl) (fun _ _ _ h => h) (Or.inl ⟨by rfl, ?y1034⟩) (by assumption) ?r1034
        case y1034 => (intro w hSw; (try dsimp only at hSw); go_simp; try with_reducible rfl)
        try simp only [List.getElem_toArray, List.getElem_cons_zero, List.getElem_cons_succ, Act.put, List.setIfInBounds_toArray, List.set_cons_zero, List.set_cons_succ]
        refine wpAnyH_take (i := 15) (oi := _) (v := _) rfl (by kernel_rfl) (by kernel_rfl) (by kernel_rfl) (fun _ _ _ h => h) (yieldsIf_load_mid (by rfl) _ _ rfl bl (ol + k * 22) rfl LX _ (fun w h => h.2.2) Try.underlying82 rfl hLi) (by assumption) ?_
        try simp only [List.getElem_toArray, List.getElem_cons_zero, List.getElem_cons_succ, Act.put, List.setIfInBounds_toArray, List.set_cons_zero, List.set_cons_succ]
        refine wpAnyH_ready (rs := [4, 16]) (by kernel_rfl) (by simp) ?_
        refine AllReadyH.cons (o := _) rfl (fun KK hKK => ?_) (AllReadyH.cons (o := _) rfl (fun KK hKK => ?_) AllReadyH.nil)
        · go_simp
          refine hKK.out _ _ (hS0) (fun hHeld => ?_)
          clear hKK KK
          try simp only [List.getElem_toArray, List.getElem_cons_zero, List.getElem_cons_succ, Act.put, List.setIfInBounds_toArray, List.set_cons_zero, List.set_cons_succ]
          refine wpAnyH_ready (rs := [16]) (by kernel_rfl) (by simp) ?_
          refine AllReadyH.cons (o := _) rfl (fun KK hKK => ?_) AllReadyH.nil
          go_simp
          (go_at_call 25; refine HCall.out.mono ?_; rintro r w3 ⟨K3, C3, d, rfl, hdd, hb3, hz3, hg3, R3, P3⟩)
          obtain ⟨E, hE⟩ : ∃ E, d.arr = E := ⟨_, rfl⟩
          rw [hE]
          dsimp only
          have hP3 : Kp (fun q => q.1 = 2 * k + 3) K1 K3 wr.drew w3 := P3.mono (fun q h => h.1)
          have hS3 := HallS.out _ _ (hP3.mono (fun q h => Or.inl h))
          have hB3 : Below w3.heap.size w3 (w3.alloc (.cells E 82)) := (Below.refl _ w3).alloc (Nat.le_refl _) _
          have hS4 := HallS.out _ _ ((hP3.mono (fun q h => Or.inl h)).trans (kp_below hB3 _ K3 (0, 0)))
          have HEs : E.size = 22 := by rw [← hE]; rfl
          obtain ⟨a5, c5, w5, K5, hrun, hc5, hf5, kp5, L5⟩ := HL2.out.next elt_entry kept_RE (by omega) (by omega) (by omega) He13.out hbk (HSk.out.entered hb3 hz3 R3 P3) ⟨C3, R3⟩ hP3 E (by rw [← hE]; rfl) 26
          have hS5 := HallS.out _ _ kp5
          have hS6 : (fun w' => w'.cell? ⟨b, 16, none⟩ = some (.slice (some ⟨gp, op, none⟩) psn c14) ∧ w'.cell? ⟨gp, op + k, none⟩ = some (.pointer (some ⟨bk, 0, none⟩)) ∧ w'.rangeAt bl (ol + k * 22) LX)  (w5.setCell ⟨b, 15, none⟩ (.slice a5 (k + 1) c5)) := by
            refine ⟨?_, ?_, fun i v hv => ?_⟩
            · rw [cell_of_row _ _ _ _ _ _ L5.blk, set_off _ (by omega)]; exact He14.out
            · rw [World.cell?_of_block (w := w5) (heap_setCell_other _ _ _ _ hgb)]; exact hS5.2.1
            · rw [World.cell?_of_block (w := w5) (heap_setCell_other _ _ _ _ hlb)]; exact hS5.2.2 i v hv
          have f13b : w3.cell? ⟨b, 15, none⟩ = some (.slice a13 k c13) := by rw [World.cell?_of_block (w := wr.drew) (hP3.block b (lt_of_block HL2.out.blk) (by rw [HL2.out.kb]; simp <;> omega))]; exact f13
          have f13c : (w3.alloc (.cells E 82)).cell? ⟨b, 15, none⟩ = some (.slice a13 k c13) := by rw [World.cell?_of_block (w := w3) (hB3.block b (lt_of_block ((hP3.block b (lt_of_block HL2.out.blk) (by rw [HL2.out.kb]; simp <;> omega)).trans HL2.out.blk)))]; exact f13b
          have HD5 := hide hdd
          have HL5 := hide L5
          clear hE hdd L5 hb3 hz3 hg3 R3 P3
          refine hKK.out _ _ (hS3) (fun hHeld => ?_)
          clear hKK KK
          try simp only [List.getElem_toArray, List.getElem_cons_zero, List.getElem_cons_succ, Act.put, List.setIfInBounds_toArray, List.set_cons_zero, List.set_cons_succ]
          refine wpAnyH_ready (rs := [17]) (by kernel_rfl) (by simp) ?_
          refine AllReadyH.cons (o := _) rfl (fun KK hKK => ?_) AllReadyH.nil
          refine ite_wanted (by kernel_rfl) ?_
          refine wp_build_one 26 82 (.tmp 54) rfl E rfl 22 (by omega) (by omega) Try.underlying26 info_Entry HEs ?_
          refine hKK.out _ _ (hS4) (fun hHeld => ?_)
          clear hKK KK
          try simp only [List.getElem_toArray, List.getElem_cons_zero, List.getElem_cons_succ, Act.put, List.setIfInBounds_toArray, List.set_cons_zero, List.set_cons_succ]
          refine wpAnyH_ready (rs := [18]) (by kernel_rfl) (by simp) ?_
          refine AllReadyH.cons (o := _) rfl (fun KK hKK => ?_) AllReadyH.nil
          refine ite_wanted (by kernel_rfl) ?_
          refine wp_app_run (.tmp 42) (.tmp 55) 26 26 rfl (.slice a13 k c13) (.slice (some ⟨w3.heap.size, 0, none⟩) 1 1) (.slice a5 (k + 1) c5) w5 rfl rfl hrun ?_
          refine hKK.out _ _ (hS5) (fun hHeld => ?_)
          clear hKK KK
          try simp only [List.getElem_toArray, List.getElem_cons_zero, List.getElem_cons_succ, Act.put, List.setIfInBounds_toArray, List.set_cons_zero, List.set_cons_succ]
          refine wpAnyH_take (i := 19) (oi := _) (v := ?v1035) rfl (by kernel_rfl) (by kernel_rfl) (by kernel_rfl) (fun _ _ _ h => h) (Or.inl ⟨by rfl, ?y1035⟩) (by assumption) ?r1035
          case y1035 => (intro w hSw; (try dsimp only at hSw); go_simp; try with_reducible rfl)
          try simp only [List.getElem_toArray, List.getElem_cons_zero, List.getElem_cons_succ, Act.put, List.setIfInBounds_toArray, List.set_cons_zero, List.set_cons_succ]
          refine wpAnyH_take (i := 20) (oi := _) (v := ?v1036) rfl (by kernel_rfl) (by kernel_rfl) (by kernel_rfl) (fun _ _ _ h => h) (Or.inl ⟨by rfl, ?y1036⟩) (by assumption) ?r1036
          case y1036 => (intro w hSw; (try dsimp only at hSw); go_simp; try with_reducible rfl)
          try simp only [List.getElem_toArray, List.getElem_cons_zero, List.getElem_cons_succ, Act.put, List.setIfInBounds_toArray, List.set_cons_zero, List.set_cons_succ]
          refine wpAnyH_ready (rs := [21]) (by kernel_rfl) (by simp) ?_
          refine AllReadyH.cons (o := _) rfl (fun KK hKK => ?_) AllReadyH.nil
          go_simp
          refine hKK.out _ _ (hS6) (fun hHeld => ?_)
          clear hKK KK
          try simp only [List.getElem_toArray, List.getElem_cons_zero, List.getElem_cons_succ, Act.put, List.setIfInBounds_toArray, List.set_cons_zero, List.set_cons_succ]
          refine wpAnyH_done (by kernel_rfl) (NoPanic.normal ?_) _
          obtain ⟨W6, hW6⟩ : ∃ W6, w5.setCell ⟨b, 15, none⟩ (.slice a5 (k + 1) c5) = W6 := ⟨_, rfl⟩
          rw [hW6] at HL5 ⊢
          clear hS0 hS3 hS4 hS5 hS6 hHeld f13 f13b f13c hc5 hf5 hrun
          go_wp2
          go_roundw
          case rel =>
            refine ⟨k + 1, by omega, by go_num, K5, _, _, _, HL5.out, by omega, ?_⟩
            rw [List.map_append, take_snoc hx, List.map_append, hd, List.map_singleton, HD5.out, List.map_singleton]
          simp [intOf]; omega
        · go_simp
          (go_at_call 25; refine HCall.out.mono ?_; rintro r w3 ⟨K3, C3, d, rfl, hdd, hb3, hz3, hg3, R3, P3⟩)
          obtain ⟨E, hE⟩ : ∃ E, d.arr = E := ⟨_, rfl⟩
          rw [hE]
          dsimp only
          have hP3 : Kp (fun q => q.1 = 2 * k + 3) K1 K3 wr.drew w3 := P3.mono (fun q h => h.1)
          have hS3 := HallS.out _ _ (hP3.mono (fun q h => Or.inl h))
          have hB3 : Below w3.heap.size w3 (w3.alloc (.cells E 82)) := (Below.refl _ w3).alloc (Nat.le_refl _) _
          have hS4 := HallS.out _ _ ((hP3.mono (fun q h => Or.inl h)).trans (kp_below hB3 _ K3 (0, 0)))
          have HEs : E.size = 22 := by rw [← hE]; rfl
          obtain ⟨a5, c5, w5, K5, hrun, hc5, hf5, kp5, L5⟩ := HL2.out.next elt_entry kept_RE (by omega) (by omega) (by omega) He13.out hbk (HSk.out.entered hb3 hz3 R3 P3) ⟨C3, R3⟩ hP3 E (by rw [← hE]; rfl) 26
          have hS5 := HallS.out _ _ kp5
          have hS6 : (fun w' => w'.cell? ⟨b, 16, none⟩ = some (.slice (some ⟨gp, op, none⟩) psn c14) ∧ w'.cell? ⟨gp, op + k, none⟩ = some (.pointer (some ⟨bk, 0, none⟩)) ∧ w'.rangeAt bl (ol + k * 22) LX)  (w5.setCell ⟨b, 15, none⟩ (.slice a5 (k + 1) c5)) := by
            refine ⟨?_, ?_, fun i v hv => ?_⟩
            · rw [cell_of_row _ _ _ _ _ _ L5.blk, set_off _ (by omega)]; exact He14.out
            · rw [World.cell?_of_block (w := w5) (heap_setCell_other _ _ _ _ hgb)]; exact hS5.2.1
            · rw [World.cell?_of_block (w := w5) (heap_setCell_other _ _ _ _ hlb)]; exact hS5.2.2 i v hv
          have f13b : w3.cell? ⟨b, 15, none⟩ = some (.slice a13 k c13) := by rw [World.cell?_of_block (w := wr.drew) (hP3.block b (lt_of_block HL2.out.blk) (by rw [HL2.out.kb]; simp <;> omega))]; exact f13
          have f13c : (w3.alloc (.cells E 82)).cell? ⟨b, 15, none⟩ = some (.slice a13 k c13) := by rw [World.cell?_of_block (w := w3) (hB3.block b (lt_of_block ((hP3.block b (lt_of_block HL2.out.blk) (by rw [HL2.out.kb]; simp <;> omega)).trans HL2.out.blk)))]; exact f13b
          have HD5 := hide hdd
          have HL5 := hide L5
          clear hE hdd L5 hb3 hz3 hg3 R3 P3
          refine hKK.out _ _ (hS3) (fun hHeld => ?_)
          clear hKK KK
          try simp only [List.getElem_toArray, List.getElem_cons_zero, List.getElem_cons_succ, Act.put, List.setIfInBounds_toArray, List.set_cons_zero, List.set_cons_succ]
          refine wpAnyH_ready (rs := [4, 17]) (by kernel_rfl) (by simp) ?_
          refine AllReadyH.cons (o := _) rfl (fun KK hKK => ?_) (AllReadyH.cons (o := _) rfl (fun KK hKK => ?_) AllReadyH.nil)
          · go_simp
            refine hKK.out _ _ (hS3) (fun hHeld => ?_)
            clear hKK KK
            try simp only [List.getElem_toArray, List.getElem_cons_zero, List.getElem_cons_succ, Act.put, List.setIfInBounds_toArray, List.set_cons_zero, List.set_cons_succ]
            refine wpAnyH_ready (rs := [17]) (by kernel_rfl) (by simp) ?_
            refine AllReadyH.cons (o := _) rfl (fun KK hKK => ?_) AllReadyH.nil
            refine ite_wanted (by kernel_rfl) ?_
            refine wp_build_one 26 82 (.tmp 54) rfl E rfl 22 (by omega) (by omega) Try.underlying26 info_Entry HEs ?_
            refine hKK.out _ _ (hS4) (fun hHeld => ?_)
            clear hKK KK
            try simp only [List.getElem_toArray, List.getElem_cons_zero, List.getElem_cons_succ, Act.put, List.setIfInBounds_toArray, List.set_cons_zero, List.set_cons_succ]
            refine wpAnyH_ready (rs := [18]) (by kernel_rfl) (by simp) ?_
            refine AllReadyH.cons (o := _) rfl (fun KK hKK => ?_) AllReadyH.nil
            refine ite_wanted (by kernel_rfl) ?_
            refine wp_app_run (.tmp 42) (.tmp 55) 26 26 rfl (.slice a13 k c13) (.slice (some ⟨w3.heap.size, 0, none⟩) 1 1) (.slice a5 (k + 1) c5) w5 rfl rfl hrun ?_
            refine hKK.out _ _ (hS5) (fun hHeld => ?_)
            clear hKK KK
            try simp only [List.getElem_toArray, List.getElem_cons_zero, List.getElem_cons_succ, Act.put, List.setIfInBounds_toArray, List.set_cons_zero, List.set_cons_succ]
            refine wpAnyH_take (i := 19) (oi := _) (v := ?v1037) rfl (by kernel_rfl) (by kernel_rfl) (by kernel_rfl) (fun _ _ _ h => h) (Or.inl ⟨by rfl, ?y1037⟩) (by assumption) ?r1037
            case y1037 => (intro w hSw; (try dsimp only at hSw); go_simp; try with_reducible rfl)
            try simp only [List.getElem_toArray, List.getElem_cons_zero, List.getElem_cons_succ, Act.put, List.setIfInBounds_toArray, List.set_cons_zero, List.set_cons_succ]
            refine wpAnyH_take (i := 20) (oi := _) (v := ?v1038) rfl (by kernel_rfl) (by kernel_rfl) (by kernel_rfl) (fun _ _ _ h => h) (Or.inl ⟨by rfl, ?y1038⟩) (by assumption) ?r1038
            case y1038 => (intro w hSw; (try dsimp only at hSw); go_simp; try with_reducible rfl)
            try simp only [List.getElem_toArray, List.getElem_cons_zero, List.getElem_cons_succ, Act.put, List.setIfInBounds_toArray, List.set_cons_zero, List.set_cons_succ]
            refine wpAnyH_ready (rs := [21]) (by kernel_rfl) (by simp) ?_
            refine AllReadyH.cons (o := _) rfl (fun KK hKK => ?_) AllReadyH.nil
            go_simp
            refine hKK.out _ _ (hS6) (fun hHeld => ?_)
            clear hKK KK
            try simp only [List.getElem_toArray, List.getElem_cons_zero, List.getElem_cons_succ, Act.put, List.setIfInBounds_toArray, List.set_cons_zero, List.set_cons_succ]
            refine wpAnyH_done (by kernel_rfl) (NoPanic.normal ?_) _
            obtain ⟨W6, hW6⟩ : ∃ W6, w5.setCell ⟨b, 15, none⟩ (.slice a5 (k + 1) c5) = W6 := ⟨_, rfl⟩
            rw [hW6] at HL5 ⊢
            clear hS0 hS3 hS4 hS5 hS6 hHeld f13 f13b f13c hc5 hf5 hrun
            go_wp2
            go_roundw
            case rel =>
              refine ⟨k + 1, by omega, by go_num, K5, _, _, _, HL5.out, by omega, ?_⟩
              rw [List.map_append, take_snoc hx, List.map_append, hd, List.map_singleton, HD5.out, List.map_singleton]
            simp [intOf]; omega
          · refine ite_wanted (by kernel_rfl) ?_
            refine wp_build_one 26 82 (.tmp 54) rfl E rfl 22 (by omega) (by omega) Try.underlying26 info_Entry HEs ?_
            refine hKK.out _ _ (hS4) (fun hHeld => ?_)
            clear hKK KK
            try simp only [List.getElem_toArray, List.getElem_cons_zero, List.getElem_cons_succ, Act.put, List.setIfInBounds_toArray, List.set_cons_zero, List.set_cons_succ]
            refine wpAnyH_ready (rs := [4]) (by kernel_rfl) (by simp) ?_
            refine AllReadyH.cons (o := _) rfl (fun KK hKK => ?_) AllReadyH.nil
            go_simp
            refine hKK.out _ _ (hS4) (fun hHeld => ?_)
            clear hKK KK
            try simp only [List.getElem_toArray, List.getElem_cons_zero, List.getElem_cons_succ, Act.put, List.setIfInBounds_toArray, List.set_cons_zero, List.set_cons_succ]
            refine wpAnyH_ready (rs := [18]) (by kernel_rfl) (by simp) ?_
            refine AllReadyH.cons (o := _) rfl (fun KK hKK => ?_) AllReadyH.nil
            refine ite_wanted (by kernel_rfl) ?_
            refine wp_app_run (.tmp 42) (.tmp 55) 26 26 rfl (.slice a13 k c13) (.slice (some ⟨w3.heap.size, 0, none⟩) 1 1) (.slice a5 (k + 1) c5) w5 rfl rfl hrun ?_
            refine hKK.out _ _ (hS5) (fun hHeld => ?_)
            clear hKK KK
            try simp only [List.getElem_toArray, List.getElem_cons_zero, List.getElem_cons_succ, Act.put, List.setIfInBounds_toArray, List.set_cons_zero, List.set_cons_succ]
            refine wpAnyH_take (i := 19) (oi := _) (v := ?v1039) rfl (by kernel_rfl) (by kernel_rfl) (by kernel_rfl) (fun _ _ _ h => h) (Or.inl ⟨by rfl, ?y1039⟩) (by assumption) ?r1039
            case y1039 => (intro w hSw; (try dsimp only at hSw); go_simp; try with_reducible rfl)
            try simp only [List.getElem_toArray, List.getElem_cons_zero, List.getElem_cons_succ, Act.put, List.setIfInBounds_toArray, List.set_cons_zero, List.set_cons_succ]
            refine wpAnyH_take (i := 20) (oi := _) (v := ?v1040) rfl (by kernel_rfl) (by kernel_rfl) (by kernel_rfl) (fun _ _ _ h => h) (Or.inl ⟨by rfl, ?y1040⟩) (by assumption) ?r1040
            case y1040 => (intro w hSw; (try dsimp only at hSw); go_simp; try with_reducible rfl)
            try simp only [List.getElem_toArray, List.getElem_cons_zero, List.getElem_cons_succ, Act.put, List.setIfInBounds_toArray, List.set_cons_zero, List.set_cons_succ]
            refine wpAnyH_ready (rs := [21]) (by kernel_rfl) (by simp) ?_
            refine AllReadyH.cons (o := _) rfl (fun KK hKK => ?_) AllReadyH.nil
            go_simp
            refine hKK.out _ _ (hS6) (fun hHeld => ?_)
            clear hKK KK
            try simp only [List.getElem_toArray, List.getElem_cons_zero, List.getElem_cons_succ, Act.put, List.setIfInBounds_toArray, List.set_cons_zero, List.set_cons_succ]
            refine wpAnyH_done (by kernel_rfl) (NoPanic.normal ?_) _
            obtain ⟨W6, hW6⟩ : ∃ W6, w5.setCell ⟨b, 15, none⟩ (.slice a5 (k + 1) c5) = W6 := ⟨_, rfl⟩
            rw [hW6] at HL5 ⊢
            clear hS0 hS3 hS4 hS5 hS6 hHeld f13 f13b f13c hc5 hf5 hrun
            go_wp2
            go_roundw
            case rel =>
              refine ⟨k + 1, by omega, by go_num, K5, _, _, _, HL5.out, by omega, ?_⟩
              rw [List.map_append, take_snoc hx, List.map_append, hd, List.map_singleton, HD5.out, List.map_singleton]
            simp [intOf]; omega
    · obtain rfl : k = n := by omega
      obtain ⟨a13, c13, e13, r13⟩ := L.row
      have f13 : wr.cell? ⟨b, 15, none⟩ = some (.slice a13 k c13) := by rw [cell_of_row _ _ _ _ _ _ L.blk]; exact e13
      rw [List.take_of_length_le (by omega)] at hd
      have HE := hide (And.intro e13 (And.intro L hd))
      clear L hd e13 r13 HI
      go_wp2
      go_ret
      exact ⟨K1, C1, a13, c13, ps, ds, rfl, HE.out.1, HE.out.2.1, HE.out.2.2⟩
end Go.Proofs.Ytecbidaljchmoaa
