import Derived.Test.YtfdanocpbhbieaaGreatShC
namespace Go.Proofs.YtfdanocpbhbieaaGreat
open Go.RowKit Go.Shelf
attribute [local go_sem] Oper.semAt_some

set_option maxRecDepth 100000 in
set_option maxHeartbeats 4000000 in
theorem addUp_lines (w : World) (b nn : Nat) (l : List Tri) (hT : Tal w b nn l) (p : Option Addr) (n cap : Nat) (xs : List Lin) (hlen : xs.length = n) (hreach : n ≤ 1099511627776) (hxs : ∀ x ∈ xs, LinWf x) (hL : Lins w.heap.size w p xs) (hm : nn + n ≤ 1099511627776) :
    Calls Tryz.prog 88 #[.map (some b), .slice p n cap] w fun e w' => e = .returned (.tuple #[]) ∧ Tal w' b (nn + (needT xs).length) (addsT l (needT xs)) ∧ w.grownBy w' (some b) := by
  have HR := hide (lines_rights w p n cap xs hlen hreach hxs hL)
  have HT := hide hT
  have hnl := needT_length xs
  obtain ⟨rs, hrs⟩ : ∃ rs, needT xs = rs := ⟨_, rfl⟩
  have HWf : Hid (∀ r ∈ rs, TriWf r) := by show ∀ r ∈ rs, TriWf r; rw [← hrs]; exact needT_wf hxs
  rw [hrs] at HR hnl ⊢
  obtain ⟨len, hle⟩ : ∃ len, rs.length = len := ⟨_, rfl⟩
  rw [hle] at HR hnl ⊢
  have HLe := hide hle
  have hmm : nn + len ≤ 1099511627776 := by omega
  clear hT hL hxs hlen hrs hle hm hnl hreach
  go_enter Tryz.func88, Tryz.ntmps88
  go_wp2_with (first | go_invoke | fail)
  refine HR.out.mono ?_
  rintro e w1 ⟨v, rfl, hrow, hb⟩
  obtain ⟨rp, rc, rfl⟩ := slice_form hrow
  have HRl := hide (Rts.row hrow HLe.out HWf.out)
  have HBw := hide hb
  have HT1 : Hid (Tal w1 b nn l) := HT.out.below hb
  have H0 : Hid (Tal w1 b (nn + 0) (addsT l (rs.take 0)) ∧ w1.grownBy w1 (some b)) := ⟨HT1.out, below_grown (Below.refl _ _) _⟩
  clear hrow hb
  go_wp2
  go_loopw [10] (fun i wr => ∃ j : Nat, j ≤ len ∧ i = .int .i64 j ∧ Hid (Tal wr b (nn + j) (addsT l (rs.take j)) ∧ w1.grownBy wr (some b))) (fun i _ => len - (intOf i).toNat)
  case atStart => exact ⟨0, Nat.zero_le _, rfl, H0⟩
  case round =>
    clear H0
    obtain ⟨j, hj, rfl, HI⟩ := hrel
    by_cases hlt : j < len
    · have hlt' : (j : Int) < (len : Int) := by omega
      have i0 : (0 : Int) ≤ (j : Int) := by omega
      obtain ⟨x, hx⟩ : ∃ x, rs[j]? = some x := ⟨_, List.getElem?_eq_getElem (by rw [HRl.out.len]; exact hlt)⟩
      have hcel := cel_grown HRl.out.cel (tal_nocells HT1.out) HI.out.2
      obtain ⟨gb, o, rfl, hgl, hcc⟩ := hcel.get (i := j) (r := tric x) (by simp [hx])
      have hwf := HRl.out.wf x (List.mem_of_getElem? hx)
      obtain ⟨r, hr⟩ : ∃ r : R64, r.1 = x := ⟨⟨x, hwf⟩, rfl⟩
      have HRx := hide hr
      have HX := hide hx
      obtain ⟨xa, xb, xn⟩ := x
      have k0 : wr.cell? ⟨gb, o + j * 3, none⟩ = some (.int .i64 xa) := hcc 0 _ rfl
      have k1 : wr.cell? ⟨gb, o + j * 3 + 1, none⟩ = some (.int .i64 xb) := hcc 1 _ rfl
      have k2 : wr.cell? ⟨gb, o + j * 3 + 2, none⟩ = some (.int .i64 xn) := hcc 2 _ rfl
      clear hcc hcel hwf hx hr
      obtain ⟨w6, hw6⟩ : ∃ w6, wr.alloc (.cells #[.int .i64 xa, .int .i64 xb, .int .i64 xn] 82) = w6 := ⟨_, rfl⟩
      have HB6 : Hid (Below wr.heap.size wr w6) := by show Below _ _ _; rw [← hw6]; exact (Below.refl _ _).alloc (Nat.le_refl _) _
      have HG6 : Hid (w6.heap[wr.heap.size]? = some (.cells #[.int .i64 xa, .int .i64 xb, .int .i64 xn] 82 (0, 0))) := by show _ = _; rw [← hw6]; exact heap_alloc_new _ _
      have c0 : w6.cell? ⟨wr.heap.size, 0, none⟩ = some (.int .i64 xa) := by rw [← hw6]; simp
      have c1 : w6.cell? ⟨wr.heap.size, 1, none⟩ = some (.int .i64 xb) := by rw [← hw6]; simp
      have c2 : w6.cell? ⟨wr.heap.size, 2, none⟩ = some (.int .i64 xn) := by rw [← hw6]; simp
      have HK := hide (fun W => skindOf_any W xa xb xn)
      have HW6 := hide hw6
      have HFin : Hid (∀ w7, Below w6.heap.size w6 w7 → w7.cell? ⟨wr.heap.size, 0, none⟩ = some (.int .i64 xa) ∧ w7.cell? ⟨wr.heap.size, 1, none⟩ = some (.int .i64 xb) ∧ w7.cell? ⟨wr.heap.size, 2, none⟩ = some (.int .i64 xn) ∧ ∃ (c : Int) (v0 : Value) (st : Nat) (w8 w9 : World), (Instr.lookup 90 (.map (some b)) (.agg #[.int .i64 xa, .int .i64 xb]) false).run Tryz.prog w7 = .ok (.int .i64 c) w7 ∧ (Instr.mapEntry 90 (.map (some b)) (.agg #[.int .i64 xa, .int .i64 xb])).run Tryz.prog w7 = .ok (.tuple #[v0, .int .i64 st]) w8 ∧ (Instr.lookup 90 (.map (some b)) (.agg #[.int .i64 xa, .int .i64 xb]) false).run Tryz.prog w8 = .ok (.int .i64 c) w8 ∧ (Instr.entryStore 90 (.map (some b)) (.int .i64 st) (.int .i64 (IntKind.i64.wrap (c + xn)))).run Tryz.prog w8 = .ok () w9 ∧ (w8.cell? ⟨wr.heap.size, 0, none⟩ = some (.int .i64 xa) ∧ w8.cell? ⟨wr.heap.size, 1, none⟩ = some (.int .i64 xb) ∧ w8.cell? ⟨wr.heap.size, 2, none⟩ = some (.int .i64 xn)) ∧ (w9.cell? ⟨wr.heap.size, 0, none⟩ = some (.int .i64 xa) ∧ w9.cell? ⟨wr.heap.size, 1, none⟩ = some (.int .i64 xb) ∧ w9.cell? ⟨wr.heap.size, 2, none⟩ = some (.int .i64 xn)) ∧ Hid (Tal w9 b (nn + (j + 1)) (addsT l (rs.take (j + 1))) ∧ w1.grownBy w9 (some b))) := fun w7 hb7 => by
        have hg7 : w7.heap[wr.heap.size]? = _ := (hb7.block _ (ac_lt HG6.out)).trans HG6.out
        have hbW : Below wr.heap.size wr w7 := HB6.out.trans (hb7.mono HB6.out.size)
        have hT7 := HI.out.1.below hbW
        have hk : keyT r.1 = (xa, xb) := by rw [HRx.out]; rfl
        have hn : r.1.n = xn := by rw [HRx.out]
        obtain ⟨v0, st, w8, w9, h0, h1, h2, h3, h4, h5⟩ := hT7.put (by unfold maxLen; omega) r _ rfl
        have hl := hT7.look r.k
        rw [show r.k.1 = (xa, xb) from hk] at hl
        rw [hk, hn] at h3
        rw [hk] at h1 h2
        rw [← wrap_eq] at h3
        refine ⟨(ac3 hg7).1, (ac3 hg7).2.1, (ac3 hg7).2.2, _, v0, st, w8, w9, hl, h1, h2, h3, ac3 ((h0.block _ (ac_lt hg7) (hT7.ne hg7)).trans hg7), ac3 ((h5.block _ (ac_lt hg7) (hT7.ne hg7)).trans hg7), ?_, ?_⟩
        · rw [take_snoc HX.out, addsT_snoc, ← HRx.out]; exact h4
        · exact (HI.out.2.trans (below_grown hbW (some b))).trans h5
      clear hw6
      go_wp2
      rw [HW6.out]
      go_region_held3 (fun w' => w'.cell? ⟨wr.heap.size, 0, none⟩ = some (.int .i64 xa) ∧ w'.cell? ⟨wr.heap.size, 1, none⟩ = some (.int .i64 xb) ∧ w'.cell? ⟨wr.heap.size, 2, none⟩ = some (.int .i64 xn)) (go_keep) (first | (go_at_call 31; refine (HK.out _).mono ?_; rintro e w7 ⟨rfl, hb7⟩; obtain ⟨z0, z1, z2, c, v0, st, w8, w9, hl, hm, hl2, hs, ⟨y0, y1, y2⟩, ⟨x0, x1, x2⟩, HE⟩ := HFin.out w7 ((Below.refl _ w6).drew.trans hb7)) | fail)
      all_goals (go_wp2; go_roundw)
      all_goals (first | exact ⟨j + 1, by omega, by go_num, HE⟩ | (simp [intOf]; omega))
    · obtain rfl : j = len := by omega
      have e1 : ¬ (j : Int) < (j : Int) := by omega
      go_wp2
      go_end0
      refine ⟨rfl, ?_⟩
      have h := HI.out
      rw [List.take_of_length_le (by rw [HRl.out.len]; exact Nat.le_refl _)] at h
      exact ⟨h.1, (below_grown HBw.out _).trans h.2⟩
end Go.Proofs.YtfdanocpbhbieaaGreat
