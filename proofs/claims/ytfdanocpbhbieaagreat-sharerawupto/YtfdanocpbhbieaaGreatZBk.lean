import Derived.Test.YtfdanocpbhbieaaGreatZEq
import Derived.Test.YtfdanocpbhbieaaGreatLyA
namespace Go.Proofs.YtfdanocpbhbieaaGreat.Z
open Go.RowKit

set_option maxRecDepth 100000 in
set_option maxHeartbeats 8000000 in
theorem backActs_any (w : World) (s : Sli Acd) (hs : Acts w s) (B : Nat) (a : Option Addr) (c : Nat) (ys : List Acd) (hl : AcsLent B w a c s.xs ys) :
    Calls Tryz.prog 11 #[.slice a s.n c, .slice s.p s.n s.c] w fun e w' => e = .returned (.bool true) ∧ Below w.heap.size w w' := by
  obtain ⟨sp, m, cap, xs⟩ := s
  have hm : xs.length = m := hs.row.len
  have hmost : m ≤ 4194304 := hs.row.most
  have hym : ys.length = m := by have h := congrArg List.length hl.same; simp at h; rw [h]; exact hm
  obtain ⟨⟨g, rfl⟩, hcap⟩ := hl.row.some
  have hcl := hl.row.cel (fun _ => rfl)
  have HX := hide hs.row.cel
  have HV := hide hs.each
  have HL := hide hl.each
  have HS := hide hl.same
  simp only at hm hcl hcap HX HV HL HS ⊢
  have HCl := hide hcl
  have HM := hide hm
  have HYm := hide hym
  rw [hym] at hcap
  obtain ⟨M, hMi, hMn⟩ : ∃ M : Nat, (m : Int) + 9 = (M : Int) ∧ M = m + 9 := ⟨m + 9, by omega, rfl⟩
  have hM1 : M ≤ c := by omega
  have hM2 : m ≤ M := by omega
  have HMn := hide hMn
  have HB0 : Hid (Below w.heap.size w w) := Below.refl _ _
  clear hs hl hcl hm hMn hym
  go_enter Tryz.func11, Tryz.ntmps11
  go_wp2
  go_loopw [5] (fun i wr => ∃ k : Nat, k ≤ m ∧ i = .int .i64 k ∧ Hid (Below w.heap.size w wr)) (fun i _ => m - (intOf i).toNat)
  case atStart => exact ⟨0, Nat.zero_le _, rfl, HB0⟩
  case round =>
    obtain ⟨k, hk, rfl, HB⟩ := hrel
    by_cases hlt : k < m
    · have hlt' : (k : Int) < (m : Int) := by omega
      have k0 : (0 : Int) ≤ (k : Int) := by omega
      obtain ⟨x, hx⟩ : ∃ x, xs[k]? = some x := ⟨_, List.getElem?_eq_getElem (by rw [HM.out]; exact hlt)⟩
      obtain ⟨y, hy⟩ : ∃ y, ys[k]? = some y := ⟨_, List.getElem?_eq_getElem (by rw [HYm.out]; exact hlt)⟩
      have hd : y.d = x.d := by
        have h := congrArg (·[k]?) HS.out
        simp only [List.getElem?_map, hx, hy, Option.map_some, Option.some.injEq] at h
        exact h
      obtain ⟨gb, o, rfl, hbl, hcx⟩ := HX.out.get (i := k) (r := x.list) (by simp [hx])
      obtain ⟨g', o', e', hgl, hcy⟩ := HCl.out.get (i := k) (r := y.list) (by rw [List.getElem?_map, List.getElem?_append_left (by rw [HYm.out]; exact hlt), hy]; rfl)
      cases e'
      have HC : Hid (∀ W, Below w.heap.size w W → (W.cell? ⟨g, k * 15, none⟩ = some (.int .i64 y.till) ∧ W.cell? ⟨g, k * 15 + 1, none⟩ = some (.int .u64 y.num) ∧ W.cell? ⟨g, k * 15 + 2, none⟩ = some (.int .i64 y.kind) ∧ W.cell? ⟨g, k * 15 + 3, none⟩ = some (.bool y.sure) ∧ W.cell? ⟨g, k * 15 + 4, none⟩ = some (.slice y.lines.p y.lines.n y.lines.c) ∧ W.cell? ⟨g, k * 15 + 5, none⟩ = some (.slice y.guards.p y.guards.n y.guards.c) ∧ W.cell? ⟨g, k * 15 + 6, none⟩ = some (.slice y.sets.p y.sets.n y.sets.c) ∧ W.cell? ⟨g, k * 15 + 7, none⟩ = some (.int .i64 y.mg) ∧ W.cell? ⟨g, k * 15 + 8, none⟩ = some (.slice y.other.p y.other.n y.other.c) ∧ W.cell? ⟨g, k * 15 + 9, none⟩ = some (.int .i64 y.ra) ∧ W.cell? ⟨g, k * 15 + 10, none⟩ = some (.int .i64 y.rb) ∧ W.cell? ⟨g, k * 15 + 11, none⟩ = some (.int .i64 y.rd) ∧ W.cell? ⟨g, k * 15 + 12, none⟩ = some (.int .i64 y.to) ∧ W.cell? ⟨g, k * 15 + 13, none⟩ = some (.int .u64 y.gen) ∧ W.cell? ⟨g, k * 15 + 14, none⟩ = some (.slice y.rights.p y.rights.n y.rights.c)) ∧ W.cell? ⟨gb, o + k * 15, none⟩ = some (.int .i64 x.till) ∧ W.cell? ⟨gb, o + k * 15 + 1, none⟩ = some (.int .u64 x.num) ∧ W.cell? ⟨gb, o + k * 15 + 2, none⟩ = some (.int .i64 x.kind) ∧ W.cell? ⟨gb, o + k * 15 + 3, none⟩ = some (.bool x.sure) ∧ W.cell? ⟨gb, o + k * 15 + 4, none⟩ = some (.slice x.lines.p x.lines.n x.lines.c) ∧ W.cell? ⟨gb, o + k * 15 + 5, none⟩ = some (.slice x.guards.p x.guards.n x.guards.c) ∧ W.cell? ⟨gb, o + k * 15 + 6, none⟩ = some (.slice x.sets.p x.sets.n x.sets.c) ∧ W.cell? ⟨gb, o + k * 15 + 7, none⟩ = some (.int .i64 x.mg) ∧ W.cell? ⟨gb, o + k * 15 + 8, none⟩ = some (.slice x.other.p x.other.n x.other.c) ∧ W.cell? ⟨gb, o + k * 15 + 9, none⟩ = some (.int .i64 x.ra) ∧ W.cell? ⟨gb, o + k * 15 + 10, none⟩ = some (.int .i64 x.rb) ∧ W.cell? ⟨gb, o + k * 15 + 11, none⟩ = some (.int .i64 x.rd) ∧ W.cell? ⟨gb, o + k * 15 + 12, none⟩ = some (.int .i64 x.to) ∧ W.cell? ⟨gb, o + k * 15 + 13, none⟩ = some (.int .u64 x.gen) ∧ W.cell? ⟨gb, o + k * 15 + 14, none⟩ = some (.slice x.rights.p x.rights.n x.rights.c)) := fun W hb => by
        have fy : ∀ (i : Nat) (v : Value), y.list[i]? = some v → W.cell? ⟨g, k * 15 + i, none⟩ = some v := fun i v hv => by have h := (hb.cell (p := ⟨g, 0 + k * 15 + i, none⟩) hgl).trans (hcy i v hv); simpa using h
        have fx : ∀ (i : Nat) (v : Value), x.list[i]? = some v → W.cell? ⟨gb, o + k * 15 + i, none⟩ = some v := fun i v hv => (hb.cell (p := ⟨gb, o + k * 15 + i, none⟩) hbl).trans (hcx i v hv)
        exact ⟨⟨fy 0 _ rfl, fy 1 _ rfl, fy 2 _ rfl, fy 3 _ rfl, fy 4 _ rfl, fy 5 _ rfl, fy 6 _ rfl, fy 7 _ rfl, fy 8 _ rfl, fy 9 _ rfl, fy 10 _ rfl, fy 11 _ rfl, fy 12 _ rfl, fy 13 _ rfl, fy 14 _ rfl⟩, fx 0 _ rfl, fx 1 _ rfl, fx 2 _ rfl, fx 3 _ rfl, fx 4 _ rfl, fx 5 _ rfl, fx 6 _ rfl, fx 7 _ rfl, fx 8 _ rfl, fx 9 _ rfl, fx 10 _ rfl, fx 11 _ rfl, fx 12 _ rfl, fx 13 _ rfl, fx 14 _ rfl⟩
      have hyl := HL.out y (List.mem_of_getElem? hy)
      have hxo := HV.out x (List.mem_of_getElem? hx)
      have HEq : Hid (∀ W, Below w.heap.size w W → Calls Tryz.prog 35 #[.agg #[.int .i64 y.till, .int .u64 y.num, .int .i64 y.kind, .bool y.sure, .slice y.lines.p y.lines.n y.lines.c, .slice y.guards.p y.guards.n y.guards.c, .slice y.sets.p y.sets.n y.sets.c, .int .i64 y.mg, .slice y.other.p y.other.n y.other.c, .int .i64 y.ra, .int .i64 y.rb, .int .i64 y.rd, .int .i64 y.to, .int .u64 y.gen, .slice y.rights.p y.rights.n y.rights.c], .agg #[.int .i64 x.till, .int .u64 x.num, .int .i64 x.kind, .bool x.sure, .slice x.lines.p x.lines.n x.lines.c, .slice x.guards.p x.guards.n x.guards.c, .slice x.sets.p x.sets.n x.sets.c, .int .i64 x.mg, .slice x.other.p x.other.n x.other.c, .int .i64 x.ra, .int .i64 x.rb, .int .i64 x.rd, .int .i64 x.to, .int .u64 x.gen, .slice x.rights.p x.rights.n x.rights.c]] W fun e w' => e = .returned (.bool true) ∧ Below w.heap.size w w') := fun W hb => (eqAct_same W y x ((lent_acd hyl hxo hd).below hb) (hxo.below hb) hd _ _ rfl rfl).mono fun _ _ ⟨he, h⟩ => ⟨he, hb.trans (h.mono hb.size)⟩
      have HBk : Hid (∀ W, Below w.heap.size w W → Calls Tryz.prog 36 #[.agg #[.int .i64 y.till, .int .u64 y.num, .int .i64 y.kind, .bool y.sure, .slice y.lines.p y.lines.n y.lines.c, .slice y.guards.p y.guards.n y.guards.c, .slice y.sets.p y.sets.n y.sets.c, .int .i64 y.mg, .slice y.other.p y.other.n y.other.c, .int .i64 y.ra, .int .i64 y.rb, .int .i64 y.rd, .int .i64 y.to, .int .u64 y.gen, .slice y.rights.p y.rights.n y.rights.c], .agg #[.int .i64 x.till, .int .u64 x.num, .int .i64 x.kind, .bool x.sure, .slice x.lines.p x.lines.n x.lines.c, .slice x.guards.p x.guards.n x.guards.c, .slice x.sets.p x.sets.n x.sets.c, .int .i64 x.mg, .slice x.other.p x.other.n x.other.c, .int .i64 x.ra, .int .i64 x.rb, .int .i64 x.rd, .int .i64 x.to, .int .u64 x.gen, .slice x.rights.p x.rights.n x.rights.c]] W fun e w' => e = .returned (.bool true) ∧ Below w.heap.size w w') := fun W hb => (backAct_any W B y x (hyl.below hb) (hxo.below hb) hd _ _ rfl rfl).mono fun _ _ ⟨he, h⟩ => ⟨he, hb.trans (h.mono hb.size)⟩
      clear hx hy hcx hcy hyl hxo hd
      obtain ⟨⟨y0, y1, y2, y3, y4, y5, y6, y7, y8, y9, y10, y11, y12, y13, y14⟩, x0, x1, x2, x3, x4, x5, x6, x7, x8, x9, x10, x11, x12, x13, x14⟩ := HC.out wr HB.out
      have HBd : Hid (Below w.heap.size w wr.drew) := HB.out.drew
      go_wp2
      go_region_held3 (fun W => (W.cell? ⟨g, k * 15, none⟩ = some (.int .i64 y.till) ∧ W.cell? ⟨g, k * 15 + 1, none⟩ = some (.int .u64 y.num) ∧ W.cell? ⟨g, k * 15 + 2, none⟩ = some (.int .i64 y.kind) ∧ W.cell? ⟨g, k * 15 + 3, none⟩ = some (.bool y.sure) ∧ W.cell? ⟨g, k * 15 + 4, none⟩ = some (.slice y.lines.p y.lines.n y.lines.c) ∧ W.cell? ⟨g, k * 15 + 5, none⟩ = some (.slice y.guards.p y.guards.n y.guards.c) ∧ W.cell? ⟨g, k * 15 + 6, none⟩ = some (.slice y.sets.p y.sets.n y.sets.c) ∧ W.cell? ⟨g, k * 15 + 7, none⟩ = some (.int .i64 y.mg) ∧ W.cell? ⟨g, k * 15 + 8, none⟩ = some (.slice y.other.p y.other.n y.other.c) ∧ W.cell? ⟨g, k * 15 + 9, none⟩ = some (.int .i64 y.ra) ∧ W.cell? ⟨g, k * 15 + 10, none⟩ = some (.int .i64 y.rb) ∧ W.cell? ⟨g, k * 15 + 11, none⟩ = some (.int .i64 y.rd) ∧ W.cell? ⟨g, k * 15 + 12, none⟩ = some (.int .i64 y.to) ∧ W.cell? ⟨g, k * 15 + 13, none⟩ = some (.int .u64 y.gen) ∧ W.cell? ⟨g, k * 15 + 14, none⟩ = some (.slice y.rights.p y.rights.n y.rights.c)) ∧ W.cell? ⟨gb, o + k * 15, none⟩ = some (.int .i64 x.till) ∧ W.cell? ⟨gb, o + k * 15 + 1, none⟩ = some (.int .u64 x.num) ∧ W.cell? ⟨gb, o + k * 15 + 2, none⟩ = some (.int .i64 x.kind) ∧ W.cell? ⟨gb, o + k * 15 + 3, none⟩ = some (.bool x.sure) ∧ W.cell? ⟨gb, o + k * 15 + 4, none⟩ = some (.slice x.lines.p x.lines.n x.lines.c) ∧ W.cell? ⟨gb, o + k * 15 + 5, none⟩ = some (.slice x.guards.p x.guards.n x.guards.c) ∧ W.cell? ⟨gb, o + k * 15 + 6, none⟩ = some (.slice x.sets.p x.sets.n x.sets.c) ∧ W.cell? ⟨gb, o + k * 15 + 7, none⟩ = some (.int .i64 x.mg) ∧ W.cell? ⟨gb, o + k * 15 + 8, none⟩ = some (.slice x.other.p x.other.n x.other.c) ∧ W.cell? ⟨gb, o + k * 15 + 9, none⟩ = some (.int .i64 x.ra) ∧ W.cell? ⟨gb, o + k * 15 + 10, none⟩ = some (.int .i64 x.rb) ∧ W.cell? ⟨gb, o + k * 15 + 11, none⟩ = some (.int .i64 x.rd) ∧ W.cell? ⟨gb, o + k * 15 + 12, none⟩ = some (.int .i64 x.to) ∧ W.cell? ⟨gb, o + k * 15 + 13, none⟩ = some (.int .u64 x.gen) ∧ W.cell? ⟨gb, o + k * 15 + 14, none⟩ = some (.slice x.rights.p x.rights.n x.rights.c)) (go_keep) (first | (go_at_call 36; refine (HBk.out _ HB1.out).mono ?_; rintro e v2 ⟨rfl, hb⟩; have HB2 := hide hb; clear y0 y1 y2 y3 y4 y5 y6 y7 y8 y9 y10 y11 y12 y13 y14 x0 x1 x2 x3 x4 x5 x6 x7 x8 x9 x10 x11 x12 x13 x14; obtain ⟨⟨y0, y1, y2, y3, y4, y5, y6, y7, y8, y9, y10, y11, y12, y13, y14⟩, x0, x1, x2, x3, x4, x5, x6, x7, x8, x9, x10, x11, x12, x13, x14⟩ := HC.out v2 hb; clear hb) | (go_at_call 35; refine (HEq.out _ HBd.out).mono ?_; rintro e v1 ⟨rfl, hb⟩; have HB1 := hide hb; clear y0 y1 y2 y3 y4 y5 y6 y7 y8 y9 y10 y11 y12 y13 y14 x0 x1 x2 x3 x4 x5 x6 x7 x8 x9 x10 x11 x12 x13 x14; obtain ⟨⟨y0, y1, y2, y3, y4, y5, y6, y7, y8, y9, y10, y11, y12, y13, y14⟩, x0, x1, x2, x3, x4, x5, x6, x7, x8, x9, x10, x11, x12, x13, x14⟩ := HC.out v1 hb; clear hb) | fail)
      all_goals (go_wp2; go_roundw)
      all_goals (first | exact ⟨k + 1, by omega, by go_num, HB2⟩ | (simp [intOf]; omega))
    · obtain rfl : k = m := by omega
      have e1 : ¬ (k : Int) < (k : Int) := by omega
      have HBz := hide HB.out
      clear HB
      go_wp2
      go_loopw [7] (fun i wr => ∃ q : Nat, q ≤ 9 ∧ i = .int .i64 ((k + q : Nat) : Int) ∧ Hid (Below w.heap.size w wr)) (fun i _ => k + 9 - (intOf i).toNat)
      case atStart => exact ⟨0, by omega, by simp, HBz⟩
      case round =>
        obtain ⟨q, hq9, rfl, HB⟩ := hrel
        by_cases hlt : q < 9
        · have hlt' : ((k + q : Nat) : Int) < (M : Int) := by have := HMn.out; omega
          have i0 : (0 : Int) ≤ ((k + q : Nat) : Int) := by omega
          obtain ⟨b, o, e, hbl, hc⟩ := HCl.out.get (i := k + q) (r := mkA.list) (by
            rw [List.getElem?_map, List.getElem?_append_right (by rw [HYm.out]; omega), HYm.out, Nat.add_sub_cancel_left, List.getElem?_replicate_of_lt hlt]
            rfl)
          cases e
          have a1 : wr.cell? ⟨g, (k + q) * 15 + 1, none⟩ = some (.int .u64 0) := by have h := (HB.out.cell (p := ⟨g, 0 + (k + q) * 15 + 1, none⟩) hbl).trans (hc 1 _ rfl); simpa [mkA] using h
          have a2 : wr.cell? ⟨g, (k + q) * 15 + 2, none⟩ = some (.int .i64 777) := by have h := (HB.out.cell (p := ⟨g, 0 + (k + q) * 15 + 2, none⟩) hbl).trans (hc 2 _ rfl); simpa [mkA] using h
          have a4 : wr.cell? ⟨g, (k + q) * 15 + 4, none⟩ = some (.slice none 0 0) := by have h := (HB.out.cell (p := ⟨g, 0 + (k + q) * 15 + 4, none⟩) hbl).trans (hc 4 _ rfl); simpa [mkA] using h
          clear hc
          obtain ⟨d, hd⟩ : ∃ d, k + q = d := ⟨_, rfl⟩
          have HQ := hide hd
          have hd2 : d + 1 ≤ 1073741900 := by omega
          rw [hd] at hlt' i0 a1 a2 a4 ⊢
          clear hd
          go_wp2
          go_roundw
          case rel => exact ⟨q + 1, by omega, by have := HQ.out; rw [← this]; go_num, HB⟩
          case measure => have := HQ.out; simp [intOf]; omega
        · have e1 : ¬ ((k + q : Nat) : Int) < (M : Int) := by have := HMn.out; omega
          obtain ⟨d, hd⟩ : ∃ d, k + q = d := ⟨_, rfl⟩
          rw [hd] at e1 ⊢
          clear hd
          go_wp2
          go_ret
          exact ⟨rfl, HB.out⟩
end Go.Proofs.YtfdanocpbhbieaaGreat.Z
