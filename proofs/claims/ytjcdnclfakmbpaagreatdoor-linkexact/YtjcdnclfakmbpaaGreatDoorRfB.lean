import Derived.ProofKit
import Derived.Lib.SmallJoins
import Derived.LaidMore
import Derived.OpenShut
import Derived.SizedLaws
import Derived.Stop.Joined
import Derived.SevenTiedAt
import Derived.Deep.Strs
import Derived.Test.YtjcdnclfakmbpaaGreatDoorDkP
import Derived.Test.YtjcdnclfakmbpaaGreatDoorRows
import Derived.Test.YtjcdnclfakmbpaaGreatDoorCards
import Derived.Test.YtjcdnclfakmbpaaGreatDoorTie
import Derived.Test.YtjcdnclfakmbpaaGreatDoorCEyeP
import Derived.Test.YtjcdnclfakmbpaaGreatDoorVZs
import Derived.Test.YtjcdnclfakmbpaaGreatDoorCEye5
namespace Go.Proofs.YtjcdnclfakmbpaaGreatDoor
open Go.RowKit Go.ChangeShapes Go.WideShapes Go.ChangeAt Go.Deep
theorem Tryz.cells32 : Tryz.prog.cellsOf 119 = 1 := by kernel_rfl
theorem Tryz.own : ownKnob Tryz.prog.godebug = none := by kernel_rfl
theorem Tryz.laidOut : laidOutB Tryz.prog = true := by kernel_rfl
theorem Tryz.gT : Tryz.prog.globalNamed "till/code.sumSteps" = some 0 := by kernel_rfl
theorem Tryz.tT : (Tryz.prog.globals[0]?).map (·.type) = some 145 := by kernel_rfl
theorem door_met (os : Os) (args : Array Value) : laidMetH Tryz.prog [("till/code.sumSteps", Rows.laid_till_code_sumSteps)] ((World.doorLaid Tryz.prog 400 os).forCall (fun _ _ => 0) ⟨#[], args, []⟩).memory :=
  laidMetH_of_parts3 (fuel := 8) (laidMet_of_run' 8 (by kernel_rfl) (by kernel_rfl)) (by kernel_rfl) (by kernel_rfl)
set_option maxRecDepth 100000 in
theorem tab_of_laid {W : World} (h : laidMetH Tryz.prog [("till/code.sumSteps", Rows.laid_till_code_sumSteps)] W) : C.Tab W := by
  rw [MakeChecks.laidMetH_plain _ _ _ (by kernel_rfl)] at h
  obtain ⟨ps, ⟨g0, t0, cs0, f0, p0, q0, hg0, ht0, hv0, hd0, _⟩, _⟩ := h
  obtain rfl := Option.some.inj (Tryz.gT.symm.trans hg0)
  obtain rfl := Option.some.inj (Tryz.tT.symm.trans ht0)
  obtain ⟨xs, m1, rfl, hx1, hlen, hn3, hel⟩ := DataW.trod_array Tryz.underlying145 hd0
  have hm : C.tab.map (fun n : Nat => (DataW.lit (.int .u32 (n : Int)) : DataW Unit)) = xs.map (fun x => x.fst) := by
    have h1 := (Prod.mk.inj hx1).1
    exact DataW.agg.inj h1
  intro j hj
  have h0 := hel j hj
  obtain ⟨x, hx⟩ : ∃ x, xs[j]? = some x := ⟨xs[j]'(by rw [hn3]; exact hj), List.getElem?_eq_getElem _⟩
  rw [hx, Tryz.cells32] at h0
  obtain ⟨k, e1, e2, _⟩ := DataW.trod_int Tryz.underlying119 h0
  have ht : C.tab[j]? = some (C.tab.getD j 0) := by
    rw [List.getD, List.getElem?_eq_getElem (show j < C.tab.length from hj)]; rfl
  have hk : (DataW.lit (.int .u32 ((C.tab.getD j 0 : Nat) : Int)) : DataW Unit) = x.fst := by
    have := congrArg (fun l => l[j]?) hm
    simp only [List.getElem?_map, hx, ht, Option.map_some, Option.some.injEq] at this
    exact this
  rw [e2] at hk
  have hk' : ((C.tab.getD j 0 : Nat) : Int) = k := by simpa using hk
  have hc := World.var?_cell hg0 hv0 j
  have hcs : cs0[j]? = some (.int .u32 k) := by
    have := congrArg (fun l => l[0]?) e1
    simp [List.getElem?_drop] at this
    simpa using this
  rw [hk', ← hcs]
  exact hc
section
variable {H : Type} {enc : TypeId × Value → H} {w : World} {base : Nat} {held : Bool}
theorem Tryz.cells5 : Tryz.prog.cellsOf 5 = 1 := by kernel_rfl
theorem Tryz.bytes5 : Tryz.prog.bytesOf 5 = 1 := by kernel_rfl
theorem Tryz.cellsInt : Tryz.prog.cellsOf 3 = 1 := by kernel_rfl
theorem Tryz.cellsB : Tryz.prog.cellsOf 31 = 1 := by kernel_rfl
theorem addr_plain {a : Addr} {v : Value} (h : w.cell? a = some v) : ∃ g o, a = ⟨g, o, none⟩ := by
  obtain ⟨g, o, sp⟩ := a
  unfold World.cell? at h
  cases sp with
  | none => exact ⟨g, o, rfl⟩
  | some x => split at h <;> simp at h
theorem add_plain (g o j : Nat) : (⟨g, o, none⟩ : Addr).add j = ⟨g, o + j, none⟩ := by
  unfold Addr.add; split <;> simp_all
theorem bytes_open {fuel : Nat} {v : Value} {x : DataW H × List MemPlace} (h : DataW.trod enc Tryz.prog w base (fun _ => true) held fuel 31 [v] = some x) (hw : ∀ n ∈ x.1.weights Tryz.prog 31, n ≤ reachBytes) :
    ∃ sp l c xs, v = .slice sp l c ∧ xs.length = l ∧ l ≤ c ∧ c ≤ 140737488351232 ∧ Bytes w sp xs ∧ (xs = [] ∨ ∀ g o, sp = some ⟨g, o, none⟩ → g < w.heap.size) := by
  rcases open_ints Tryz.underlying31 Tryz.underlying5 Tryz.cells5 h with ⟨hcs, hx⟩ | ⟨a, len, cap, zs, hcs, _, hl, hm, hz, hx, hcell, hwz⟩
  · simp at hcs
    exact ⟨none, 0, 0, [], hcs, rfl, by omega, by omega, ⟨fun _ h => (by cases h), Or.inl rfl⟩, Or.inl rfl⟩
  · simp at hcs hz
    have h1 := hw (cap * 1) (by rw [hx]; simp [DataW.weights, Tryz.underlying31, Tryz.bytes5, lits, hz]; left; omega)
    have h2 : cap ≤ 140737488351232 := by simpa [reachBytes] using h1
    have hsm : ∀ y ∈ (zs.take len).map Int.toNat, y < 256 := by
      intro y hy
      simp only [List.mem_map] at hy
      obtain ⟨z, hz', rfl⟩ := hy
      have := bounds_u8 (hwz z (List.mem_of_mem_take hz'))
      omega
    by_cases h0 : len = 0
    · subst h0
      exact ⟨some a, 0, cap, [], hcs, rfl, hl, h2, ⟨fun _ h => (by cases h), Or.inl rfl⟩, Or.inl rfl⟩
    · obtain ⟨g, o, rfl⟩ : ∃ g o, a = ⟨g, o, none⟩ := by
        have := hcell 0 (by omega)
        obtain ⟨g, o, e⟩ := addr_plain this
        refine ⟨g, o, ?_⟩
        simpa [Addr.add] using e
      have hg : g < w.heap.size := by have := cell_block (hcell 0 (by omega)); rw [add_plain] at this; exact this
      refine ⟨some ⟨g, o, none⟩, len, cap, (zs.take len).map Int.toNat, hcs, by simp; omega, hl, h2, ⟨hsm, Or.inr ⟨g, o, rfl, hg, fun j hj => ?_⟩⟩, Or.inr (fun g' o' e => by cases e; exact hg)⟩
      simp at hj
      have := hcell j (by omega)
      rw [add_plain] at this
      rw [this]
      have hb := bounds_u8 (hwz _ (List.getElem_mem (show j < zs.length by omega)))
      simp [List.getD, show j < len by omega, List.getElem?_eq_getElem (show j < zs.length by omega)]
      omega
theorem weights_all {P : Program} {e : TypeId} : ∀ {l : List (DataW H)} {d : DataW H}, d ∈ l → ∀ n ∈ d.weights P e, n ∈ DataW.weightsAll P e l
  | d0 :: r, d, hd, n, hn => by
    simp only [DataW.weightsAll, List.mem_append]
    rcases List.mem_cons.1 hd with rfl | h
    · exact Or.inl hn
    · exact Or.inr (weights_all h n hn)
  | [], _, hd, _, _ => by cases hd
theorem Tryz.cellsU64 : Tryz.prog.cellsOf 22 = 1 := by kernel_rfl
theorem Tryz.cellsFr : Tryz.prog.cellsOf 33 = 7 := by kernel_rfl
theorem seven7 {l : List Value} (h : l.length = 7) : ∃ a b c d e f g, l = [a, b, c, d, e, f, g] := by
  match l, h with
  | [a, b, c, d, e, f, g], _ => exact ⟨a, b, c, d, e, f, g, rfl⟩
theorem frame_open {fuel : Nat} {cs : List Value} {x : DataW H × List MemPlace} (h : DataW.trod enc Tryz.prog w base (fun _ => true) held fuel 33 cs = some x) (hw : ∀ n ∈ x.1.weights Tryz.prog 33, n ≤ reachBytes) : ∃ c : Fe, cs = feC c ∧ FeOk w c := by
  obtain ⟨ys, n, _, rfl, hl, hlen, hf⟩ := DataW.trod_struct Tryz.underlying33 h
  rw [Tryz.cellsFr] at hl
  obtain ⟨v0, v1, v2, v3, v4, v5, v6, rfl⟩ := seven7 hl
  have f0 : DataW.trod enc Tryz.prog w base (fun _ => true) held n 3 (([v0, v1, v2, v3, v4, v5, v6].drop 0).take (Tryz.prog.cellsOf 3)) = ys[0]? := hf 0 _ rfl
  have f1 : DataW.trod enc Tryz.prog w base (fun _ => true) held n 3 (([v0, v1, v2, v3, v4, v5, v6].drop 1).take (Tryz.prog.cellsOf 3)) = ys[1]? := hf 1 _ rfl
  have f2 : DataW.trod enc Tryz.prog w base (fun _ => true) held n 22 (([v0, v1, v2, v3, v4, v5, v6].drop 2).take (Tryz.prog.cellsOf 22)) = ys[2]? := hf 2 _ rfl
  have f3 : DataW.trod enc Tryz.prog w base (fun _ => true) held n 22 (([v0, v1, v2, v3, v4, v5, v6].drop 3).take (Tryz.prog.cellsOf 22)) = ys[3]? := hf 3 _ rfl
  have f4 : DataW.trod enc Tryz.prog w base (fun _ => true) held n 22 (([v0, v1, v2, v3, v4, v5, v6].drop 4).take (Tryz.prog.cellsOf 22)) = ys[4]? := hf 4 _ rfl
  have f5 : DataW.trod enc Tryz.prog w base (fun _ => true) held n 22 (([v0, v1, v2, v3, v4, v5, v6].drop 5).take (Tryz.prog.cellsOf 22)) = ys[5]? := hf 5 _ rfl
  have f6 : DataW.trod enc Tryz.prog w base (fun _ => true) held n 31 (([v0, v1, v2, v3, v4, v5, v6].drop 6).take (Tryz.prog.cellsOf 31)) = ys[6]? := hf 6 _ rfl
  simp only [Tryz.cellsInt, Tryz.cellsU64, Tryz.cellsB, List.drop_zero, List.drop_succ_cons, List.take_succ_cons, List.take_zero] at f0 f1 f2 f3 f4 f5 f6
  have hy : ∀ i, i < 7 → ∃ y, ys[i]? = some y := fun i hi => ⟨ys[i]'(by rw [hlen]; exact hi), List.getElem?_eq_getElem _⟩
  obtain ⟨y0, e0⟩ := hy 0 (by omega)
  rw [e0] at f0
  obtain ⟨y1, e1⟩ := hy 1 (by omega)
  rw [e1] at f1
  obtain ⟨y2, e2⟩ := hy 2 (by omega)
  rw [e2] at f2
  obtain ⟨y3, e3⟩ := hy 3 (by omega)
  rw [e3] at f3
  obtain ⟨y4, e4⟩ := hy 4 (by omega)
  rw [e4] at f4
  obtain ⟨y5, e5⟩ := hy 5 (by omega)
  rw [e5] at f5
  obtain ⟨y6, e6⟩ := hy 6 (by omega)
  rw [e6] at f6
  obtain ⟨z0, g0, _, w0⟩ := DataW.trod_int Tryz.underlying3 f0
  obtain ⟨z1, g1, _, w1⟩ := DataW.trod_int Tryz.underlying3 f1
  obtain ⟨z2, g2, _, w2⟩ := DataW.trod_int Tryz.underlying22 f2
  obtain ⟨z3, g3, _, w3⟩ := DataW.trod_int Tryz.underlying22 f3
  obtain ⟨z4, g4, _, w4⟩ := DataW.trod_int Tryz.underlying22 f4
  obtain ⟨z5, g5, _, w5⟩ := DataW.trod_int Tryz.underlying22 f5
  obtain ⟨m2, rfl⟩ := Int.eq_ofNat_of_zero_le (bounds_u64 w2).1
  obtain ⟨m3, rfl⟩ := Int.eq_ofNat_of_zero_le (bounds_u64 w3).1
  obtain ⟨m4, rfl⟩ := Int.eq_ofNat_of_zero_le (bounds_u64 w4).1
  obtain ⟨m5, rfl⟩ := Int.eq_ofNat_of_zero_le (bounds_u64 w5).1
  have hw6 : ∀ n ∈ y6.1.weights Tryz.prog 31, n ≤ reachBytes := fun n hn => hw n (by
    simp only [DataW.weights, Tryz.underlying33]
    exact DataW.weights_mem_each (j := 6) (t := 31) rfl (by simp [e6]) n hn)
  obtain ⟨sp, l, c, xs, rfl, a1, a2, a3, a4, _⟩ := bytes_open f6 hw6
  simp at g0 g1 g2 g3 g4 g5
  subst g0 g1 g2 g3 g4 g5
  exact ⟨⟨⟨z0, z1, m2, m3, m4, m5, xs⟩, sp, c⟩, by simp [feC, a1], ⟨a4, by show xs.length ≤ _; omega⟩⟩
end
end Go.Proofs.YtjcdnclfakmbpaaGreatDoor
namespace Go.Proofs.YtjcdnclfakmbpaaGreatDoor
open Go.RowKit
def ownsAt (w : World) (base : Nat) (e : TypeId) (size : Nat) (v : Value) (n : Nat) (xs : List Value) : Prop :=
  xs.length = n * size ∧ ((v = .slice none 0 0 ∧ n = 0) ∨ ∃ g o cap cur, v = .slice (some ⟨g, o, none⟩) n cap ∧ base ≤ g ∧ w.heap[g]? = some (.cells cur e (0, 0)) ∧ n ≤ cap ∧ cap ≤ maxLen ∧ o + cap * size ≤ cur.size ∧ (cur.toList.drop o).take (n * size) = xs)
theorem ownsAt.lt {w : World} {base : Nat} {e : TypeId} {size : Nat} {v : Value} {n : Nat} {xs : List Value} (h : ownsAt w base e size v n xs) : ∀ k, v.ownBlock = some k → base ≤ k ∧ k < w.heap.size := by
  intro k hk
  rcases h.2 with ⟨h1, _⟩ | ⟨g, o, cap, cur, h1, h2, h3, _⟩
  · rw [h1] at hk; simp [Value.ownBlock] at hk
  · rw [h1] at hk; simp [Value.ownBlock] at hk; subst hk; exact ⟨h2, C.lt_of_block h3⟩
theorem ownsAt.same {w w' : World} {base : Nat} {e : TypeId} {size : Nat} {v : Value} {n : Nat} {xs : List Value} (h : ownsAt w base e size v n xs) (hs : ∀ g, v.ownBlock = some g → w'.heap[g]? = w.heap[g]?) : ownsAt w' base e size v n xs := by
  refine ⟨h.1, h.2.imp id ?_⟩
  rintro ⟨g, o, cap, cur, h1, h2, h3, r⟩
  exact ⟨g, o, cap, cur, h1, h2, (hs g (by rw [h1]; rfl)).trans h3, r⟩
theorem ownsAt.drop {w : World} {base : Nat} {e : TypeId} {size : Nat} {g o cap n : Nat} {xs : List Value} (h : ownsAt w base e size (.slice (some ⟨g, o, none⟩) n cap) n xs) (k : Nat) (hk : k ≤ n) : ownsAt w base e size (.slice (some ⟨g, o + k * size, none⟩) (n - k) (cap - k)) (n - k) (xs.drop (k * size)) := by
  have hn := h.1
  rcases h.2 with ⟨h1, _⟩ | ⟨g', o', cap', cur, h1, h2, h3, h4, h5, h6, h7⟩
  · cases h1
  · cases h1
    refine ⟨by rw [List.length_drop, hn, Nat.sub_mul], Or.inr ⟨g, _, _, cur, rfl, h2, h3, by omega, by omega, ?_, ?_⟩⟩
    · rw [Nat.sub_mul]
      have : k * size ≤ cap * size := Nat.mul_le_mul_right _ (by omega)
      omega
    · rw [← h7, List.drop_take, List.drop_drop, Nat.sub_mul]
theorem ownsAt.cells {w : World} {base : Nat} {e : TypeId} {size : Nat} {g o cap n : Nat} {xs : List Value} (h : ownsAt w base e size (.slice (some ⟨g, o, none⟩) n cap) n xs) : ∀ j u, xs[j]? = some u → w.cell? ⟨g, o + j, none⟩ = some u := by
  intro j u hu
  have hn := h.1
  rcases h.2 with ⟨h1, _⟩ | ⟨g', o', cap', cur, h1, h2, h3, h4, h5, h6, h7⟩
  · cases h1
  · cases h1
    have hj : j < n * size := by rw [← hn]; exact (List.getElem?_eq_some_iff.1 hu).1
    rw [← h7, List.getElem?_take, if_pos hj, List.getElem?_drop] at hu
    simp only [World.cell?, h3]
    simpa using hu
theorem run_append_room_at {P : Program} (w : World) (t ty e : TypeId) (i : TypeInfo) (ht : P.underlying t = some (.slice e)) (hi : P.info? e = some i)
    (g o sLen sCap : Nat) (cur : Array Value) (hg : w.heap[g]? = some (.cells cur e (0, 0)))
    (a : Addr) (m c : Nat) (news : List Value) (hl : news.length = m * i.size) (hnews : ∀ j u, news[j]? = some u → w.cell? (a.add j) = some u) (h1 : ∀ u ∈ news, u.oneCell' = true)
    (hroom : sLen + m ≤ sCap) (hfit : o + sLen * i.size + news.length ≤ cur.size) :
    (Builtin.append_ #[t, t] ty #[.slice (some ⟨g, o, none⟩) sLen sCap, .slice (some a) m c]).run P w =
      .ok (.slice (some ⟨g, o, none⟩) (sLen + m) sCap) (w.setRow g (cur.toList.take (o + sLen * i.size) ++ news ++ cur.toList.drop (o + sLen * i.size + news.length)).toArray) := by
  have hf := run_firstCells_some (P := P) w i.size m a m c news hl hnews
  have hst := run_storeCells_at P g (o + sLen * i.size) e news 0 cur w hg (by simpa using hfit) h1
  simp only [Nat.add_zero] at hst
  simp [Builtin.append_, run_underlying ht, sizeOf, typeInfo, hi, Builtin.lenOf, hroom, hf, Addr.add_lit, hst]
theorem run_append_at {P : Program} (w : World) (base : Nat) (t ty e : TypeId) (i : TypeInfo) (z : Value) (size bytes : Nat) (ht : P.underlying t = some (.slice e)) (hi : P.info? e = some i) (hz : i.zero = some z)
    (hsize : i.size = size) (hby : i.bytes = bytes) (hzs : z.cells.size = size)
    (v : Value) (n : Nat) (xs : List Value) (hown : ownsAt w base e size v n xs)
    (a : Addr) (m c : Nat) (news : List Value) (hl : news.length = m * size) (hnews : ∀ j u, news[j]? = some u → w.cell? (a.add j) = some u) (h1 : ∀ u ∈ news, u.oneCell' = true) (hm : 0 < m)
    (h63 : n + m ≤ maxLen) (hbytes : (n + m) * bytes ≤ 140737488355328) (hbase : base ≤ w.heap.size) :
    ∃ g o cap w', (Builtin.append_ #[t, t] ty #[v, .slice (some a) m c]).run P w = .ok (.slice (some ⟨g, o, none⟩) (n + m) cap) w' ∧ ownsAt w' base e size (.slice (some ⟨g, o, none⟩) (n + m) cap) (n + m) (xs ++ news) ∧ w.grownBy w' v.ownBlock ∧ (v.ownBlock = some g ∨ g = w.heap.size) := by
  subst hsize
  subst hby
  have hsmall : n + m ≤ 9223372036854775807 := by simp only [maxLen] at h63; omega
  have hlen : (xs ++ news).length = (n + m) * i.size := by rw [List.length_append, hown.1, hl, Nat.add_mul]
  have grown : ∀ (old : Nat), old < n + m → ∀ (row : Option Nat),
      ownsAt (w.drew.alloc (.cells (xs.toArray ++ news.toArray ++ Builtin.zeroCells z.cells (grownCap w (n + m) old e - (n + m))) e)) base e i.size
        (.slice (some ⟨w.heap.size, 0, none⟩) (n + m) (grownCap w (n + m) old e)) (n + m) (xs ++ news) ∧
      w.grownBy (w.drew.alloc (.cells (xs.toArray ++ news.toArray ++ Builtin.zeroCells z.cells (grownCap w (n + m) old e - (n + m))) e)) row := by
    intro old ho row
    have hge := grownCap_ge w (n + m) old e
    have hcm : grownCap w (n + m) old e ≤ maxLen := grownCap_le_maxLen w (n + m) old e h63
    refine ⟨⟨hlen, .inr ⟨w.heap.size, 0, _, _, rfl, hbase, heap_alloc_new w.drew _, hge, hcm, ?_, ?_⟩⟩, ⟨rfl, rfl, rfl, by simp, fun k hk _ => heap_alloc_old w.drew _ hk⟩⟩
    · simp only [Array.size_append, List.size_toArray, size_zeroCells, hzs, hown.1, hl, ← Nat.add_mul, Nat.zero_add]
      apply Nat.le_of_eq
      congr 1
      omega
    · simp only [Array.toList_append, List.append_assoc, List.drop_zero]
      rw [← List.append_assoc, ← hlen]
      exact List.take_left
  rcases hown.2 with ⟨rfl, rfl⟩ | ⟨g, o, cap, cur, rfl, hbg, hg, hnc, hcm, hcs, htake⟩
  · have hx : xs = [] := List.eq_nil_of_length_eq_zero (by simpa using hown.1)
    subst hx
    have hr := run_append_nil (P := P) w t ty e i z ht hi hz a m c news hl hnews (by omega) (by omega) (by have hb := hbytes; simp only [Nat.zero_add] at hb; omega)
    have hgr := grown 0 (by omega) (Value.ownBlock (.slice none 0 0))
    simp only [Nat.zero_add, List.nil_append, Array.empty_append] at hgr ⊢
    exact ⟨_, _, _, _, hr, hgr.1, hgr.2, Or.inr rfl⟩
  · by_cases hroom : n + m ≤ cap
    · have hfit : o + n * i.size + news.length ≤ cur.size := by
        rw [hl]
        have : (n + m) * i.size ≤ cap * i.size := Nat.mul_le_mul_right _ hroom
        rw [Nat.add_mul] at this
        omega
      have hr := run_append_room_at (P := P) w t ty e i ht hi g o n cap cur hg a m c news hl hnews h1 hroom hfit
      have hto : (cur.toList.take (o + n * i.size)).drop o = xs := by rw [List.drop_take, Nat.add_sub_cancel_left]; exact htake
      have hol : o ≤ (cur.toList.take (o + n * i.size)).length := by simp; omega
      refine ⟨_, _, _, _, hr, ⟨hlen, .inr ⟨g, o, cap, _, rfl, hbg, setRow_heap w g cur _ e _ hg, hroom, hcm, ?_, ?_⟩⟩, ⟨rfl, rfl, rfl, by simp, fun k _ hk => setRow_other w g k _ (fun e => hk (by simp [Value.ownBlock, e]))⟩, Or.inl rfl⟩
      · simp only [List.size_toArray, List.length_append, List.length_take, List.length_drop, Array.length_toList]
        omega
      · simp only [List.append_assoc]
        rw [List.drop_append_of_le_length hol, hto, ← List.append_assoc, ← hlen]
        exact List.take_left
    · have holds : ∀ j u, xs[j]? = some u → w.cell? ((⟨g, o, none⟩ : Addr).add j) = some u := fun j u hu => by
        rw [Addr.add_lit]
        exact ownsAt.cells hown j u hu
      have hr := run_append_grow (P := P) w t ty e i z ht hi hz ⟨g, o, none⟩ n cap xs hown.1 holds a m c news hl hnews (by omega) (by omega) (growslice_fits (by omega) hbytes)
      have hgr := grown cap (by omega) (Value.ownBlock (.slice (some ⟨g, o, none⟩) n cap))
      exact ⟨_, _, _, _, hr, hgr.1, hgr.2, Or.inr rfl⟩
theorem wp_append_at {P : Program} (w : World) {o : Oper} {a : Act} {K : Act → World → Prop} {Q : Exit → Act → World → Prop} (s x : Operand) (t : TypeId)
    (ho : o.op = .call { callee := .builtin .append, args := #[s, x], argTypes := #[t, t] })
    (base : Nat) (e : TypeId) (i : TypeInfo) (z : Value) (size bytes : Nat) (ht : P.underlying t = some (.slice e)) (hi : P.info? e = some i) (hz : i.zero = some z)
    (hsize : i.size = size) (hby : i.bytes = bytes) (hzs : z.cells.size = size)
    (v : Value) (n : Nat) (xs : List Value) (hs : a.eval s = v) (hown : ownsAt w base e size v n xs)
    (ad : Addr) (m c : Nat) (news : List Value) (hx : a.eval x = .slice (some ad) m c) (hl : news.length = m * size) (hnews : ∀ j u, news[j]? = some u → w.cell? (ad.add j) = some u) (h1 : ∀ u ∈ news, u.oneCell' = true)
    (hm : 0 < m) (h63 : n + m ≤ maxLen) (hbytes : (n + m) * bytes ≤ 140737488355328) (hbase : base ≤ w.heap.size)
    (h : ∀ g d cap w', ownsAt w' base e size (.slice (some ⟨g, d, none⟩) (n + m) cap) (n + m) (xs ++ news) → w.grownBy w' v.ownBlock → (v.ownBlock = some g ∨ g = w.heap.size) → K (a.put o.dst (.slice (some ⟨g, d, none⟩) (n + m) cap)) w') : o.wp P a w K Q := by
  obtain ⟨g, d, cap, w', hr, h2, h3, h4⟩ := run_append_at (P := P) w base t o.type e i z size bytes ht hi hz hsize hby hzs v n xs hown ad m c news hl hnews h1 hm h63 hbytes hbase
  unfold Oper.wp execOp
  simp only [ho, resolve, invoke, builtin, Sem.run_bind, Sem.run_pure, Result.andThen_ok, List.map_toArray, List.map_cons, List.map_nil, hs, hx, hr]
  exact h g d cap w' h2 h3 h4
theorem step_append_at {P : Program} (w : World) {ops : Array Oper} {o : Oper} {a : Act} {K : Act → World → Prop} {Q : Exit → Act → World → Prop} {E : Prop} (hgd : o.guard = none) (s x : Operand) (t : TypeId)
    (ho : o.op = .call { callee := .builtin .append, args := #[s, x], argTypes := #[t, t] })
    (base : Nat) (e : TypeId) (i : TypeInfo) (z : Value) (size bytes : Nat) (ht : P.underlying t = some (.slice e)) (hi : P.info? e = some i) (hz : i.zero = some z)
    (hsize : i.size = size) (hby : i.bytes = bytes) (hzs : z.cells.size = size)
    (v : Value) (n : Nat) (xs : List Value) (hs : a.eval s = v) (hown : ownsAt w base e size v n xs)
    (ad : Addr) (m c : Nat) (news : List Value) (hx : a.eval x = .slice (some ad) m c) (hl : news.length = m * size) (hnews : ∀ j u, news[j]? = some u → w.cell? (ad.add j) = some u) (h1 : ∀ u ∈ news, u.oneCell' = true)
    (hm : 0 < m) (h63 : n + m ≤ maxLen) (hbytes : (n + m) * bytes ≤ 140737488355328) (hbase : base ≤ w.heap.size)
    (h : ∀ g d cap w', ownsAt w' base e size (.slice (some ⟨g, d, none⟩) (n + m) cap) (n + m) (xs ++ news) → w.grownBy w' v.ownBlock → (v.ownBlock = some g ∨ g = w.heap.size) → K (a.put o.dst (.slice (some ⟨g, d, none⟩) (n + m) cap)) w') :
    if Region.wanted o (yielded ops a.tmps) = true then Oper.wp P o a w K Q else E := by
  have hw : Region.wanted o (yielded ops a.tmps) = true := by simp [Region.wanted, hgd]
  rw [if_pos hw]
  exact wp_append_at w s x t ho base e i z size bytes ht hi hz hsize hby hzs v n xs hs hown ad m c news hx hl hnews h1 hm h63 hbytes hbase h
end Go.Proofs.YtjcdnclfakmbpaaGreatDoor
namespace Go.Proofs.YtjcdnclfakmbpaaGreatDoor
open Go.RowKit
set_option maxRecDepth 100000 in
set_option maxHeartbeats 2000000 in
theorem rfit_go (w : World) (fr tt : Int) (mine yours seq ack n c : Nat) (sp : Option Addr) (r : Bool) (hr : r = decide ((0 ≤ fr ∧ fr ≤ 8) ∧ (0 ≤ tt ∧ tt ≤ 8) ∧ (1 ≤ mine ∧ mine ≤ 1099511627776) ∧ yours ≤ 1099511627776 ∧ seq ≤ 1099511627776 ∧ ack ≤ 1099511627776 ∧ n ≤ 2048 ∧ (seq = 0 → n = 0))) :
    Calls Tryz.prog 100 #[.agg #[.int .i64 fr, .int .i64 tt, .int .u64 (mine : Int), .int .u64 (yours : Int), .int .u64 (seq : Int), .int .u64 (ack : Int), .slice sp n c]] w fun e w' => e = .returned (.bool r) ∧ Below w.heap.size w w' := by
  by_cases c0 : fr < 0
  · have HR : Hid (r = false) := by show _ = _; rw [hr]; exact decide_eq_false (by omega)
    clear hr
    go_enter Tryz.func100, Tryz.ntmps100
    go_wp2
    go_ret
    exact ⟨by rw [HR.out]; try rfl, by first | exact Below.refl _ _ | exact (Below.refl _ _).alloc (Nat.le_refl _) _⟩
  by_cases c1 : 8 < fr
  · have HR : Hid (r = false) := by show _ = _; rw [hr]; exact decide_eq_false (by omega)
    clear hr
    go_enter Tryz.func100, Tryz.ntmps100
    go_wp2
    go_ret
    exact ⟨by rw [HR.out]; try rfl, by first | exact Below.refl _ _ | exact (Below.refl _ _).alloc (Nat.le_refl _) _⟩
  by_cases c2 : tt < 0
  · have HR : Hid (r = false) := by show _ = _; rw [hr]; exact decide_eq_false (by omega)
    clear hr
    go_enter Tryz.func100, Tryz.ntmps100
    go_wp2
    go_ret
    exact ⟨by rw [HR.out]; try rfl, by first | exact Below.refl _ _ | exact (Below.refl _ _).alloc (Nat.le_refl _) _⟩
  by_cases c3 : 8 < tt
  · have HR : Hid (r = false) := by show _ = _; rw [hr]; exact decide_eq_false (by omega)
    clear hr
    go_enter Tryz.func100, Tryz.ntmps100
    go_wp2
    go_ret
    exact ⟨by rw [HR.out]; try rfl, by first | exact Below.refl _ _ | exact (Below.refl _ _).alloc (Nat.le_refl _) _⟩
  by_cases c4 : (mine : Int) < 1
  · have HR : Hid (r = false) := by show _ = _; rw [hr]; exact decide_eq_false (by omega)
    clear hr
    go_enter Tryz.func100, Tryz.ntmps100
    go_wp2
    go_ret
    exact ⟨by rw [HR.out]; try rfl, by first | exact Below.refl _ _ | exact (Below.refl _ _).alloc (Nat.le_refl _) _⟩
  by_cases c5 : (1099511627776 : Int) < (mine : Int)
  · have HR : Hid (r = false) := by show _ = _; rw [hr]; exact decide_eq_false (by omega)
    clear hr
    go_enter Tryz.func100, Tryz.ntmps100
    go_wp2
    go_ret
    exact ⟨by rw [HR.out]; try rfl, by first | exact Below.refl _ _ | exact (Below.refl _ _).alloc (Nat.le_refl _) _⟩
  by_cases c6 : (1099511627776 : Int) < (yours : Int)
  · have HR : Hid (r = false) := by show _ = _; rw [hr]; exact decide_eq_false (by omega)
    clear hr
    go_enter Tryz.func100, Tryz.ntmps100
    go_wp2
    go_ret
    exact ⟨by rw [HR.out]; try rfl, by first | exact Below.refl _ _ | exact (Below.refl _ _).alloc (Nat.le_refl _) _⟩
  by_cases c7 : (1099511627776 : Int) < (seq : Int)
  · have HR : Hid (r = false) := by show _ = _; rw [hr]; exact decide_eq_false (by omega)
    clear hr
    go_enter Tryz.func100, Tryz.ntmps100
    go_wp2
    go_ret
    exact ⟨by rw [HR.out]; try rfl, by first | exact Below.refl _ _ | exact (Below.refl _ _).alloc (Nat.le_refl _) _⟩
  by_cases c8 : (1099511627776 : Int) < (ack : Int)
  · have HR : Hid (r = false) := by show _ = _; rw [hr]; exact decide_eq_false (by omega)
    clear hr
    go_enter Tryz.func100, Tryz.ntmps100
    go_wp2
    go_ret
    exact ⟨by rw [HR.out]; try rfl, by first | exact Below.refl _ _ | exact (Below.refl _ _).alloc (Nat.le_refl _) _⟩
  have i0 : (0 : Int) ≤ (seq : Int) := by omega
  by_cases d1 : (n : Int) ≤ 2048
  · by_cases d2 : (0 : Int) < (seq : Int)
    · have HR : Hid (r = true) := by show _ = _; rw [hr]; exact decide_eq_true (by omega)
      clear hr
      go_enter Tryz.func100, Tryz.ntmps100
      go_wp2
      go_ret
      exact ⟨by rw [HR.out]; try rfl, by first | exact Below.refl _ _ | exact (Below.refl _ _).alloc (Nat.le_refl _) _⟩
    · by_cases d3 : n = 0
      · have HR : Hid (r = true) := by show _ = _; rw [hr]; exact decide_eq_true (by omega)
        subst d3
        clear hr d1
        go_enter Tryz.func100, Tryz.ntmps100
        go_wp2
        go_ret
        exact ⟨by rw [HR.out]; try rfl, by first | exact Below.refl _ _ | exact (Below.refl _ _).alloc (Nat.le_refl _) _⟩
      · have HR : Hid (r = false) := by show _ = _; rw [hr]; exact decide_eq_false (by omega)
        have hz : ((n : Int) == 0) = false := by simpa using d3
        clear hr d3
        go_enter Tryz.func100, Tryz.ntmps100
        go_wp2
        go_ret
        exact ⟨by rw [HR.out]; try rfl, by first | exact Below.refl _ _ | exact (Below.refl _ _).alloc (Nat.le_refl _) _⟩
  · have HR : Hid (r = false) := by show _ = _; rw [hr]; exact decide_eq_false (by omega)
    clear hr
    go_enter Tryz.func100, Tryz.ntmps100
    go_wp2
    go_ret
    exact ⟨by rw [HR.out]; try rfl, by first | exact Below.refl _ _ | exact (Below.refl _ _).alloc (Nat.le_refl _) _⟩
theorem rfit_any (w : World) (f : Fr) (sp : Option Addr) (c : Nat) : Calls Tryz.prog 100 #[frV f sp c] w fun e w' => e = .returned (.bool (decide f.fit)) ∧ Below w.heap.size w w' :=
  rfit_go w f.fr f.tt f.mine f.yours f.seq f.ack f.body.length c sp (decide f.fit) (decide_eq_decide.2 (by unfold Fr.fit; exact Iff.rfl))
end Go.Proofs.YtjcdnclfakmbpaaGreatDoor
namespace Go.Proofs.YtjcdnclfakmbpaaGreatDoor
open Go.RowKit
structure En (w w' : World) (cs : Array Value) (g q c : Nat) (ys : List Nat) : Prop where
  bel : Below w.heap.size w w'
  fr : w'.heap[w.heap.size]? = some (.cells cs 33 (0, 0))
  own : w'.ownsRow (w.heap.size + 1) 5 1 (.slice (some ⟨g, 0, none⟩) q c) q (C.vals ys)
theorem En.below {w w' wd : World} {cs : Array Value} {g q c : Nat} {ys : List Nat} (h : En w w' cs g q c ys) (hb : Below w'.heap.size w' wd) : En w wd cs g q c ys :=
  ⟨h.bel.trans (hb.mono h.bel.size), (hb.block _ (C.lt_of_block h.fr)).trans h.fr, C.owns_below h.own hb⟩
theorem En.app {w w' w2 : World} {cs : Array Value} {g q c g2 q2 c2 : Nat} {ys zs : List Nat} (h : En w w' cs g q c ys) (hg : w'.grownBy w2 (some g)) (ho : w2.ownsRow (w.heap.size + 1) 5 1 (.slice (some ⟨g2, 0, none⟩) q2 c2) q2 (C.vals ys ++ C.vals zs)) : En w w2 cs g2 q2 c2 (ys ++ zs) := by
  have hl := (C.owns_le h.own).2.1
  refine ⟨h.bel.grown hg h.bel.size (fun k e => by cases e; omega), (hg.block _ (C.lt_of_block h.fr) (fun e => ?_)).trans h.fr, by rw [C.vals_app]; exact ho⟩
  simp at e
  omega
theorem En.size {w w' : World} {cs : Array Value} {g q c : Nat} {ys : List Nat} (h : En w w' cs g q c ys) : w.heap.size + 1 ≤ w'.heap.size := C.lt_of_block h.fr
theorem owns_low {w : World} {B B' n s : Nat} {e : TypeId} {v : Value} {xs : List Value} (h : w.ownsRow B e s v n xs) (hB : B' ≤ B) : w.ownsRow B' e s v n xs := by
  refine ⟨h.1, h.2.imp id ?_⟩
  rintro ⟨g, cap, cur, e1, e2, r⟩
  exact ⟨g, cap, cur, e1, Nat.le_trans hB e2, r⟩
theorem owns_two (w : World) (x y : Value) : (w.alloc (.cells #[x, y] 5)).ownsRow w.heap.size 5 1 (.slice (some ⟨w.heap.size, 0, none⟩) 2 2) 2 [x, y] :=
  ⟨rfl, Or.inr ⟨w.heap.size, 2, #[x, y], rfl, Nat.le_refl _, heap_alloc_new _ _, Nat.le_refl _, by unfold maxLen; omega, rfl, rfl⟩⟩
theorem be_one (a : Nat) (h : a < 256) : C.beOf a 1 = [a] := by simp [C.beOf, Nat.mod_eq_of_lt h]
set_option maxRecDepth 100000 in
set_option maxHeartbeats 4000000 in
theorem renc_go (w : World) (a b mine yours seq ack n c : Nat) (sp : Option Addr) (body : List Nat) (hn : body.length = n) (hx : C.Bytes w sp body) (hf : (⟨(a : Int), (b : Int), mine, yours, seq, ack, body⟩ : Fr).fit) :
    Calls Tryz.prog 106 #[.agg #[.int .i64 (a : Int), .int .i64 (b : Int), .int .u64 (mine : Int), .int .u64 (yours : Int), .int .u64 (seq : Int), .int .u64 (ack : Int), .slice sp n c]] w fun e w' =>
      ∃ g q cc, e = .returned (.slice (some ⟨g, 0, none⟩) q cc) ∧ w'.ownsRow w.heap.size 5 1 (.slice (some ⟨g, 0, none⟩) q cc) q (C.vals (⟨(a : Int), (b : Int), mine, yours, seq, ack, body⟩ : Fr).bytes) ∧ Below w.heap.size w w' := by
  obtain ⟨f, hfe⟩ : ∃ f : Fr, f = ⟨(a : Int), (b : Int), mine, yours, seq, ack, body⟩ := ⟨_, rfl⟩
  rw [← hfe] at hf ⊢
  have hsm : f.small := by rw [hfe]; exact hx.small
  have HM := hide (fun w => rfit_any w f sp c)
  rw [decide_eq_true hf, hfe] at HM
  simp only [frV, hn] at HM
  have HHs := hide (Fr.head_small hf hsm)
  have HHd : Hid (f.head = (((((C.beOf a 1 ++ C.beOf b 1) ++ vB mine) ++ vB yours) ++ vB seq) ++ vB ack) ++ tB body) := by
    show _ = _
    rw [hfe]; unfold Fr.head; simp [List.append_assoc]
  obtain ⟨k1, k2, k3, k4, k5, k6, k7, -⟩ := hf
  rw [hfe] at k1 k2 k3 k4 k5 k6 k7
  simp only [hn] at k1 k2 k3 k4 k5 k6 k7
  have a8 : (a : Int) % 256 = (a : Int) := by omega
  have b8 : (b : Int) % 256 = (b : Int) := by omega
  have HV0 : Hid (C.vals (C.beOf a 1 ++ C.beOf b 1) = [.int .u8 (a : Int), .int .u8 (b : Int)]) := by
    show _ = _
    rw [be_one a (by omega), be_one b (by omega)]
    rfl
  have HBy : Hid (f.bytes = f.head ++ C.beOf (C.sumOf f.head) 4) := rfl
  have HX := hide hx
  have HN := hide hn
  have hvs := hide (sum_lt f.head HHs.out)
  clear hsm hfe hx hn k1 k2
  have HV1 := hide (fun w => C.ref_var_any mine (by omega) w)
  have hl1 : C.vs mine ≤ 10 := (C.vs_bounds mine (by omega)).2
  have Hl1 := hide (vB_len (show mine < 18446744073709551616 by omega))
  have Hs1 := hide (vB_small (show mine < 18446744073709551616 by omega))
  have HV2 := hide (fun w => C.ref_var_any yours (by omega) w)
  have hl2 : C.vs yours ≤ 10 := (C.vs_bounds yours (by omega)).2
  have Hl2 := hide (vB_len (show yours < 18446744073709551616 by omega))
  have Hs2 := hide (vB_small (show yours < 18446744073709551616 by omega))
  have HV3 := hide (fun w => C.ref_var_any seq (by omega) w)
  have hl3 : C.vs seq ≤ 10 := (C.vs_bounds seq (by omega)).2
  have Hl3 := hide (vB_len (show seq < 18446744073709551616 by omega))
  have Hs3 := hide (vB_small (show seq < 18446744073709551616 by omega))
  have HV4 := hide (fun w => C.ref_var_any ack (by omega) w)
  have hl4 : C.vs ack ≤ 10 := (C.vs_bounds ack (by omega)).2
  have Hl4 := hide (vB_len (show ack < 18446744073709551616 by omega))
  have Hs4 := hide (vB_small (show ack < 18446744073709551616 by omega))
  have hl5 : C.vs n ≤ 10 := (C.vs_bounds n (by omega)).2
  have Hl5 : Hid ((tB body).length = C.vs n + n) := by show _ = _; rw [tB_len (by have := HN.out; omega), HN.out]
  have Hs5 : Hid (∀ x ∈ tB body, x < 256) := tB_small (by have := HN.out; omega) HX.out.small
  have HTx := hide (fun w h => C.ref_text w sp n c body HN.out h (by omega))
  have HTv : Hid (C.varOf n (C.vs n - 1) ++ body = tB body) := by show _ = _; unfold tB vB; rw [HN.out]
  rw [HTv.out] at HTx
  clear HTv
  unfold C.Vared at HV1 HV2 HV3 HV4
  rw [show C.varOf mine (C.vs mine - 1) = vB mine from rfl] at HV1
  rw [show C.varOf yours (C.vs yours - 1) = vB yours from rfl] at HV2
  rw [show C.varOf seq (C.vs seq - 1) = vB seq from rfl] at HV3
  rw [show C.varOf ack (C.vs ack - 1) = vB ack from rfl] at HV4
  generalize vB mine = B1 at *
  generalize vB yours = B2 at *
  generalize vB seq = B3 at *
  generalize vB ack = B4 at *
  generalize tB body = B5 at *
  generalize C.vs mine = s1 at *
  generalize C.vs yours = s2 at *
  generalize C.vs seq = s3 at *
  generalize C.vs ack = s4 at *
  generalize C.vs n = s5 at *
  generalize C.beOf a 1 ++ C.beOf b 1 = B0 at *
  obtain ⟨cs, hcs⟩ : ∃ cs : Array Value, cs = #[.int .i64 (a : Int), .int .i64 (b : Int), .int .u64 (mine : Int), .int .u64 (yours : Int), .int .u64 (seq : Int), .int .u64 (ack : Int), .slice sp n c] := ⟨_, rfl⟩
  obtain ⟨w1, hw1⟩ : ∃ w1, w.alloc (.cells #[.int .i64 (a : Int), .int .i64 (b : Int), .int .u64 (mine : Int), .int .u64 (yours : Int), .int .u64 (seq : Int), .int .u64 (ack : Int), .slice sp n c] 33) = w1 := ⟨_, rfl⟩
  have hB1 : Below w.heap.size w w1 := by rw [← hw1]; exact (Below.refl _ _).alloc (Nat.le_refl _) _
  have hK1 : w1.heap[w.heap.size]? = some (.cells cs 33 (0, 0)) := by rw [← hw1, hcs]; exact heap_alloc_new _ _
  have hC : ∀ w' : World, w'.heap[w.heap.size]? = some (.cells cs 33 (0, 0)) → w'.cell? ⟨w.heap.size, 0, none⟩ = some (.int .i64 (a : Int)) ∧ w'.cell? ⟨w.heap.size, 1, none⟩ = some (.int .i64 (b : Int)) ∧ w'.cell? ⟨w.heap.size, 2, none⟩ = some (.int .u64 (mine : Int)) ∧ w'.cell? ⟨w.heap.size, 3, none⟩ = some (.int .u64 (yours : Int)) ∧ w'.cell? ⟨w.heap.size, 4, none⟩ = some (.int .u64 (seq : Int)) ∧ w'.cell? ⟨w.heap.size, 5, none⟩ = some (.int .u64 (ack : Int)) ∧ w'.cell? ⟨w.heap.size, 6, none⟩ = some (.slice sp n c) := fun w' h => by
    rw [hcs] at h
    obtain ⟨d0, d1, d2, d3, d4, d5, d6, -⟩ := blk7 h
    exact ⟨d0, d1, d2, d3, d4, d5, d6⟩
  have HC := hide hC
  obtain ⟨c0, c1, c2, c3, c4, c5, c6⟩ := hC w1 hK1
  have HK1 := hide hK1
  have HB1 := hide hB1
  have HW := hide hw1
  clear hcs hw1 hK1 hB1 hC
  go_enter Tryz.func106, Tryz.ntmps106
  go_upto_region 1 with (fail)
  rw [HW.out]
  go_wp2_with fail
  refine (HM.out _).mono ?_
  rintro e w2 ⟨rfl, hb2⟩
  have hk2 := (hb2.block _ (C.lt_of_block HK1.out)).trans HK1.out
  have hs2 := C.lt_of_block hk2
  obtain ⟨w3, hw3⟩ : ∃ w3, w2.alloc (.cells #[.int .u8 (a : Int), .int .u8 (b : Int)] 5) = w3 := ⟨_, rfl⟩
  have he3 : En w w3 cs w2.heap.size 2 2 B0 := by
    have h3 : Below w2.heap.size w2 w3 := by rw [← hw3]; exact (Below.refl _ _).alloc (Nat.le_refl _) _
    refine ⟨HB1.out.trans ((hb2.mono HB1.out.size).trans (h3.mono (by omega))), (h3.block _ hs2).trans hk2, ?_⟩
    rw [HV0.out, ← hw3]
    exact owns_low (owns_two w2 _ _) hs2
  clear c0 c1 c2 c3 c4 c5 c6
  obtain ⟨c0, c1, -⟩ := HC.out w2 hk2
  obtain ⟨-, -, c2, -⟩ := HC.out w3 he3.fr
  have HE3 := hide he3
  have HW3 := hide hw3
  clear hb2 hk2 hs2 hw3 he3 HM
  go_upto_region 4 with (fail)
  rw [HW3.out]
  go_wp2_with fail
  refine (HV1.out _).mono ?_
  rintro e v1 ⟨h1, d1, rfl, ho1, hb1⟩
  have HF1 := hide (HE3.out.below hb1)
  have HO1 := hide (C.owns_bytes ho1 Hs1.out)
  have hz1 := HF1.out.size
  clear ho1 hb1
  clear c0 c1 c2
  go_wp2_with (at_builtin; refine C.wpList_append_bytes rfl (.tmp 14) (.tmp 17) rfl (w.heap.size + 1) w2.heap.size (2) 2 (C.vals (B0)) rfl HF1.out.own (some ⟨h1, 0, none⟩) s1 d1 B1 rfl Hl1.out HO1.out (by omega) hz1 ?_; intro g1 k1 u1 hown1 hgrow1 hat1; have he4 := En.app HF1.out hgrow1 hown1; obtain ⟨c0, c1, c2, c3, c4, c5, c6⟩ := HC.out u1 he4.fr; have HE4 := hide he4; clear he4 hown1 hgrow1 hat1)
  refine (HV2.out _).mono ?_
  rintro e v2 ⟨h2, d2, rfl, ho2, hb2⟩
  have HF2 := hide (HE4.out.below hb2)
  have HO2 := hide (C.owns_bytes ho2 Hs2.out)
  have hz2 := HF2.out.size
  clear ho2 hb2
  clear c0 c1 c2 c3 c4 c5 c6
  go_wp2_with (at_builtin; refine C.wpList_append_bytes rfl (.tmp 19) (.tmp 22) rfl (w.heap.size + 1) g1 (2 + s1) k1 (C.vals ((B0) ++ B1)) rfl HF2.out.own (some ⟨h2, 0, none⟩) s2 d2 B2 rfl Hl2.out HO2.out (by omega) hz2 ?_; intro g2 k2 u2 hown2 hgrow2 hat2; have he5 := En.app HF2.out hgrow2 hown2; obtain ⟨c0, c1, c2, c3, c4, c5, c6⟩ := HC.out u2 he5.fr; have HE5 := hide he5; clear he5 hown2 hgrow2 hat2)
  refine (HV3.out _).mono ?_
  rintro e v3 ⟨h3, d3, rfl, ho3, hb3⟩
  have HF3 := hide (HE5.out.below hb3)
  have HO3 := hide (C.owns_bytes ho3 Hs3.out)
  have hz3 := HF3.out.size
  clear ho3 hb3
  clear c0 c1 c2 c3 c4 c5 c6
  go_wp2_with (at_builtin; refine C.wpList_append_bytes rfl (.tmp 24) (.tmp 27) rfl (w.heap.size + 1) g2 (2 + s1 + s2) k2 (C.vals (((B0) ++ B1) ++ B2)) rfl HF3.out.own (some ⟨h3, 0, none⟩) s3 d3 B3 rfl Hl3.out HO3.out (by omega) hz3 ?_; intro g3 k3 u3 hown3 hgrow3 hat3; have he6 := En.app HF3.out hgrow3 hown3; obtain ⟨c0, c1, c2, c3, c4, c5, c6⟩ := HC.out u3 he6.fr; have HE6 := hide he6; clear he6 hown3 hgrow3 hat3)
  refine (HV4.out _).mono ?_
  rintro e v4 ⟨h4, d4, rfl, ho4, hb4⟩
  have HF4 := hide (HE6.out.below hb4)
  have HO4 := hide (C.owns_bytes ho4 Hs4.out)
  have hz4 := HF4.out.size
  clear ho4 hb4
  clear c0 c1 c2 c3 c4 c5 c6
  go_wp2_with (at_builtin; refine C.wpList_append_bytes rfl (.tmp 29) (.tmp 32) rfl (w.heap.size + 1) g3 (2 + s1 + s2 + s3) k3 (C.vals ((((B0) ++ B1) ++ B2) ++ B3)) rfl HF4.out.own (some ⟨h4, 0, none⟩) s4 d4 B4 rfl Hl4.out HO4.out (by omega) hz4 ?_; intro g4 k4 u4 hown4 hgrow4 hat4; have he7 := En.app HF4.out hgrow4 hown4; obtain ⟨c0, c1, c2, c3, c4, c5, c6⟩ := HC.out u4 he7.fr; have HE7 := hide he7; clear he7 hown4 hgrow4 hat4)
  refine (HTx.out _ (HX.out.below HE7.out.bel)).mono ?_
  rintro e v5 ⟨h5, d5, rfl, ho5, hb5⟩
  have HF5 := hide (HE7.out.below hb5)
  have HO5 := hide (C.owns_bytes ho5 Hs5.out)
  have hz5 := HF5.out.size
  clear ho5 hb5
  clear c0 c1 c2 c3 c4 c5 c6
  go_wp2_with (at_builtin; refine C.wpList_append_bytes rfl (.tmp 34) (.tmp 37) rfl (w.heap.size + 1) g4 (2 + s1 + s2 + s3 + s4) k4 (C.vals (((((B0) ++ B1) ++ B2) ++ B3) ++ B4)) rfl HF5.out.own (some ⟨h5, 0, none⟩) (s5 + n) d5 B5 rfl Hl5.out HO5.out (by omega) hz5 ?_; intro g5 k5 u5 hown5 hgrow5 hat5; have he8 := En.app HF5.out hgrow5 hown5; obtain ⟨c0, c1, c2, c3, c4, c5, c6⟩ := HC.out u5 he8.fr; have HE8 := hide he8; clear he8 hown5 hgrow5 hat5)
  rw [← HHd.out] at HE8
  refine (C.refsum_any _ (some ⟨g5, 0, none⟩) _ _ f.head (by have := HE8.out.own.1; simpa [C.vals] using this) (C.owns_bytes HE8.out.own HHs.out) (by omega)).mono ?_
  rintro e v6 ⟨rfl, m6, hw6⟩
  have he6 := HE8.out.below (show Below u5.heap.size u5 v6 by rw [hw6]; exact C.bad_drews u5 m6)
  have HE6 := hide he6
  clear hw6 he6 c0 c1 c2 c3 c4 c5 c6
  go_wp2_with fail
  refine (C.ref_u32 _ _ hvs.out).mono ?_
  rintro e v7 ⟨rfl, hw7⟩
  have hb7 : Below v6.heap.size v6 v7 := by rw [hw7]; exact (Below.refl _ _).alloc (Nat.le_refl _) _
  have HE7 := hide (HE6.out.below hb7)
  have HO7 : Hid (C.Bytes v7 (some ⟨v6.heap.size, 0, none⟩) (C.beOf (C.sumOf f.head) 4)) := by
    show C.Bytes _ _ _
    rw [hw7]
    exact made_by v6 _ (be_small _ _)
  have Hl7 := hide (be_len (C.sumOf f.head) 4)
  have hz7 := HE7.out.size
  clear hw7 hb7
  go_wp2_with (at_builtin; refine C.wpList_append_bytes rfl (.tmp 39) (.tmp 42) rfl (w.heap.size + 1) g5 (2 + s1 + s2 + s3 + s4 + (s5 + n)) k5 (C.vals f.head) rfl HE7.out.own (some ⟨v6.heap.size, 0, none⟩) 4 4 (C.beOf (C.sumOf f.head) 4) rfl Hl7.out HO7.out (by omega) hz7 ?_; intro g8 k8 w8 hown8 hgrow8 hat8; have he9 := En.app HE7.out hgrow8 hown8; have HE9 := hide he9; clear he9 hown8 hgrow8 hat8)
  go_ret
  rw [HBy.out]
  exact ⟨g8, _, k8, rfl, owns_low HE9.out.own (Nat.le_succ _), HE9.out.bel⟩
set_option maxRecDepth 100000 in
theorem renc_no (w : World) (f : Fr) (sp : Option Addr) (c : Nat) (hf : ¬ f.fit) :
    Calls Tryz.prog 106 #[frV f sp c] w fun e w' => e = .returned (.slice none 0 0) ∧ Below w.heap.size w w' := by
  have HM := hide (fun w => rfit_any w f sp c)
  rw [decide_eq_false hf] at HM
  obtain ⟨w1, hw1⟩ : ∃ w1, w.alloc (.cells (frC f sp c) 33) = w1 := ⟨_, rfl⟩
  have hB1 : Below w.heap.size w w1 := by rw [← hw1]; exact (Below.refl _ _).alloc (Nat.le_refl _) _
  have hK1 : w1.heap[w.heap.size]? = some (.cells (frC f sp c) 33 (0, 0)) := by rw [← hw1]; exact heap_alloc_new _ _
  unfold frC at hK1 hw1
  obtain ⟨c0, c1, c2, c3, c4, c5, c6, -⟩ := blk7 hK1
  unfold frV at HM ⊢
  have HB1 := hide hB1
  have HW := hide hw1
  clear hw1 hK1 hB1 hf
  go_enter Tryz.func106, Tryz.ntmps106
  go_upto_region 1 with (fail)
  rw [HW.out]
  go_wp2_with fail
  refine (HM.out _).mono ?_
  rintro e w2 ⟨rfl, hb2⟩
  have HB2 : Hid (Below w.heap.size w w2) := HB1.out.trans (hb2.mono HB1.out.size)
  clear hb2 c0 c1 c2 c3 c4 c5 c6
  go_wp2
  go_ret
  exact ⟨rfl, HB2.out⟩
theorem renc_any (w : World) (f : Fr) (sp : Option Addr) (c : Nat) (hx : C.Bytes w sp f.body) :
    Calls Tryz.prog 106 #[frV f sp c] w fun e w' => ∃ a q cc, e = .returned (.slice a q cc) ∧ w'.ownsRow w.heap.size 5 1 (.slice a q cc) q (C.vals (encB f)) ∧ Below w.heap.size w w' := by
  by_cases hf : f.fit
  · obtain ⟨fr, tt, mine, yours, seq, ack, body⟩ := f
    have h1 := hf.1
    have h2 := hf.2.1
    simp only at h1 h2
    obtain ⟨a, rfl⟩ := Int.eq_ofNat_of_zero_le h1.1
    obtain ⟨b, rfl⟩ := Int.eq_ofNat_of_zero_le h2.1
    refine (renc_go w a b mine yours seq ack body.length c sp body rfl hx hf).mono ?_
    rintro e w' ⟨g, q, cc, he, ho, hb⟩
    refine ⟨_, q, cc, he, ?_, hb⟩
    unfold encB
    rw [if_pos hf]
    exact ho
  · refine (renc_no w f sp c hf).mono ?_
    rintro e w' ⟨he, hb⟩
    refine ⟨none, 0, 0, he, ?_, hb⟩
    unfold encB
    rw [if_neg hf]
    exact ⟨rfl, Or.inl ⟨rfl, rfl⟩⟩
end Go.Proofs.YtjcdnclfakmbpaaGreatDoor
