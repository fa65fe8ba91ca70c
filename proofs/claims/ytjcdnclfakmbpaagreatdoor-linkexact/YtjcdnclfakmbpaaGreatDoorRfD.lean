import Derived.Test.YtjcdnclfakmbpaaGreatDoorHeB
import Derived.Test.YtjcdnclfakmbpaaGreatDoorFrP
import Derived.Test.YtjcdnclfakmbpaaGreatDoorDkP
import Derived.Test.YtjcdnclfakmbpaaGreatDoorMbB
import Derived.Test.YtjcdnclfakmbpaaGreatDoorRfB
import Derived.Test.YtjcdnclfakmbpaaGreatDoorCEyeP
import Derived.Test.YtjcdnclfakmbpaaGreatDoorRfC
namespace Go.Proofs.YtjcdnclfakmbpaaGreatDoor
open Go.RowKit
structure Rn (L : Lk) (i : Nat) : Prop where
  row : L.row.length ≤ i
  num : L.numbered ≤ i
  hand : L.handed ≤ i
  pok : L.Pok
  win : 0 ≤ L.window
theorem rn_new (me other : Int) (life : Nat) (window most : Int) : Rn (Lk.new me other life window most) 0 := by
  refine ⟨Nat.zero_le _, Nat.zero_le _, Nat.zero_le _, ⟨Nat.zero_le _, ?_, ?_⟩, by show 0 ≤ max window 0; omega⟩
  · show (if 1 ≤ most ∧ most ≤ 64 then 1 else 0) ≤ 64
    split <;> omega
  · intro m hm
    have h : (if 1 ≤ most ∧ most ≤ 64 then some most.toNat else none) = some m := hm
    split at h
    · injection h with h; omega
    · cases h
theorem Rn.up {L : Lk} {i : Nat} (h : Rn L i) : Rn L (i + 1) := ⟨Nat.le_succ_of_le h.row, Nat.le_succ_of_le h.num, Nat.le_succ_of_le h.hand, h.pok, h.win⟩
theorem Rn.reset {L : Lk} {i : Nat} (h : Rn L i) : Rn (lreset L) i := ⟨h.row, h.num, h.hand, ⟨by show 0 ≤ 64; omega, by show 1 ≤ 64; omega, h.pok.m⟩, h.win⟩
theorem Rn.send {L : Lk} {i : Nat} (h : Rn L i) (s : ByteArray) : Rn (sendN L s) (i + 1) := by
  have h1 : Rn (sendL L) i := by
    unfold sendL
    split
    · exact h.reset
    · exact h
  have h2 := h.row
  have h3 := h.num
  exact ⟨by show (L.row ++ [(L.numbered + 1, s)]).length ≤ i + 1; simp; omega, by show L.numbered + 1 ≤ i + 1; omega, Nat.le_succ_of_le h1.hand, ⟨h1.pok.l, h1.pok.g, h1.pok.m⟩, h1.win⟩
theorem Rn.owe {L : Lk} {i : Nat} (h : Rn L i) : Rn { L with asked := true } i := ⟨h.row, h.num, h.hand, ⟨h.pok.l, h.pok.g, h.pok.m⟩, h.win⟩
theorem Rn.hear1 {L : Lk} {i : Nat} (h : Rn L i) (mine : Nat) : Rn (hear1 L mine) i := by
  unfold Go.Proofs.YtjcdnclfakmbpaaGreatDoor.hear1
  split
  · exact ⟨Nat.zero_le _, Nat.zero_le _, Nat.zero_le _, ⟨by show 0 ≤ 64; omega, by show 1 ≤ 64; omega, h.pok.m⟩, h.win⟩
  · exact h
theorem Rn.paced {L : Lk} {i : Nat} (h : Rn L i) (p : Bool) : Rn { L with paced := p } i := ⟨h.row, h.num, h.hand, ⟨h.pok.l, h.pok.g, h.pok.m⟩, h.win⟩
theorem Rn.ack {L : Lk} {i : Nat} (h : Rn L i) (a : Nat) : Rn (ackL L a) i := by
  unfold ackL
  split
  · have h1 := h.row
    exact ⟨by show (L.row.drop _).length ≤ i; rw [List.length_drop]; omega, h.num, h.hand, ⟨h.pok.l, h.pok.g, h.pok.m⟩, h.win⟩
  · exact h
theorem Rn.body {L : Lk} {i : Nat} (h : Rn L i) (seq : Nat) : Rn (bodyL L seq) (i + 1) := by
  have h1 := h.hand
  unfold bodyL
  split
  · exact h.up
  · split
    · exact ⟨Nat.le_succ_of_le h.row, Nat.le_succ_of_le h.num, by show L.handed + 1 ≤ i + 1; omega, ⟨h.pok.l, h.pok.g, h.pok.m⟩, h.win⟩
    · exact ⟨Nat.le_succ_of_le h.row, Nat.le_succ_of_le h.num, Nat.le_succ_of_le h.hand, ⟨h.pok.l, h.pok.g, h.pok.m⟩, h.win⟩
theorem Rn.hear {L : Lk} {i : Nat} (h : Rn L i) (mine yours seq ack : Nat) : Rn (hrL L mine yours seq ack) (i + 1) := by
  unfold hrL
  split
  · exact (((h.hear1 mine).paced false).ack ack).body seq
  · exact ((h.hear1 mine).paced true).up
theorem Rn.ltick {L : Lk} {i : Nat} (h : Rn L i) : Rn (ltick L) i := by
  obtain ⟨h1, h2, h3, ⟨p1, p2, p3⟩, h5⟩ := h
  unfold Go.Proofs.YtjcdnclfakmbpaaGreatDoor.ltick
  split
  · exact ⟨h1, h2, h3, ⟨by show L.left - 1 ≤ 64; omega, p2, p3⟩, h5⟩
  · refine ⟨h1, h2, h3, ⟨p2, ?_, p3⟩, h5⟩
    show (match L.lim with | none => L.gap | some m => min (2 * L.gap) m) ≤ 64
    cases hm : L.lim with
    | none => exact p2
    | some m => have := p3 m hm; show min (2 * L.gap) m ≤ 64; omega
theorem Rn.tick {L : Lk} {i : Nat} (h : Rn L i) : Rn (tickL L) i := by
  have h1 : Rn (tkR L) i := by
    unfold tkR
    split
    · exact h.ltick
    · exact h
  have h2 : Rn (bodL L) i := ⟨h1.row, h1.num, h1.hand, ⟨h1.pok.l, h1.pok.g, h1.pok.m⟩, h1.win⟩
  unfold tickL
  split
  · exact h2
  · exact ⟨h2.row, h2.num, h2.hand, ⟨h2.pok.l, h2.pok.g, h2.pok.m⟩, h2.win⟩
end Go.Proofs.YtjcdnclfakmbpaaGreatDoor
namespace Go.Proofs.YtjcdnclfakmbpaaGreatDoor
open Go.RowKit
structure Rz (w wr : World) (K : Knd) (bb lb b : Nat) (G V : Value) (xs : List Q.Gt) (L : Lk) (rv : Value) (n : Nat) : Prop where
  bel : Below w.heap.size w wr
  kz : ∀ x, x < w.heap.size → K x = (0, 0)
  late : Q.Lt K wr lb G V xs
  book : ∃ L0 M0 A turn done used ks, Q.Bt (fun q => q = (5, 2)) K wr bb L0 M0 A turn done used ks ∧ Q.Jn A turn done used ks n
  lw : Lw wr b L rv
  kb : K b = (1, 0)
  kr : ∀ g, rv.ownBlock = some g → K g = (1, 0)
section
variable {w wr w2 : World} {K K' : Knd} {bb lb b : Nat} {G V G' V' : Value} {xs xs' : List Q.Gt} {L L' : Lk} {rv rv' : Value} {n : Nat} {p : Nat × Nat → Prop}
end
structure Rop where
  kind : Int
  on : Int
  bp : Option Addr
  bc : Nat
  body : List Nat
  fe : Fe
  pick : Int
  life : Int
def opC (r : Rop) : List Value := [.int .i64 r.kind, .int .i64 r.on, .slice r.bp r.body.length r.bc, .int .i64 r.fe.f.fr, .int .i64 r.fe.f.tt, .int .u64 (r.fe.f.mine : Int), .int .u64 (r.fe.f.yours : Int), .int .u64 (r.fe.f.seq : Int), .int .u64 (r.fe.f.ack : Int), .slice r.fe.p r.fe.f.body.length r.fe.c, .int .i64 r.pick, .int .u64 r.life]
structure RopOk (w : World) (r : Rop) : Prop where
  by_ : Bytes w r.bp r.body
  len : r.body.length ≤ 140737488351232
  fe : FeOk w r.fe
def Rops (w : World) (sp : Option Addr) (rs : List Rop) : Prop := ∀ i r, rs[i]? = some r → ∃ g o, sp = some ⟨g, o, none⟩ ∧ g < w.heap.size ∧ (∀ (j : Nat) (v : Value), (opC r)[j]? = some v → w.cell? ⟨g, o + i * 12 + j, none⟩ = some v) ∧ RopOk w r
theorem Rops.below {w w' : World} {sp : Option Addr} {rs : List Rop} (h : Rops w sp rs) (hb : Below w.heap.size w w') : Rops w' sp rs := fun i e he => by
  obtain ⟨g, o, h1, h2, h3, h4⟩ := h i e he
  exact ⟨g, o, h1, Nat.lt_of_lt_of_le h2 hb.size, fun j v hv => (hb.cell (p := ⟨g, o + i * 12 + j, none⟩) h2).trans (h3 j v hv), ⟨h4.by_.below hb, h4.len, ⟨h4.fe.by_.below hb, h4.fe.len⟩⟩⟩
theorem Tryz.builtBook : Tryz.prog.built 70 [] = some U.bk0 := by kernel_rfl
theorem book_build {o : Oper} {a : Act} {w : World} {K : Act → World → Prop} {Q : Exit → Act → World → Prop} (ho : o.op = .build 70 #[]) (h : K (a.put o.dst (.agg U.bk0)) w) : o.wp Tryz.prog a w K Q := by
  have e0 : (#[].map fun (i, x) => (i, a.eval x)).toList = ([] : List (Nat × Value)) := by simp
  refine wp_build 70 #[] ho ?_ ?_
  · rw [e0, Tryz.builtBook]; rfl
  · rw [e0, Tryz.builtBook]; exact h
theorem late_nil {K : Knd} {w : World} {t : Nat} (h : w.heap[t]? = some (.cells #[.slice none 0 0, .slice none 0 0] 72 (0, 0))) (hk : K t = (6, 0)) : Q.Lt K w t (.slice none 0 0) (.slice none 0 0) [] :=
  ⟨h, ⟨rfl, Or.inl ⟨rfl, rfl⟩⟩, ⟨rfl, Or.inl ⟨rfl, rfl⟩⟩, fun g e => (by simp [Value.ownBlock] at e), fun _ h => (by cases h), fun _ h => (by cases h), fun _ h => (by cases h), fun _ h => (by cases h), hk, fun g e => (by simp [Value.ownBlock] at e), fun g e => (by simp [Value.ownBlock] at e), fun j x h => (by simp at h)⟩
end Go.Proofs.YtjcdnclfakmbpaaGreatDoor
namespace Go.Proofs.YtjcdnclfakmbpaaGreatDoor
open Go.RowKit Go.ChangeShapes Go.WideShapes Go.ChangeAt Go.Deep
section
variable {H : Type} {enc : TypeId × Value → H} {w : World} {base : Nat} {held : Bool}
theorem Tryz.cellsOp : Tryz.prog.cellsOf 35 = 12 := by kernel_rfl
theorem Tryz.bytesOp : Tryz.prog.bytesOf 35 = 128 := by kernel_rfl
theorem Tryz.cellsOps : Tryz.prog.cellsOf 24 = 1 := by kernel_rfl
theorem Tryz.cellsScript : Tryz.prog.cellsOf 26 = 7 := by kernel_rfl
theorem Tryz.cellsLives : Tryz.prog.cellsOf 23 = 2 := by kernel_rfl
theorem twelve {l : List Value} (h : l.length = 12) : ∃ a b c d e f g i j k m n, l = [a, b, c, d, e, f, g, i, j, k, m, n] := by
  match l, h with
  | [a, b, c, d, e, f, g, i, j, k, m, n], _ => exact ⟨a, b, c, d, e, f, g, i, j, k, m, n, rfl⟩
theorem array7 {α : Type} {cs : Array α} (h : cs.size = 7) : ∃ c0 c1 c2 c3 c4 c5 c6, cs = #[c0, c1, c2, c3, c4, c5, c6] := by
  obtain ⟨l⟩ := cs
  match l, h with
  | [a, b, c, d, e, f, g], _ => exact ⟨a, b, c, d, e, f, g, rfl⟩
set_option maxRecDepth 100000 in
theorem op_open {fuel : Nat} {cs : List Value} {x : DataW H × List MemPlace} (h : DataW.trod enc Tryz.prog w base (fun _ => true) held fuel 35 cs = some x) (hw : ∀ n ∈ x.1.weights Tryz.prog 35, n ≤ reachBytes) : ∃ r : Rop, cs = opC r ∧ RopOk w r ∧ 0 ≤ r.life := by
  obtain ⟨ys, n, _, rfl, hl, hlen, hf⟩ := DataW.trod_struct Tryz.underlying35 h
  rw [Tryz.cellsOp] at hl
  obtain ⟨v0, v1, v2, v3, v4, v5, v6, v7, v8, v9, v10, v11, rfl⟩ := twelve hl
  have f0 : DataW.trod enc Tryz.prog w base (fun _ => true) held n 3 (([v0, v1, v2, v3, v4, v5, v6, v7, v8, v9, v10, v11].drop 0).take (Tryz.prog.cellsOf 3)) = ys[0]? := hf 0 _ rfl
  have f1 : DataW.trod enc Tryz.prog w base (fun _ => true) held n 3 (([v0, v1, v2, v3, v4, v5, v6, v7, v8, v9, v10, v11].drop 1).take (Tryz.prog.cellsOf 3)) = ys[1]? := hf 1 _ rfl
  have f2 : DataW.trod enc Tryz.prog w base (fun _ => true) held n 31 (([v0, v1, v2, v3, v4, v5, v6, v7, v8, v9, v10, v11].drop 2).take (Tryz.prog.cellsOf 31)) = ys[2]? := hf 2 _ rfl
  have f3 : DataW.trod enc Tryz.prog w base (fun _ => true) held n 33 (([v0, v1, v2, v3, v4, v5, v6, v7, v8, v9, v10, v11].drop 3).take (Tryz.prog.cellsOf 33)) = ys[3]? := hf 3 _ rfl
  have f4 : DataW.trod enc Tryz.prog w base (fun _ => true) held n 3 (([v0, v1, v2, v3, v4, v5, v6, v7, v8, v9, v10, v11].drop 10).take (Tryz.prog.cellsOf 3)) = ys[4]? := hf 4 _ rfl
  have f5 : DataW.trod enc Tryz.prog w base (fun _ => true) held n 22 (([v0, v1, v2, v3, v4, v5, v6, v7, v8, v9, v10, v11].drop 11).take (Tryz.prog.cellsOf 22)) = ys[5]? := hf 5 _ rfl
  simp only [Tryz.cellsInt, Tryz.cellsU64, Tryz.cellsB, Tryz.cellsFr, List.drop_zero, List.drop_succ_cons, List.take_succ_cons, List.take_zero] at f0 f1 f2 f3 f4 f5
  have hy : ∀ i, i < 6 → ∃ y, ys[i]? = some y := fun i hi => ⟨ys[i]'(by rw [hlen]; exact hi), List.getElem?_eq_getElem _⟩
  obtain ⟨y0, e0⟩ := hy 0 (by omega)
  rw [e0] at f0
  obtain ⟨y1, e1⟩ := hy 1 (by omega)
  rw [e1] at f1
  obtain ⟨y2, e2⟩ := hy 2 (by omega)
  rw [e2] at f2
  obtain ⟨y3, e3⟩ := hy 3 (by omega)
  rw [e3] at f3
  obtain ⟨y4, e4⟩ := hy 4 (by omega)
  rw [e4] at f4
  obtain ⟨y5, e5⟩ := hy 5 (by omega)
  rw [e5] at f5
  obtain ⟨z0, g0, _, _⟩ := DataW.trod_int Tryz.underlying3 f0
  obtain ⟨z1, g1, _, _⟩ := DataW.trod_int Tryz.underlying3 f1
  obtain ⟨z4, g4, _, _⟩ := DataW.trod_int Tryz.underlying3 f4
  obtain ⟨z5, g5, _, w5⟩ := DataW.trod_int Tryz.underlying22 f5
  have hz5 := (bounds_u64 w5).1
  have hw2 : ∀ n ∈ y2.1.weights Tryz.prog 31, n ≤ reachBytes := fun n hn => hw n (by
    simp only [DataW.weights, Tryz.underlying35]
    exact DataW.weights_mem_each (j := 2) (t := 31) rfl (by simp [e2]) n hn)
  have hw3 : ∀ n ∈ y3.1.weights Tryz.prog 33, n ≤ reachBytes := fun n hn => hw n (by
    simp only [DataW.weights, Tryz.underlying35]
    exact DataW.weights_mem_each (j := 3) (t := 33) rfl (by simp [e3]) n hn)
  obtain ⟨sp, l, c, xs, rfl, a1, a2, a3, a4, _⟩ := bytes_open f2 hw2
  obtain ⟨fe, hfe, hfo⟩ := frame_open f3 hw3
  simp at g0 g1 g4 g5
  subst g0 g1 g4 g5
  simp only [feC, List.cons.injEq, and_true] at hfe
  obtain ⟨rfl, rfl, rfl, rfl, rfl, rfl, rfl⟩ := hfe
  exact ⟨⟨z0, z1, sp, c, xs, fe, z4, z5⟩, by simp [opC, a1], ⟨a4, by show xs.length ≤ _; omega, hfo⟩, hz5⟩
theorem ops_open {fuel : Nat} {v : Value} {x : DataW H × List MemPlace} (h : DataW.trod enc Tryz.prog w base (fun _ => true) held fuel 24 [v] = some x) (hw : ∀ n ∈ x.1.weights Tryz.prog 24, n ≤ reachBytes) :
    ∃ sp l c cl, v = .slice sp l c ∧ cl.length = l ∧ l ≤ 140737488351232 ∧ Rops w sp cl ∧ ∀ r ∈ cl, 0 ≤ r.life := by
  rcases open_slice Tryz.underlying24 h with ⟨hcs, hx⟩ | ⟨a, len, cap, m, n, D, Pl, hcs, _, hl, hm, hmm, hx, hel⟩
  · simp at hcs
    exact ⟨none, 0, 0, [], hcs, rfl, by omega, fun i e he => by simp at he, fun r hr => by simp at hr⟩
  · simp at hcs hmm
    rw [Tryz.cellsOp] at hel
    have hD : x.1 = .slice ((List.range len).map D) ((List.range (m - len)).map fun j => D (len + j)) := by rw [hx]
    have hcap : cap ≤ 140737488351232 := by
      have h1 := hw ((len + (m - len)) * 128) (by rw [hD]; simp [DataW.weights, Tryz.underlying24, Tryz.bytesOp])
      simp only [reachBytes] at h1
      omega
    have hDw : ∀ i, i < len → ∀ n ∈ (D i).weights Tryz.prog 35, n ≤ reachBytes := fun i hi n hn => hw n (by
      rw [hD]
      simp only [DataW.weights, Tryz.underlying24, List.mem_cons, List.mem_append]
      exact Or.inr (Or.inl (weights_all (List.mem_map.2 ⟨i, List.mem_range.2 hi, rfl⟩) n hn)))
    obtain ⟨f, hf⟩ := @choose_lt Rop ⟨⟨0, 0, none, 0, [], ⟨⟨0, 0, 0, 0, 0, 0, []⟩, none, 0⟩, 0, 0⟩⟩ len (fun i p => w.cells? base (a.add (i * 12)) 12 = some (opC p) ∧ RopOk w p ∧ 0 ≤ p.life) (fun i hi => by
      obtain ⟨cs', h1, h2⟩ := hel i (by omega)
      obtain ⟨p, rfl, hp⟩ := op_open h2 (hDw i hi)
      exact ⟨p, h1, hp⟩)
    refine ⟨some a, len, cap, (List.range len).map f, hcs, by simp, by omega, fun j q hj => ?_, fun r hr => by
      obtain ⟨j, hj, rfl⟩ := List.mem_map.1 hr
      exact (hf j (List.mem_range.1 hj)).2.2⟩
    have hjl : j < len := by
      have := (List.getElem?_eq_some_iff.1 hj).1
      simpa using this
    have c0 := (World.cells?_some (hf 0 (by omega)).1).2.2 0 (by omega)
    obtain ⟨g, o, rfl⟩ : ∃ g o, a = ⟨g, o, none⟩ := by
      obtain ⟨g, o, e⟩ := addr_plain (v := .int .i64 (f 0).kind) (by simpa [opC] using c0)
      exact ⟨g, o, by simpa [Addr.add] using e⟩
    rw [List.getElem?_map, List.getElem?_range hjl] at hj
    simp at hj
    subst hj
    refine ⟨g, o, rfl, ?_, fun k u hu => ?_, (hf j hjl).2.1⟩
    · have := cell_block (v := .int .i64 (f 0).kind) (by simpa [opC] using c0)
      simpa [add_plain] using this
    · have hk7 : k < 12 := by
        have := (List.getElem?_eq_some_iff.1 hu).1
        simpa [opC] using this
      have e0 := (World.cells?_some (hf j hjl).1).2.2 k hk7
      simp only [add_plain] at e0
      rw [e0, hu]
set_option maxRecDepth 100000 in
theorem lives_open {fuel : Nat} {v0 v1 : Value} {x : DataW H × List MemPlace} (h : DataW.trod enc Tryz.prog w base (fun _ => true) held fuel 23 [v0, v1] = some x) : ∃ m2 m3 : Nat, v0 = .int .u64 (m2 : Int) ∧ v1 = .int .u64 (m3 : Int) := by
  obtain ⟨ys, m, _, rfl, hl, hlen, hfa⟩ := DataW.trod_array Tryz.underlying23 h
  have b0 := hfa 0 (by omega)
  have b1 := hfa 1 (by omega)
  simp only [Tryz.cellsU64, Nat.zero_mul, Nat.one_mul, List.drop_zero, List.drop_succ_cons, List.take_succ_cons, List.take_zero] at b0 b1
  obtain ⟨y0, e0⟩ : ∃ y, ys[0]? = some y := ⟨ys[0]'(by omega), List.getElem?_eq_getElem _⟩
  obtain ⟨y1, e1⟩ : ∃ y, ys[1]? = some y := ⟨ys[1]'(by omega), List.getElem?_eq_getElem _⟩
  rw [e0] at b0
  rw [e1] at b1
  obtain ⟨z0, g0, _, w0⟩ := DataW.trod_int Tryz.underlying22 b0
  obtain ⟨z1, g1, _, w1⟩ := DataW.trod_int Tryz.underlying22 b1
  obtain ⟨m2, rfl⟩ := Int.eq_ofNat_of_zero_le (bounds_u64 w0).1
  obtain ⟨m3, rfl⟩ := Int.eq_ofNat_of_zero_le (bounds_u64 w1).1
  simp at g0 g1
  exact ⟨m2, m3, g0, g1⟩
set_option maxRecDepth 100000 in
theorem script_open {r : Reach} {b0 : Nat} {v : Value} {d : DataW H} {pl : List MemPlace} (hv : Value.okWide Tryz.prog w r b0 26 v) (h : DataW.Trod enc Tryz.prog w base (fun _ => true) held 26 v d pl)
    (hw : ∀ n ∈ d.weights Tryz.prog 26, n ≤ reachBytes) : ∃ sA sB sW sC L0 L1 sp l c rs, v = .agg #[.int .i64 sA, .int .i64 sB, .int .u64 ((L0 : Nat) : Int), .int .u64 ((L1 : Nat) : Int), .int .i64 sW, .int .i64 sC, .slice sp l c] ∧ rs.length = l ∧ l ≤ 140737488351232 ∧ Rops w sp rs ∧ ∀ r ∈ rs, 0 ≤ r.life := by
  obtain ⟨cs, rfl, hsz⟩ := okWide_struct Tryz.underlying26 hv
  obtain ⟨c0, c1, c2, c3, c4, c5, c6, rfl⟩ := array7 (hsz.trans Tryz.cellsScript)
  obtain ⟨fuel, hf0⟩ := h
  obtain ⟨ys, n, _, hx, hl, hlen, hf⟩ := DataW.trod_struct Tryz.underlying26 hf0
  have f0 : DataW.trod enc Tryz.prog w base (fun _ => true) held n 3 (([c0, c1, c2, c3, c4, c5, c6].drop 0).take (Tryz.prog.cellsOf 3)) = ys[0]? := hf 0 _ rfl
  have f1 : DataW.trod enc Tryz.prog w base (fun _ => true) held n 3 (([c0, c1, c2, c3, c4, c5, c6].drop 1).take (Tryz.prog.cellsOf 3)) = ys[1]? := hf 1 _ rfl
  have f2 : DataW.trod enc Tryz.prog w base (fun _ => true) held n 23 (([c0, c1, c2, c3, c4, c5, c6].drop 2).take (Tryz.prog.cellsOf 23)) = ys[2]? := hf 2 _ rfl
  have f3 : DataW.trod enc Tryz.prog w base (fun _ => true) held n 3 (([c0, c1, c2, c3, c4, c5, c6].drop 4).take (Tryz.prog.cellsOf 3)) = ys[3]? := hf 3 _ rfl
  have f4 : DataW.trod enc Tryz.prog w base (fun _ => true) held n 3 (([c0, c1, c2, c3, c4, c5, c6].drop 5).take (Tryz.prog.cellsOf 3)) = ys[4]? := hf 4 _ rfl
  have f5 : DataW.trod enc Tryz.prog w base (fun _ => true) held n 24 (([c0, c1, c2, c3, c4, c5, c6].drop 6).take (Tryz.prog.cellsOf 24)) = ys[5]? := hf 5 _ rfl
  simp only [Tryz.cellsInt, Tryz.cellsLives, Tryz.cellsOps, List.drop_zero, List.drop_succ_cons, List.take_succ_cons, List.take_zero] at f0 f1 f2 f3 f4 f5
  have hy : ∀ i, i < 6 → ∃ y, ys[i]? = some y := fun i hi => ⟨ys[i]'(by rw [hlen]; exact hi), List.getElem?_eq_getElem _⟩
  obtain ⟨y0, e0⟩ := hy 0 (by omega)
  rw [e0] at f0
  obtain ⟨y1, e1⟩ := hy 1 (by omega)
  rw [e1] at f1
  obtain ⟨y2, e2⟩ := hy 2 (by omega)
  rw [e2] at f2
  obtain ⟨y3, e3⟩ := hy 3 (by omega)
  rw [e3] at f3
  obtain ⟨y4, e4⟩ := hy 4 (by omega)
  rw [e4] at f4
  obtain ⟨y5, e5⟩ := hy 5 (by omega)
  rw [e5] at f5
  simp only [Prod.mk.injEq] at hx
  obtain ⟨rfl, _⟩ := hx
  have hw5 : ∀ n ∈ y5.1.weights Tryz.prog 24, n ≤ reachBytes := fun n hn => hw n (by
    simp only [DataW.weights, Tryz.underlying26]
    exact DataW.weights_mem_each (j := 5) (t := 24) rfl (by simp [e5]) n hn)
  obtain ⟨z0, g0, _, _⟩ := DataW.trod_int Tryz.underlying3 f0
  obtain ⟨z1, g1, _, _⟩ := DataW.trod_int Tryz.underlying3 f1
  obtain ⟨z3, g3, _, _⟩ := DataW.trod_int Tryz.underlying3 f3
  obtain ⟨z4, g4, _, _⟩ := DataW.trod_int Tryz.underlying3 f4
  obtain ⟨m2, m3, g2⟩ := lives_open f2
  obtain ⟨sp, l, c, rs, rfl, a1, a2, a3, a4⟩ := ops_open f5 hw5
  simp at g0 g1 g2 g3 g4
  obtain ⟨ga, gb⟩ := g2
  subst g0 g1 ga gb g3 g4
  exact ⟨z0, z1, z3, z4, m2, m3, sp, l, c, rs, rfl, a1, a2, a3, a4⟩
end
end Go.Proofs.YtjcdnclfakmbpaaGreatDoor
namespace Go.Proofs.YtjcdnclfakmbpaaGreatDoor.U
open Go.RowKit Go.Maps
theorem vals_set (xs : List Nat) (k y : Nat) : vals (xs.set k y) = (vals xs).set k (.int .u8 (y : Int)) := by simp [vals, List.map_set]
theorem rk_set {w : World} {K : Knd} {k : Nat × Nat} {g m c : Nat} {xs : List Nat} (h : Rk w K k 5 1 (.slice (some ⟨g, 0, none⟩) m c) m (vals xs)) (j y : Nat) : Rk (w.setCell ⟨g, j, none⟩ (.int .u8 (y : Int))) K k 5 1 (.slice (some ⟨g, 0, none⟩) m c) m (vals (xs.set j y)) := by
  refine ⟨?_, h.kind⟩
  rw [vals_set]
  exact (h.own.stored j (.int .u8 (y : Int))).1
theorem rk_own {w : World} {K : Knd} {k : Nat × Nat} {g m c : Nat} {xs : List Nat} (h : Rk w K k 5 1 (.slice (some ⟨g, 0, none⟩) m c) m (vals xs)) (hs : ∀ x ∈ xs, x < 256) : Own 0 w g c xs := own_full hs h.own
end Go.Proofs.YtjcdnclfakmbpaaGreatDoor.U
namespace Go.Proofs.YtjcdnclfakmbpaaGreatDoor
open Go.RowKit
theorem rdec_pure {xs : List Nat} (hs : ∀ x ∈ xs, x < 256) : ((q7 xs).2.2 = 0 ∧ (frOf xs).fit ∧ encB (frOf xs) = xs → decB xs = some (frOf xs)) ∧ (¬ ((q7 xs).2.2 = 0 ∧ (frOf xs).fit ∧ encB (frOf xs) = xs) → decB xs = none) := by
  have hg := C.got_small hs (q6 xs).2.1 (q7 xs)
  have hsm : (frOf xs).small := by
    unfold Fr.small frOf
    generalize q7 xs = x7 at *
    generalize q6 xs = x6 at *
    exact hg
  clear hg
  refine ⟨fun ⟨_, h2, h3⟩ => ?_, fun h => ?_⟩
  · have h4 := dec_bytes h2 hsm
    unfold encB at h3
    rw [if_pos h2] at h3
    rw [h3] at h4
    exact h4
  · cases e : decB xs with
    | none => rfl
    | some f =>
      obtain ⟨h1, h2, h3⟩ := dec_some hs e
      obtain ⟨h4, h5⟩ := read_bytes h1 h2
      rw [h3] at h4 h5
      refine absurd ⟨?_, ?_, ?_⟩ h
      · obtain ⟨_, h6, _⟩ := h5
        have e8 : q8 xs = C.rNext 1 0 xs (q7 xs).2.1 (q7 xs).2.2 := by unfold q8; rfl
        have h7 := (end_zero h6).1
        rw [e8] at h7
        exact rn_stays 1 0 xs _ _ h7
      · rw [h4]; exact h1
      · rw [h4]; unfold encB; rw [if_pos h1]; exact h3
theorem rdec_any (w : World) (sp : Option Addr) (n cap : Nat) (xs : List Nat) (hl : xs.length = n) (hcap : n ≤ cap) (hc : cap ≤ 9223372036854775807) (hn : n ≤ 140737488351232) (hx : C.Bytes w sp xs) (hform : (cap = 0 ∧ xs = []) ∨ ∃ g o, sp = some ⟨g, o, none⟩) :
    Calls Tryz.prog 62 #[.slice sp n cap] w fun e w' =>
      (∃ f sq k, decB xs = some f ∧ e = .returned (.tuple #[frV f sq k, .bool true]) ∧ C.Bytes w' sq f.body ∧ (∀ p, sq = some p → w.heap.size ≤ p.block) ∧ Below w.heap.size w w') ∨
      (decB xs = none ∧ e = .returned (.tuple #[frV fr0 none 0, .bool false]) ∧ Below w.heap.size w w') := by
  obtain ⟨p1, p2⟩ := rdec_pure hx.small
  have e1 : q1 xs = C.rNext 0 0 xs 0 0 := by unfold q1; rfl
  have e2 : q2 xs = C.rNext 0 0 xs (q1 xs).2.1 (q1 xs).2.2 := by unfold q2; rfl
  have e3 : q3 xs = C.rNext 3 1099511627776 xs (q2 xs).2.1 (q2 xs).2.2 := by unfold q3; rfl
  have e4 : q4 xs = C.rNext 3 1099511627776 xs (q3 xs).2.1 (q3 xs).2.2 := by unfold q4; rfl
  have e5 : q5 xs = C.rNext 3 1099511627776 xs (q4 xs).2.1 (q4 xs).2.2 := by unfold q5; rfl
  have e6 : q6 xs = C.rNext 3 1099511627776 xs (q5 xs).2.1 (q5 xs).2.2 := by unfold q6; rfl
  have e7 : q7 xs = C.rText 2048 xs (q6 xs).2.1 (q6 xs).2.2 := by unfold q7; rfl
  have ef : frOf xs = ⟨(q1 xs).1.num, (q2 xs).1.num, (q3 xs).1.num, (q4 xs).1.num, (q5 xs).1.num, (q6 xs).1.num, C.got xs (q6 xs).2.1 (q7 xs)⟩ := by unfold frOf; rfl
  refine (rdec_go w sp n cap xs hl hcap hc hn hx hform (q1 xs) (q2 xs) (q3 xs) (q4 xs) (q5 xs) (q6 xs) (q7 xs) e1 e2 e3 e4 e5 e6 e7 (frOf xs) ef _ rfl).mono ?_
  clear e1 e2 e3 e4 e5 e6 e7 ef
  generalize frOf xs = f at *
  generalize q7 xs = x7 at *
  rintro e w' ⟨sq, k, he, hy, hlo, hb⟩
  by_cases ho : x7.2.2 = 0 ∧ f.fit ∧ encB f = xs
  · rw [decide_eq_true ho, if_pos rfl] at he
    exact Or.inl ⟨f, sq, k, p1 ho, he, hy, hlo, hb⟩
  · rw [decide_eq_false ho, if_neg (by decide)] at he
    exact Or.inr ⟨p2 ho, he, hb⟩
end Go.Proofs.YtjcdnclfakmbpaaGreatDoor
