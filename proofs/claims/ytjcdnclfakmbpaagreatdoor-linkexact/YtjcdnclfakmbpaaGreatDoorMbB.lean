import Derived.Test.YtjcdnclfakmbpaaGreatDoorLkK
namespace Go.Proofs.YtjcdnclfakmbpaaGreatDoor
open Go.RowKit
theorem blk4 {w : World} {b : Nat} {x0 x1 x2 x3 : Value} {t : TypeId} (h : w.heap[b]? = some (.cells #[x0, x1, x2, x3] t (0, 0))) :
    w.cell? ⟨b, 0, none⟩ = some x0 ∧ w.cell? ⟨b, 1, none⟩ = some x1 ∧ w.cell? ⟨b, 2, none⟩ = some x2 ∧ w.cell? ⟨b, 3, none⟩ = some x3 ∧ (∀ o, w.frozen? ⟨b, o, none⟩ = false) :=
  ⟨by simp [World.cell?, h], by simp [World.cell?, h], by simp [World.cell?, h], by simp [World.cell?, h], fun o => by simp [World.frozen?, h]⟩
set_option maxRecDepth 100000 in
theorem owe_any (w : World) (b : Nat) (L : Lk) (rv : Value) (h : Lb w b L rv) :
    Calls Tryz.prog 24 #[.pointer (some ⟨b, 0, none⟩)] w fun e w' => e = .returned (.tuple #[]) ∧ Lb w' b { L with asked := true } rv ∧ Onl b w w' := by
  obtain ⟨-, -, -, -, -, -, -, -, -, -, -, -, -, c13, -, cf⟩ := blk15 h
  have H := hide h
  clear h
  go_enter Tryz.func24, Tryz.ntmps24
  go_wp2
  go_end0
  exact ⟨rfl, H.out.set 13 _ _ rv rfl, (Onl.refl b w).set 13 _⟩
set_option maxRecDepth 100000 in
theorem life_any (w : World) (b : Nat) (L : Lk) (rv : Value) (h : Lb w b L rv) :
    Calls Tryz.prog 28 #[.pointer (some ⟨b, 0, none⟩)] w fun e w' => e = .returned (.int .u64 (L.known : Int)) ∧ w' = w := by
  obtain ⟨-, -, -, -, c4, -⟩ := blk15 h
  clear h
  go_enter Tryz.func28, Tryz.ntmps28
  go_wp2
  go_ret
  exact ⟨rfl, rfl⟩
theorem run_clear_nil (t : TypeId) (c : Nat) (w : World) : Sem.run Tryz.prog (Builtin.clear_ #[97] t #[.slice none 0 c]) w = .ok (.tuple #[]) w := by
  simp [Builtin.clear_, run_underlying Tryz.underlying97]
set_option maxRecDepth 100000 in
set_option maxHeartbeats 1000000 in
theorem letGo_nil (w : World) (b : Nat) (L : Lk) (h : Lb w b L (.slice none 0 0)) (fv : Value) :
    Calls Tryz.prog 132 #[.pointer (some ⟨b, 5, none⟩), fv] w fun e w' => e = .returned (.tuple #[]) ∧ Lb w' b L (.slice none 0 0) ∧ C.But b w w' := by
  obtain ⟨-, -, -, -, -, c5, -, -, -, -, -, -, -, -, -, cf⟩ := blk15 h
  have hcl := run_clear_nil
  have H := hide h
  clear h
  go_enter Tryz.func132, Tryz.ntmps132
  go_wp2
  refine wp_loop_rounds 1 ?_
  rw [rounds_succ]
  go_wp2
  go_end0
  exact ⟨rfl, H.out.set 5 _ L _ rfl, (C.But.refl b w).setCell (p := ⟨b, 5, none⟩) (Or.inl rfl) _⟩
set_option maxRecDepth 100000 in
set_option maxHeartbeats 1000000 in
theorem first_nil (w : World) (b : Nat) (L : Lk) (win : Int) (hw : 0 ≤ win) (h : Lb w b L (.slice none 0 0)) :
    Calls Tryz.prog 90 #[.pointer (some ⟨b, 5, none⟩), .int .i64 win] w fun e w' => e = .returned (.slice none 0 0) ∧ Below w.heap.size w w' := by
  obtain ⟨-, -, -, -, -, c5, -⟩ := blk15 h
  have hmin : min win 0 = 0 := by omega
  clear h
  go_enter Tryz.func90, Tryz.ntmps90
  go_wp2
  go_region_held3 (fun w' => w'.cell? ⟨b, 5, none⟩ = some (.slice none 0 0)) (go_keep) (fail)
  all_goals go_wp2
  all_goals go_ret
  all_goals exact ⟨rfl, (Below.refl _ _).drew⟩
set_option maxRecDepth 100000 in
set_option maxHeartbeats 1000000 in
theorem bodies_nil (w : World) (b : Nat) (L : Lk) (hw : 0 ≤ L.window) (h : Lb w b L (.slice none 0 0)) (hk : 0 < L.known) (fv : Value) :
    Calls Tryz.prog 37 #[.pointer (some ⟨b, 0, none⟩), fv] w fun e w' => e = .returned (.slice none 0 0) ∧ Below w.heap.size w w' := by
  have HK := hide (known_any w b L _ h)
  rw [decide_eq_true hk] at HK
  have HF := hide (first_nil w.drew b L L.window hw h)
  obtain ⟨-, -, -, c3, -⟩ := blk15 h
  have hlt := C.lt_of_block h
  clear h
  go_enter Tryz.func37, Tryz.ntmps37
  go_wp2_with fail
  refine HK.out.mono ?_
  rintro e w1 ⟨rfl, rfl⟩
  go_wp2
  go_region_held3 (fun w' => w'.cell? ⟨b, 3, none⟩ = some (.int .i64 L.window)) (go_keep) (first | (go_at_call 90; refine HF.out.mono ?_; rintro e w2 ⟨rfl, hb2⟩; have c3n := (hb2.cell (p := ⟨b, 3, none⟩) hlt).trans c3; have HB2 := hide hb2; clear hb2))
  go_wp2
  refine wp_loop_rounds 1 ?_
  rw [rounds_succ]
  go_wp2
  go_ret
  exact ⟨rfl, Below.trans ((Below.refl _ _).drew) HB2.out⟩
end Go.Proofs.YtjcdnclfakmbpaaGreatDoor
namespace Go.Proofs.YtjcdnclfakmbpaaGreatDoor
open Go.RowKit
structure Ms (w : World) (g o : Nat) (ms : List (Nat × ByteArray)) : Prop where
  lt : g < w.heap.size
  num : ∀ j m, ms[j]? = some m → w.cell? ⟨g, o + j * 2, none⟩ = some (.int .u64 (m.1 : Int))
  body : ∀ j m, ms[j]? = some m → w.cell? ⟨g, o + j * 2 + 1, none⟩ = some (.string m.2)
theorem Ms.kept {w w' : World} {g o : Nat} {ms : List (Nat × ByteArray)} (h : Ms w g o ms) (hs : w.heap.size ≤ w'.heap.size) (hb : w'.heap[g]? = w.heap[g]?) : Ms w' g o ms :=
  ⟨Nat.lt_of_lt_of_le h.lt hs, fun j m hm => (World.cell?_of_block (a := ⟨g, o + j * 2, none⟩) hb).trans (h.num j m hm), fun j m hm => (World.cell?_of_block (a := ⟨g, o + j * 2 + 1, none⟩) hb).trans (h.body j m hm)⟩
theorem Ms.but {w w' : World} {g o b : Nat} {ms : List (Nat × ByteArray)} (h : Ms w g o ms) (hb : C.But b w w') (hn : g ≠ b) : Ms w' g o ms := h.kept hb.size (hb.block g h.lt hn)
set_option maxRecDepth 100000 in
set_option maxHeartbeats 1000000 in
theorem first_any (w : World) (b : Nat) (L : Lk) (win g o n c k : Nat) (h : Lb w b L (.slice (some ⟨g, o, none⟩) n c)) (hnc : n ≤ c) (hk : min win n = k) :
    Calls Tryz.prog 90 #[.pointer (some ⟨b, 5, none⟩), .int .i64 (win : Int)] w fun e w' => e = .returned (.slice (some ⟨g, o, none⟩) k c) ∧ Below w.heap.size w w' := by
  obtain ⟨-, -, -, -, -, c5, -⟩ := blk15 h
  have hmin : min (win : Int) (n : Int) = (k : Int) := by omega
  have i1 : (0 : Int) ≤ (k : Int) := by omega
  have i2 : (k : Int) ≤ (c : Int) := by omega
  have i3 : k ≤ c := by omega
  clear h hk
  go_enter Tryz.func90, Tryz.ntmps90
  go_wp2
  go_region_held3 (fun w' => w'.cell? ⟨b, 5, none⟩ = some (.slice (some ⟨g, o, none⟩) n c)) (go_keep) (fail)
  all_goals go_wp2
  all_goals go_ret
  all_goals exact ⟨rfl, (Below.refl _ _).drew⟩
set_option maxRecDepth 100000 in
set_option maxHeartbeats 1000000 in
theorem goes_any (w : World) (tb gb : Nat) (tm : Bool) (gn n : Nat) (s : ByteArray) (h1 : w.heap[tb]? = some (.cells #[.bool tm] 4 (0, 0))) (h2 : w.heap[gb]? = some (.cells #[.int .u64 (gn : Int)] 22 (0, 0))) :
    Calls Tryz.prog 38 #[.agg #[.int .u64 (n : Int), .string s], .pointer (some ⟨tb, 0, none⟩), .pointer (some ⟨gb, 0, none⟩)] w fun e w' => e = .returned (.bool (tm || decide (gn < n))) ∧ Below w.heap.size w w' := by
  obtain ⟨w1, hw1⟩ : ∃ w1, w.alloc (.cells #[.int .u64 (n : Int), .string s] 111) = w1 := ⟨_, rfl⟩
  have hb1 : Below w.heap.size w w1 := by rw [← hw1]; exact (Below.refl _ _).alloc (Nat.le_refl _) _
  have hk1 : w1.heap[w.heap.size]? = some (.cells #[.int .u64 (n : Int), .string s] 111 (0, 0)) := by rw [← hw1]; exact heap_alloc_new _ _
  have d0 : w1.cell? ⟨w.heap.size, 0, none⟩ = some (.int .u64 (n : Int)) := by simp [World.cell?, hk1]
  have t0 : w1.cell? ⟨tb, 0, none⟩ = some (.bool tm) := by have := (hb1.block tb (C.lt_of_block h1)).trans h1; simp [World.cell?, this]
  have g0 : w1.cell? ⟨gb, 0, none⟩ = some (.int .u64 (gn : Int)) := by have := (hb1.block gb (C.lt_of_block h2)).trans h2; simp [World.cell?, this]
  have HD : Hid (decide (gn < n) = decide ((gn : Int) < (n : Int))) := decide_eq_decide.2 (by omega)
  rw [HD.out]
  have HB := hide hb1
  clear hk1 hb1 h1 h2
  cases tm with
  | true =>
    go_enter Tryz.func38, Tryz.ntmps38
    go_upto_region 1 with (fail)
    try rw [hw1]
    go_wp2
    go_ret
    exact ⟨rfl, HB.out⟩
  | false =>
    go_enter Tryz.func38, Tryz.ntmps38
    go_upto_region 1 with (fail)
    try rw [hw1]
    go_wp2
    go_ret
    exact ⟨by simp, HB.out⟩
end Go.Proofs.YtjcdnclfakmbpaaGreatDoor
namespace Go.Proofs.YtjcdnclfakmbpaaGreatDoor
open Go.RowKit
def goN (tm : Bool) (gn : Nat) (m : Nat × ByteArray) : Bool := tm || decide (gn < m.1)
def outs (L : Lk) (tm : Bool) (gn : Nat) (ms : List (Nat × ByteArray)) : List (List Nat) := (ms.filter (goN tm gn)).map fun m => encB (lfr L m.1 m.2)
def gonM (q : Nat) (tm : Bool) (gn : Nat) (ms : List (Nat × ByteArray)) : Nat := (ms.filter (goN tm gn)).foldl (fun a m => max a m.1) q
def gonL (L : Lk) (tm : Bool) (gn : Nat) (ms : List (Nat × ByteArray)) : Lk := { L with gone := gonM L.gone tm gn ms }
theorem outs_yes {L : Lk} {tm : Bool} {gn : Nat} {ms : List (Nat × ByteArray)} {m : Nat × ByteArray} (h : goN tm gn m = true) : outs L tm gn (ms ++ [m]) = outs L tm gn ms ++ [encB (lfr L m.1 m.2)] := by simp [outs, List.filter_append, h]
theorem outs_no {L : Lk} {tm : Bool} {gn : Nat} {ms : List (Nat × ByteArray)} {m : Nat × ByteArray} (h : goN tm gn m = false) : outs L tm gn (ms ++ [m]) = outs L tm gn ms := by simp [outs, List.filter_append, h]
theorem gonL_yes {L : Lk} {tm : Bool} {gn : Nat} {ms : List (Nat × ByteArray)} {m : Nat × ByteArray} (h : goN tm gn m = true) : gonL L tm gn (ms ++ [m]) = { gonL L tm gn ms with gone := max (gonL L tm gn ms).gone m.1 } := by simp [gonL, gonM, List.filter_append, h]
theorem gonL_no {L : Lk} {tm : Bool} {gn : Nat} {ms : List (Nat × ByteArray)} {m : Nat × ByteArray} (h : goN tm gn m = false) : gonL L tm gn (ms ++ [m]) = gonL L tm gn ms := by simp [gonL, gonM, List.filter_append, h]
theorem outs_len (L : Lk) (tm : Bool) (gn : Nat) (ms : List (Nat × ByteArray)) : (outs L tm gn ms).length ≤ ms.length := by simp [outs]; exact List.length_filter_le _ _
theorem take_next {α : Type} {l : List α} {j : Nat} {x : α} (h : l[j]? = some x) : l.take (j + 1) = l.take j ++ [x] := by rw [List.take_add_one, h]; rfl
def Orow (B : Nat) (w : World) (a : Option Addr) (c : Nat) (ps : List (List Nat)) : Prop :=
  ∃ vs : List Value, w.ownsRow B 31 1 (Value.slice a ps.length c) ps.length vs ∧ ∀ (i : Nat) (p : List Nat), ps[i]? = some p → ∃ sp : Option Addr, vs[i]? = some (Value.slice sp p.length p.length) ∧ C.Mine B w sp p ∧ (∀ x ∈ p, x < 256) ∧ ∀ (j g l k g2 : Nat), j < i → vs[j]? = some (Value.slice (some ⟨g, 0, none⟩) l k) → sp = some ⟨g2, 0, none⟩ → g < g2
theorem orow_nil (B : Nat) (w : World) : Orow B w none 0 [] := ⟨[], ⟨rfl, Or.inl ⟨rfl, rfl⟩⟩, fun i p hp => by simp at hp⟩
theorem mine_same {B : Nat} {w w' : World} {sp : Option Addr} {ys : List Nat} (h : C.Mine B w sp ys) (hk : ∀ g D fr, B ≤ g → w.heap[g]? = some (.cells D 5 fr) → w'.heap[g]? = w.heap[g]?) : C.Mine B w' sp ys := by
  rcases h with h | ⟨g, e, h1, h2⟩
  · exact Or.inl h
  · exact Or.inr ⟨g, e, h1, (hk g _ _ h1 h2).trans h2⟩
theorem mine_mono {B B' : Nat} {w : World} {sp : Option Addr} {ys : List Nat} (h : C.Mine B w sp ys) (hB : B' ≤ B) : C.Mine B' w sp ys := by
  rcases h with h | ⟨g, e, h1, h2⟩
  · exact Or.inl h
  · exact Or.inr ⟨g, e, Nat.le_trans hB h1, h2⟩
theorem Orow.same {B : Nat} {w w' : World} {a : Option Addr} {c : Nat} {ps : List (List Nat)} (h : Orow B w a c ps) (hk : ∀ g, B ≤ g → g < w.heap.size → w'.heap[g]? = w.heap[g]?) : Orow B w' a c ps := by
  obtain ⟨vs, h1, h2⟩ := h
  refine ⟨vs, ⟨h1.1, h1.2.imp id ?_⟩, fun i p hp => ?_⟩
  · rintro ⟨g, cap, cur, e1, e2, e3, r⟩
    exact ⟨g, cap, cur, e1, e2, (hk g e2 (C.lt_of_block e3)).trans e3, r⟩
  · obtain ⟨sp, q1, q2, q3⟩ := h2 i p hp
    exact ⟨sp, q1, mine_same q2 (fun g D fr hg e => hk g hg (C.lt_of_block e)), q3⟩
theorem orow_add {B : Nat} {w w6 : World} {ps : List (List Nat)} {vs : List Value} {g' cap' : Nat} {sq : Option Addr} {p : List Nat} (hvl : vs.length = ps.length)
    (hel : ∀ (i : Nat) (p : List Nat), ps[i]? = some p → ∃ sp : Option Addr, vs[i]? = some (Value.slice sp p.length p.length) ∧ C.Mine B w sp p ∧ (∀ x ∈ p, x < 256) ∧ ∀ (j g l k g2 : Nat), j < i → vs[j]? = some (Value.slice (some ⟨g, 0, none⟩) l k) → sp = some ⟨g2, 0, none⟩ → g < g2)
    (hown : w6.ownsRow B 31 1 (.slice (some ⟨g', 0, none⟩) (ps.length + 1) cap') (ps.length + 1) (vs ++ [.slice sq p.length p.length]))
    (hm : C.Mine B w sq p) (hs : ∀ x ∈ p, x < 256) (hnew : ∀ (j g l k g2 : Nat), vs[j]? = some (Value.slice (some ⟨g, 0, none⟩) l k) → sq = some ⟨g2, 0, none⟩ → g < g2) (hk : ∀ g D fr, B ≤ g → w.heap[g]? = some (.cells D 5 fr) → w6.heap[g]? = w.heap[g]?) : Orow B w6 (some ⟨g', 0, none⟩) cap' (ps ++ [p]) := by
  refine ⟨vs ++ [.slice sq p.length p.length], by simpa using hown, fun i q hq => ?_⟩
  by_cases hi : i < ps.length
  · rw [List.getElem?_append_left hi] at hq
    obtain ⟨sp, q1, q2, q3⟩ := hel i q hq
    exact ⟨sp, by rw [List.getElem?_append_left (by omega)]; exact q1, mine_same q2 hk, q3.1, fun j g l k g2 hj hv he => q3.2 j g l k g2 hj (by rw [List.getElem?_append_left (by omega)] at hv; exact hv) he⟩
  · have hi2 : i = ps.length := by
      have := (List.getElem?_eq_some_iff.1 hq).1
      simp at this; omega
    subst hi2
    simp at hq
    subst hq
    exact ⟨sq, by rw [List.getElem?_append_right (by omega)]; simp [hvl], mine_same hm hk, hs, fun j g l k g2 hj hv he => hnew j g l k g2 (by rw [List.getElem?_append_left (by omega)] at hv; exact hv) he⟩
theorem Orow.below2 {B : Nat} {w w' : World} {a : Option Addr} {c : Nat} {ps : List (List Nat)} (h : Orow B w a c ps) (hb : Below w.heap.size w w') :
    ∃ vs : List Value, w'.ownsRow B 31 1 (Value.slice a ps.length c) ps.length vs ∧ (∀ (i : Nat) (p : List Nat), ps[i]? = some p → ∃ sp : Option Addr, vs[i]? = some (Value.slice sp p.length p.length) ∧ C.Mine B w' sp p ∧ (∀ x ∈ p, x < 256) ∧ ∀ (j g l k g2 : Nat), j < i → vs[j]? = some (Value.slice (some ⟨g, 0, none⟩) l k) → sp = some ⟨g2, 0, none⟩ → g < g2) ∧ ∀ (j g l k : Nat), vs[j]? = some (Value.slice (some ⟨g, 0, none⟩) l k) → g < w.heap.size := by
  obtain ⟨vs, h1, h2⟩ := h
  refine ⟨vs, ⟨h1.1, h1.2.imp id ?_⟩, fun i p hp => ?_, fun j g l k hv => ?_⟩
  · rintro ⟨g, cap, cur, e1, e2, e3, r⟩
    exact ⟨g, cap, cur, e1, e2, (hb.block g (C.lt_of_block e3)).trans e3, r⟩
  · obtain ⟨sp, q1, q2, q3⟩ := h2 i p hp
    exact ⟨sp, q1, mine_same q2 (fun g D fr hg e => hb.block g (C.lt_of_block e)), q3⟩
  · have hj : j < ps.length := by
      have h3 := (List.getElem?_eq_some_iff.1 hv).1
      have h4 := h1.1
      omega
    obtain ⟨sp, q1, q2, _⟩ := h2 j _ (List.getElem?_eq_getElem hj)
    rw [hv] at q1
    have e1 : sp = some ⟨g, 0, none⟩ := by injection q1 with q1; injection q1 with q1; exact q1.symm
    subst e1
    rcases q2 with ⟨e, _⟩ | ⟨g3, e, _, e3⟩
    · cases e
    · cases e; exact C.lt_of_block e3
structure Bd (w wr : World) (b : Nat) (L : Lk) (rv : Value) (tm : Bool) (gn : Nat) (a : Option Addr) (c q : Nat) (ms : List (Nat × ByteArray)) : Prop where
  lb : Lb wr b (gonL L tm gn ms) rv
  but : C.But b w wr
  row : Orow w.heap.size wr a c (outs L tm gn ms)
  len : (outs L tm gn ms).length = q
theorem Bd.below {w wr wd : World} {b : Nat} {L : Lk} {rv : Value} {tm : Bool} {gn : Nat} {a : Option Addr} {c q : Nat} {ms : List (Nat × ByteArray)} (h : Bd w wr b L rv tm gn a c q ms) (hb : Below wr.heap.size wr wd) : Bd w wd b L rv tm gn a c q ms :=
  ⟨h.lb.below hb, h.but.trans (C.but_of hb b), h.row.same (fun g _ hl => hb.block g hl), h.len⟩
theorem Bd.no {w wr : World} {b : Nat} {L : Lk} {rv : Value} {tm : Bool} {gn : Nat} {a : Option Addr} {c q : Nat} {ms : List (Nat × ByteArray)} {m : Nat × ByteArray} (h : Bd w wr b L rv tm gn a c q ms) (hn : goN tm gn m = false) : Bd w wr b L rv tm gn a c q (ms ++ [m]) :=
  ⟨by rw [gonL_no hn]; exact h.lb, h.but, by rw [outs_no hn]; exact h.row, by rw [outs_no hn]; exact h.len⟩
set_option maxRecDepth 100000 in
set_option maxHeartbeats 4000000 in
theorem bodies_any (w : World) (b : Nat) (L : Lk) (g o c tb gb : Nat) (tm : Bool) (gn : Nat) (ms : List (Nat × ByteArray)) (h : Lb w b L (.slice (some ⟨g, o, none⟩) ms.length c)) (hms : Ms w g o ms) (hnc : ms.length ≤ c) (hg : g ≠ b) (hwin : 0 ≤ L.window) (hkn : 0 < L.known)
    (ht : w.heap[tb]? = some (.cells #[.bool tm] 4 (0, 0))) (htb : tb ≠ b) (hgo : w.heap[gb]? = some (.cells #[.int .u64 (gn : Int)] 22 (0, 0))) (hgb : gb ≠ b) (hT : C.Tab w) (hb0 : 0 < b) (hlen : ms.length ≤ 1099511627776) :
    Calls Tryz.prog 37 #[.pointer (some ⟨b, 0, none⟩), .func (.func 38) #[] #[.pointer (some ⟨tb, 0, none⟩), .pointer (some ⟨gb, 0, none⟩)]] w fun e w' => ∃ a cc q, e = .returned (.slice a q cc) ∧ Bd w w' b L (.slice (some ⟨g, o, none⟩) ms.length c) tm gn a cc q (ms.take L.window.toNat) := by
  obtain ⟨win, hwn⟩ : ∃ win : Nat, L.window = (win : Int) := ⟨L.window.toNat, by omega⟩
  obtain ⟨k, hk⟩ : ∃ k, min win ms.length = k := ⟨_, rfl⟩
  have HTk : Hid (ms.take L.window.toNat = ms.take k) := by
    show _ = _
    rw [hwn, Int.toNat_natCast, ← hk]
    by_cases hw : win ≤ ms.length
    · rw [Nat.min_eq_left hw]
    · rw [Nat.min_eq_right (by omega), List.take_of_length_le (by omega), List.take_of_length_le (Nat.le_refl _)]
  rw [HTk.out]
  have HK := hide (known_any w b L _ h)
  rw [decide_eq_true hkn] at HK
  have HF := hide (first_any w.drew b L win g o ms.length c k h hnc hk)
  obtain ⟨-, -, -, c3, -⟩ := blk15 h
  rw [hwn] at c3
  have hlt := C.lt_of_block h
  have hkl : k ≤ ms.length := by omega
  have HL := hide h
  have HM := hide hms
  have HT := hide hT
  have Ht := hide ht
  have Hgo := hide hgo
  obtain ⟨rv, hrv⟩ : ∃ rv, Value.slice (some ⟨g, o, none⟩) ms.length c = rv := ⟨_, rfl⟩
  rw [hrv] at HL ⊢
  obtain ⟨i0, hi, hz0, hz1, hz2⟩ := info_parts Tryz.infoSl
  clear h hms hT ht hgo hk hwn HTk hrv
  go_enter Tryz.func37, Tryz.ntmps37
  go_wp2_with fail
  refine HK.out.mono ?_
  rintro e w1 ⟨rfl, rfl⟩
  go_wp2
  go_region_held3 (fun w' => w'.cell? ⟨b, 3, none⟩ = some (.int .i64 (win : Int))) (go_keep) (first | (go_at_call 90; refine HF.out.mono ?_; rintro e w2 ⟨rfl, hb2⟩; have c3n := (hb2.cell (p := ⟨b, 3, none⟩) hlt).trans c3; have HB2 := hide hb2; clear hb2))
  have HB3 : Hid (Below w1.heap.size w1 w2) := Below.trans ((Below.refl _ _).drew) HB2.out
  clear HF HB2 c3 c3n
  go_wp2
  go_loopw [5, 21] (fun s5 s21 wr => ∃ (j : Nat) (a : Option Addr) (cc q : Nat), j ≤ k ∧ s21 = .int .i64 j ∧ s5 = .slice a q cc ∧ Hid (Bd w1 wr b L rv tm gn a cc q (ms.take j))) (fun _ s21 _ => k - (intOf s21).toNat)
  case atStart => exact ⟨0, none, 0, 0, Nat.zero_le _, rfl, rfl, ⟨HL.out.below HB3.out, C.but_of HB3.out b, orow_nil _ _, rfl⟩⟩
  case round =>
    obtain ⟨j, a, cc, q, hj, rfl, rfl, HD⟩ := hrel
    by_cases hlt2 : j < k
    · obtain ⟨m, hm⟩ : ∃ m, ms[j]? = some m := ⟨_, List.getElem?_eq_getElem (by omega)⟩
      obtain ⟨n, s⟩ := m
      have hmr := HM.out.but HD.out.but hg
      have c0 := hmr.num j _ hm
      have c1 := hmr.body j _ hm
      simp only at c0 c1
      have i1 : (0 : Int) ≤ (j : Int) := by omega
      have i2 : (j : Int) < (k : Int) := by omega
      have HTn := hide (take_next hm)
      obtain ⟨wx, hwx⟩ : ∃ wx, wr.alloc (.cells #[.int .u64 (n : Int), .string s] 111) = wx := ⟨_, rfl⟩
      have hbx : Below wr.heap.size wr wx := by rw [← hwx]; exact (Below.refl _ _).alloc (Nat.le_refl _) _
      have hkx : wx.heap[wr.heap.size]? = some (.cells #[.int .u64 (n : Int), .string s] 111 (0, 0)) := by rw [← hwx]; exact heap_alloc_new _ _
      have d0 : wx.cell? ⟨wr.heap.size, 0, none⟩ = some (.int .u64 (n : Int)) := by simp [World.cell?, hkx]
      have d1 : wx.cell? ⟨wr.heap.size, 1, none⟩ = some (.string s) := by simp [World.cell?, hkx]
      have hDx := HD.out.below hbx
      have HG := hide (goes_any wx tb gb tm gn n s ((hDx.but.block tb (C.lt_of_block Ht.out) htb).trans Ht.out) ((hDx.but.block gb (C.lt_of_block Hgo.out) hgb).trans Hgo.out))
      have HDx := hide hDx
      have HKx := hide hkx
      have HW := hide hwx
      have hsz : w1.heap.size ≤ wr.heap.size := HD.out.but.size
      clear hmr hm hbx hkx hDx hwx
      cases hy : goN tm gn (n, s) with
      | false =>
        have hy2 : (tm || decide (gn < n)) = false := hy
        rw [hy2] at HG
        have HY := hide hy
        clear hy hy2
        go_wp2_with fail
        rw [HW.out]
        refine HG.out.mono ?_
        rintro e w4 ⟨rfl, hb4⟩
        have HD4 := hide (HDx.out.below hb4)
        clear hb4
        go_wp2
        go_roundw
        case rel => exact ⟨j + 1, a, cc, q, by omega, by go_num, rfl, by rw [HTn.out]; exact HD4.out.no HY.out⟩
        case measure => simp [intOf]; omega
      | true =>
        have hy2 : (tm || decide (gn < n)) = true := hy
        rw [hy2] at HG
        have HY := hide hy
        clear hy hy2
        go_wp2_with fail
        rw [HW.out]
        refine HG.out.mono ?_
        rintro e w4 ⟨rfl, hb4⟩
        have hD4 := HDx.out.below hb4
        have hk4 := (hb4.block _ (C.lt_of_block HKx.out)).trans HKx.out
        have e0 : w4.cell? ⟨wr.heap.size, 0, none⟩ = some (.int .u64 (n : Int)) := by simp [World.cell?, hk4]
        have e1 : w4.cell? ⟨wr.heap.size, 1, none⟩ = some (.string s) := by simp [World.cell?, hk4]
        have hTb : C.Tab w4 := fun i hi => by
          have hpos := HT.out.pos
          rw [World.cell?_of_block (w := w1) (a := ⟨0, i, none⟩) (hD4.but.block 0 hpos (by omega))]; exact HT.out i hi
        have HF := hide (frame_any w4 b (gonL L tm gn (ms.take j)) rv n s hD4.lb hTb)
        have hlf : lfr (gonL L tm gn (ms.take j)) n s = lfr L n s := rfl
        rw [hlf] at HF
        have hEs : ∀ x ∈ encB (lfr L n s), x < 256 := encB_small (nums_small s)
        have HYo := hide (outs_yes (L := L) (ms := ms.take j) HY.out)
        have HYg := hide (gonL_yes (L := L) (ms := ms.take j) HY.out)
        simp only at HYo HYg
        obtain ⟨EB, hEB⟩ : ∃ EB, encB (lfr L n s) = EB := ⟨_, rfl⟩
        rw [hEB] at HF hEs HYo
        have HEs := hide hEs
        have HD4 := hide hD4
        have HK4 := hide hk4
        have hown_lt : ∀ k, (Value.slice a q cc).ownBlock = some k → w1.heap.size ≤ k ∧ k < wr.heap.size := by
          obtain ⟨vs0, hvs0, _⟩ := HD.out.row
          rw [HD.out.len] at hvs0
          exact hvs0.lt
        have HOl := hide hown_lt
        have hq : q ≤ 1099511627776 := by
          have h1 := outs_len L tm gn (ms.take j)
          rw [HD.out.len] at h1
          have h2 : (ms.take j).length ≤ ms.length := by simp; omega
          omega
        have hsx : wr.heap.size < w4.heap.size := C.lt_of_block hk4
        clear hlf hEB hEs hTb hD4 hk4 hb4 hown_lt d0 d1 c0 c1 HG
        go_wp2_with fail
        refine HF.out.mono ?_
        rintro e w5 ⟨sq, m, hm, rfl, hmi, hb5⟩
        have hD5 := HD4.out.below hb5
        obtain ⟨vs, ho5, hel, hvlt⟩ := HD4.out.row.below2 hb5
        have HNw : Hid (∀ (j g l k g2 : Nat), vs[j]? = some (Value.slice (some ⟨g, 0, none⟩) l k) → sq = some ⟨g2, 0, none⟩ → g < g2) := fun j g l k g2 hv he => by
          have h1 := hvlt j g l k hv
          rcases hmi with ⟨e, _⟩ | ⟨g3, e, e2, _⟩
          · rw [he] at e; cases e
          · rw [he] at e; cases e; omega
        clear hvlt
        rw [hD5.len] at ho5
        have hvl : vs.length = q := by have := ho5.1; omega
        have HO5 := hide (ho5.alloc (.cells #[.slice sq m m] 31))
        have Hel := hide hel
        have HU5 : Hid (∀ (k : Nat) (D : Array Value) (fr : Nat × Nat), w5.heap[k]? = some (.cells D 5 fr) → some k ≠ (Value.slice a q cc).ownBlock) := by
          intro k D fr hk e
          rcases ho5.2 with ⟨h1, _⟩ | ⟨g2, _, _, h1, _, h3, _⟩
          · rw [h1] at e; simp [Value.ownBlock] at e
          · rw [h1] at e; simp [Value.ownBlock] at e; subst e
            rw [h3] at hk; simp at hk
        have HD5 := hide hD5
        have HK5 := hide ((hb5.block _ (C.lt_of_block HK4.out)).trans HK4.out)
        have HMi := hide (mine_mono hmi (Nat.le_trans hsz (Nat.le_of_lt hsx)))
        have hs5 : w4.heap.size ≤ w5.heap.size := hb5.size
        have HVl := hide hvl
        subst hm
        clear hmi hb5 HF hD5 ho5 hel hvl e0 e1
        go_wp2_with (at_builtin; refine wpList_append_lies _ rfl (.tmp 28) (.tmp 32) 44 rfl w1.heap.size 31 i0 (.slice none 0 0) 1 24 Tryz.underlying44 hi hz0 hz1 hz2 rfl (by omega) (.slice a q cc) q vs rfl HO5.out ⟨w5.heap.size, 0, none⟩ 1 1 [.slice sq EB.length EB.length] rfl rfl (World.news_of_block (heap_alloc_new w5 (.cells #[.slice sq EB.length EB.length] 31))) (by simp [Value.oneCell']) (by omega) (by unfold maxLen; omega) (by omega) (by simp; omega) _ rfl ?_; intro g' cap' w6 hown hgrow hat hltg; have HK6 : Hid (∀ k, k < w5.heap.size → some k ≠ (Value.slice a q cc).ownBlock → w6.heap[k]? = w5.heap[k]?) := (fun k hk hne => (hgrow.block k (by simp; omega) hne).trans (heap_alloc_old w5 _ hk)); have HO6 := hide hown; have HG6 := hide hgrow; clear hown hgrow hat hltg)
        have hl5 : b < w1.heap.size := by omega
        have hb6 : w6.heap[b]? = w5.heap[b]? := HK6.out b (by omega) (fun e => by have := HOl.out b e.symm; omega)
        have hx6 : w6.heap[wr.heap.size]? = w5.heap[wr.heap.size]? := HK6.out _ (by omega) (fun e => by have := HOl.out _ e.symm; omega)
        have hl6 := HD5.out.lb.kept hb6
        obtain ⟨-, -, -, -, -, -, -, c7, -, -, -, -, -, -, -, cf⟩ := blk15 hl6
        have HL6 := hide hl6
        have y0 : w6.cell? ⟨wr.heap.size, 0, none⟩ = some (.int .u64 (n : Int)) := by have := hx6.trans HK5.out; simp [World.cell?, this]
        clear hb6 hx6 hl6
        obtain ⟨G, hG⟩ : ∃ G, (gonL L tm gn (ms.take j)).gone = G := ⟨_, rfl⟩
        rw [hG] at c7
        have hmax : max (G : Int) (n : Int) = ((max G n : Nat) : Int) := by omega
        have HGe := hide hG
        clear hG
        generalize hN : max G n = N at hmax
        have HN := hide hN
        clear hN
        have HFin : Hid (Bd w1 ((w6.setCell ⟨b, 7, none⟩ (.int .u64 (N : Int))).drew) b L rv tm gn (some ⟨g', 0, none⟩) cap' (q + 1) (ms.take (j + 1))) := by
          have hkb : ∀ k, k ≠ b → ((w6.setCell ⟨b, 7, none⟩ (.int .u64 (N : Int))).drew).heap[k]? = w6.heap[k]? := fun k hk => Below.heap_setCell _ _ _ _ (by simpa using hk)
          have hsz6 : w5.heap.size ≤ w6.heap.size := by have := HG6.out.size; simp at this; omega
          rw [HTn.out]
          refine ⟨?_, ?_, ?_, ?_⟩
          · rw [HYg.out, HGe.out, HN.out]
            exact HL6.out.set 7 _ _ rv rfl
          · have h5 := HD5.out.but
            refine ⟨(HG6.out.os).trans h5.os, (HG6.out.tape).trans h5.tape, (HG6.out.output).trans h5.output, ?_, fun k hk hkb2 => ?_⟩
            · show w1.heap.size ≤ (w6.setCell _ _).heap.size
              simp only [World.setCell]
              simp
              omega
            · rw [hkb k hkb2, HK6.out k (by omega) (fun e => by have := HOl.out k e.symm; omega)]
              exact h5.block k hk hkb2
          · rw [HYo.out]
            have hlen5 := HD5.out.len
            have ho : Orow w1.heap.size w6 (some ⟨g', 0, none⟩) cap' (outs L tm gn (ms.take j) ++ [EB]) :=
              orow_add (by rw [hlen5]; exact HVl.out) Hel.out (by rw [hlen5]; exact HO6.out) HMi.out HEs.out HNw.out (fun k D fr _ hk => HK6.out k (C.lt_of_block hk) (HU5.out k D fr hk))
            exact ho.same (fun k hk _ => hkb k (by omega))
          · rw [HYo.out, List.length_append, HD5.out.len]; rfl
        go_region_with (fail)
        all_goals (go_wp2; go_roundw; all_goals (first | exact ⟨j + 1, some ⟨g', 0, none⟩, cap', q + 1, by omega, by go_num, rfl, HFin⟩ | (simp [intOf]; omega)))
    · obtain rfl : j = k := by omega
      have i2 : ¬ (j : Int) < (j : Int) := by omega
      go_wp2
      go_ret
      exact ⟨a, cc, q, rfl, HD.out⟩
end Go.Proofs.YtjcdnclfakmbpaaGreatDoor
