import Derived.Test.YtbcpoejpbhpcbaaDoorEnC
namespace Go.Proofs.YtbcpoejpbhpcbaaDoor
open Go.RowKit

theorem and1 (z : Int) : bits .and .i64 z 1 = 0 ∨ bits .and .i64 z 1 = 1 := by
  have h : bits .and .i64 z 1 = (((BitVec.ofInt 64 z).toNat % 2 : Nat) : Int) := by
    show IntKind.i64.wrap ((BitVec.ofInt 64 z &&& BitVec.ofInt 64 1).toNat : Int) = _
    have h1 : (BitVec.ofInt 64 (1 : Int)).toNat = 2 ^ 1 - 1 := by decide
    rw [BitVec.toNat_and, h1, Nat.and_two_pow_sub_one_eq_mod, IntKind.wrap_i64]
    omega
  rw [h]
  omega
set_option maxRecDepth 100000 in
theorem num_any (w : World) (z : Int) : Calls Tryd.prog 22 #[.int .i64 z] w fun e w' => e = .returned (.int .i64 z) ∧ w' = w := by
  go_enter Tryd.func22, Tryd.ntmps22
  go_wp2
  go_ret
  exact ⟨rfl, rfl⟩
theorem sendN_win (L : Lk) (s : ByteArray) : (sendN L s).window = L.window := by unfold sendN sendL; split <;> rfl
section
variable {W M l0 l1 : Nat} {A B : Lk} {S T : List Sm} {es : List Fe} {k : Nat}
theorem Pd.up (h : Pd W M l0 l1 A B S T es k) : Pd W M l0 l1 A B S T es (k + 1) := ⟨h.a.up, h.b.up, h.wa, h.wb, h.fok, by have := h.el; omega, by have := h.sl; omega, by have := h.tl; omega, h.w1, h.m1⟩
theorem Pd.nowed0 {S' : List Sm} (h : Pd W M l0 l1 A B S T es k) (hk : A.known ≠ 0) (hs : NowS S S' l0 A.known) : Pd W M l0 l1 A B S' T es (k + 1) := by
  obtain ⟨hg, hl⟩ := hs.grow
  exact ⟨(h.a.nowS hk hs).up, h.b.up, h.wa, h.wb, fun e he => (h.fok e he).imp (fun q => q.grow (Nat.le_refl _) hg) id, by have := h.el; omega, by have := h.sl; omega, by have := h.tl; omega, h.w1, h.m1⟩
theorem Pd.sentz0 (h : Pd W M l0 l1 A B S T es k) (hk : A.known = 0) (s : ByteArray) (hs : s.size ≤ 2048) : Pd W M l0 l1 (sendN A s) B S T es (k + 1) :=
  ⟨h.a.send0 hk s hs, h.b.up, (sendN_win _ _).trans h.wa, h.wb, h.fok, by have := h.el; omega, by have := h.sl; omega, by have := h.tl; omega, h.w1, h.m1⟩
theorem Pd.sent0 {S' : List Sm} {n : Nat} {x : Sm} (h : Pd W M l0 l1 A B S T es k) (hk : A.known ≠ 0) (hs : NowS S S' l0 A.known) (hx : S'[n]? = some x) (q1 : x.mine = l0) (q2 : x.yours = A.known) (s : ByteArray) (hs2 : s.size ≤ 2048) (iv : Value) : Pd W M l0 l1 (sendN A s) B (S'.set n { x with iv := iv, inn := x.inn ++ [nums s] }) T es (k + 1) := by
  obtain ⟨hg1, hl⟩ := hs.grow
  have hg : Grow S (S'.set n { x with iv := iv, inn := x.inn ++ [nums s] }) := hg1.trans (grow_set hx rfl rfl (fun m b q => by
    show (x.inn ++ [nums s])[m]? = some b
    rw [List.getElem?_append_left (List.getElem?_eq_some_iff.1 q).1]
    exact q))
  exact ⟨(h.a.nowS hk hs).send hk hx q1 q2 s hs2 iv, h.b.up, (sendN_win _ _).trans h.wa, h.wb, fun e he => (h.fok e he).imp (fun q => q.grow (Nat.le_refl _) hg) id, by have := h.el; omega, by have := h.sl; rw [List.length_set]; omega, by have := h.tl; omega, h.w1, h.m1⟩
theorem Pd.nowed1 {S' : List Sm} (h : Pd W M l0 l1 A B S T es k) (hk : B.known ≠ 0) (hs : NowS T S' l1 B.known) : Pd W M l0 l1 A B S S' es (k + 1) := by
  obtain ⟨hg, hl⟩ := hs.grow
  exact ⟨h.a.up, (h.b.nowS hk hs).up, h.wa, h.wb, fun e he => (h.fok e he).imp id (fun q => q.grow (Nat.le_refl _) hg), by have := h.el; omega, by have := h.sl; omega, by have := h.tl; omega, h.w1, h.m1⟩
theorem Pd.sentz1 (h : Pd W M l0 l1 A B S T es k) (hk : B.known = 0) (s : ByteArray) (hs : s.size ≤ 2048) : Pd W M l0 l1 A (sendN B s) S T es (k + 1) :=
  ⟨h.a.up, h.b.send0 hk s hs, h.wa, (sendN_win _ _).trans h.wb, h.fok, by have := h.el; omega, by have := h.sl; omega, by have := h.tl; omega, h.w1, h.m1⟩
theorem Pd.sent1 {S' : List Sm} {n : Nat} {x : Sm} (h : Pd W M l0 l1 A B S T es k) (hk : B.known ≠ 0) (hs : NowS T S' l1 B.known) (hx : S'[n]? = some x) (q1 : x.mine = l1) (q2 : x.yours = B.known) (s : ByteArray) (hs2 : s.size ≤ 2048) (iv : Value) : Pd W M l0 l1 A (sendN B s) S (S'.set n { x with iv := iv, inn := x.inn ++ [nums s] }) es (k + 1) := by
  obtain ⟨hg1, hl⟩ := hs.grow
  have hg : Grow T (S'.set n { x with iv := iv, inn := x.inn ++ [nums s] }) := hg1.trans (grow_set hx rfl rfl (fun m b q => by
    show (x.inn ++ [nums s])[m]? = some b
    rw [List.getElem?_append_left (List.getElem?_eq_some_iff.1 q).1]
    exact q))
  exact ⟨h.a.up, (h.b.nowS hk hs).send hk hx q1 q2 s hs2 iv, h.wa, (sendN_win _ _).trans h.wb, fun e he => (h.fok e he).imp id (fun q => q.grow (Nat.le_refl _) hg), by have := h.el; omega, by have := h.sl; omega, by have := h.tl; rw [List.length_set]; omega, h.w1, h.m1⟩
end
/-- One of the frames that were sent. -/
theorem sent_at {w : World} {K : Knd} {k : Nat × Nat} {v : Value} {es : List Fe} {n : Nat} {e : Fe} (h : Rk w K k 54 7 v es.length (sentC es)) (he : es[n]? = some e) :
    ∃ g c, v = .slice (some ⟨g, 0, none⟩) es.length c ∧ ∀ (j : Nat) (u : Value), (feC e)[j]? = some u → w.cell? ⟨g, n * 7 + j, none⟩ = some u := by
  have hn := (List.getElem?_eq_some_iff.1 he).1
  rcases h.own.2 with ⟨_, h1⟩ | ⟨g, c, cur, h1, h2, h3, h4, h5, h6, h7⟩
  · omega
  · refine ⟨g, c, h1, fun j u hu => ?_⟩
    have hj : j < 7 := by
      have := (List.getElem?_eq_some_iff.1 hu).1
      simpa [feC] using this
    have e1 : (sentC es)[n * 7 + j]? = some u := by
      have hs : es = es.take n ++ (e :: es.drop (n + 1)) := by
        have h8 := List.getElem?_eq_some_iff.1 he
        obtain ⟨h9, h10⟩ := h8
        rw [← h10, List.getElem_cons_drop, List.take_append_drop]
      have hl : (sentC (es.take n)).length = n * 7 := by rw [sentC_len, List.length_take, Nat.min_eq_left (by omega)]
      rw [hs]
      unfold sentC at hl ⊢
      rw [List.flatMap_append, List.getElem?_append_right (by omega), hl, List.flatMap_cons, show n * 7 + j - n * 7 = j by omega, List.getElem?_append_left (List.getElem?_eq_some_iff.1 hu).1]
      exact hu
    rw [← h7, List.getElem?_take, if_pos (by omega)] at e1
    simp only [World.cell?, h3]
    simpa using e1
end Go.Proofs.YtbcpoejpbhpcbaaDoor
