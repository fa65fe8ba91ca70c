import Derived.Test.YtlnldipiofddkaaPair
import Derived.Test.YtlnldipiofddkaaTurn4
namespace Go.Proofs.Ytlnldipiofddkaa
open Go.RowKit

theorem blk2 {w : World} {b : Nat} {x0 x1 : Value} {t : TypeId} (h : w.heap[b]? = some (.cells #[x0, x1] t (0, 0))) : w.cell? ⟨b, 0, none⟩ = some x0 ∧ w.cell? ⟨b, 1, none⟩ = some x1 ∧ (∀ o, w.frozen? ⟨b, o, none⟩ = false) :=
  ⟨by simp [World.cell?, h], by simp [World.cell?, h], fun o => by simp [World.frozen?, h]⟩

theorem le_step {a b n k : Nat} (h : a ≤ k * 4194314) (hn : n ≤ b + 10) (hb : b ≤ 4194304) : a + n ≤ (k + 1) * 4194314 := by omega
theorem le_step0 {a k : Nat} (h : a ≤ k * 4194314) : a ≤ (k + 1) * 4194314 := Nat.le_trans h (Nat.mul_le_mul_right _ (Nat.le_succ k))
theorem owns_form2 {w : World} {n : Nat} {v : Value} {xs : List Value} (h : w.ownsRow 0 5 1 v n xs) : ∃ a m c, v = .slice a m c := by
  obtain ⟨a, c, e, _⟩ := owns_form h
  exact ⟨a, _, c, e⟩

/-- As the steps begin. -/
structure Start (w w5 : World) (b0 b1 A H : Nat) : Prop where
  below : Below w.heap.size w w5
  size : w5.heap.size = H + 1
  o1 : b0 < b1
  o2 : b1 < A
  o3 : A < H
  w0 : Wr w5 b0 (.slice none 0 0) []
  w1 : Wr w5 b1 (.slice none 0 0) []
  aa : w5.heap[A]? = some (.cells #[.pointer (some ⟨b0, 0, none⟩), .pointer (some ⟨b1, 0, none⟩)] 29 (0, 0))
  hh : w5.heap[H]? = some (.cells #[.slice none 0 0, .slice none 0 0] 23 (0, 0))

theorem nil_row (w : World) : w.ownsRow 0 5 1 (.slice none 0 0) 0 (vals []) := ⟨rfl, Or.inl ⟨rfl, rfl⟩⟩

theorem start_of {w w5 : World} {p0 p1 po : Option Addr} {l0 c0 l1 c1 lo co : Nat} (h : w5 = (((((w.alloc (.cells #[.slice p0 l0 c0, .slice p1 l1 c1, .slice po lo co] 26)).alloc (.cells #[.slice none 0 0] 89)).alloc (.cells #[.slice none 0 0] 89)).alloc (.cells #[.pointer (some ⟨w.heap.size + 1, 0, none⟩), .pointer (some ⟨w.heap.size + 1 + 1, 0, none⟩)] 29)).alloc (.cells #[.slice none 0 0, .slice none 0 0] 23))) :
    Start w w5 (w.heap.size + 1) (w.heap.size + 1 + 1) (w.heap.size + 1 + 1 + 1) (w.heap.size + 1 + 1 + 1 + 1) := by
  subst h
  generalize hu0 : w.alloc (.cells #[.slice p0 l0 c0, .slice p1 l1 c1, .slice po lo co] 26) = u0
  have s0 : u0.heap.size = w.heap.size + 1 := by rw [← hu0]; simp
  have b0 : Below w.heap.size w u0 := by rw [← hu0]; exact (Below.refl _ _).alloc (Nat.le_refl _) _
  clear hu0
  have W0 := new_wr u0
  generalize hu1 : u0.alloc (.cells #[.slice none 0 0] 89) = u1 at *
  have s1 : u1.heap.size = w.heap.size + 1 + 1 := by rw [← hu1]; simp [s0]
  have b1 : Below w.heap.size w u1 := by rw [← hu1]; exact b0.alloc b0.size _
  rw [s0] at W0
  clear hu1
  have W1 := new_wr u1
  have W0' := W0.below ((Below.refl _ _).alloc (Nat.le_refl _) (.cells #[.slice none 0 0] 89))
  generalize hu2 : u1.alloc (.cells #[.slice none 0 0] 89) = u2 at *
  have s2 : u2.heap.size = w.heap.size + 1 + 1 + 1 := by rw [← hu2]; simp [s1]
  have b2 : Below w.heap.size w u2 := by rw [← hu2]; exact b1.alloc b1.size _
  rw [s1] at W1
  clear hu2
  have A3 := heap_alloc_new u2 (.cells #[.pointer (some ⟨w.heap.size + 1, 0, none⟩), .pointer (some ⟨w.heap.size + 1 + 1, 0, none⟩)] 29 (0, 0))
  have W0'' := W0'.below ((Below.refl _ _).alloc (Nat.le_refl _) (.cells #[.pointer (some ⟨w.heap.size + 1, 0, none⟩), .pointer (some ⟨w.heap.size + 1 + 1, 0, none⟩)] 29))
  have W1' := W1.below ((Below.refl _ _).alloc (Nat.le_refl _) (.cells #[.pointer (some ⟨w.heap.size + 1, 0, none⟩), .pointer (some ⟨w.heap.size + 1 + 1, 0, none⟩)] 29))
  generalize hu3 : u2.alloc (.cells #[.pointer (some ⟨w.heap.size + 1, 0, none⟩), .pointer (some ⟨w.heap.size + 1 + 1, 0, none⟩)] 29) = u3 at *
  have s3 : u3.heap.size = w.heap.size + 1 + 1 + 1 + 1 := by rw [← hu3]; simp [s2]
  have b3 : Below w.heap.size w u3 := by rw [← hu3]; exact b2.alloc b2.size _
  rw [s2] at A3
  clear hu3
  have hB : Below u3.heap.size u3 (u3.alloc (.cells #[.slice none 0 0, .slice none 0 0] 23)) := (Below.refl _ _).alloc (Nat.le_refl _) _
  have H4 := heap_alloc_new u3 (.cells #[.slice none 0 0, .slice none 0 0] 23 (0, 0))
  rw [s3] at H4
  exact ⟨b3.alloc b3.size _, by simp [s3], by omega, by omega, by omega, W0''.below hB, W1'.below hB, (hB.block _ (lt_of_block A3)).trans A3, H4⟩

theorem Start.pair {w w5 u : World} {b0 b1 A H : Nat} (s : Start w w5 b0 b1 A H) (k : Below w5.heap.size w5 u) : Pair u u b0 b1 A H (.slice none 0 0) (.slice none 0 0) (.slice none 0 0) (.slice none 0 0) [] [] := by
  have e : ∀ g, (Value.slice none 0 0).ownBlock = some g → False := fun g e => by simp [Value.ownBlock] at e
  have f : Far (.slice none 0 0) (.slice none 0 0) := fun g h => (e g h).elim
  refine ⟨s.w0.below k, s.w1.below k, (k.block _ (lt_of_block s.aa)).trans s.aa, (k.block _ (lt_of_block s.hh)).trans s.hh, nil_row u, nil_row u, s.o1, s.o2, s.o3, ?_, fun g h => (e g h).elim, fun g h => (e g h).elim, fun g h => (e g h).elim, fun g h => (e g h).elim, f, f, f, f, f, f, Kept.refl _ _⟩
  have := k.size
  have := s.size
  omega

theorem Pair.far0 {u wr w' : World} {b0 b1 A H : Nat} {v0 v1 h0 h1 v' h' : Value} {x0 x1 y : List Nat} {C : Array Value} (p : Pair u (wr.alloc (.cells C 33)).drew b0 b1 A H v0 v1 h0 h1 x0 x1) (_d : Did (wr.alloc (.cells C 33)).drew b0 v0 h0 w' v' h' y y) : ¬ Turns b0 v0 h0 wr.heap.size := by
  have hb : (wr.alloc (.cells C 33)).drew.heap[wr.heap.size]? = some (.cells C 33 (0, 0)) := heap_alloc_new wr (.cells C 33 (0, 0))
  rintro (e | e | e)
  · have := p.w0.blk
    rw [← e, hb] at this
    simp at this
  · exact owns_ne p.w0.own hb (by decide) e.symm
  · exact owns_ne p.d0 hb (by decide) e.symm

theorem Pair.far1 {u wr w' : World} {b0 b1 A H : Nat} {v0 v1 h0 h1 v' h' : Value} {x0 x1 y : List Nat} {C : Array Value} (p : Pair u (wr.alloc (.cells C 33)).drew b0 b1 A H v0 v1 h0 h1 x0 x1) (_d : Did (wr.alloc (.cells C 33)).drew b1 v1 h1 w' v' h' y y) : ¬ Turns b1 v1 h1 wr.heap.size := by
  have hb : (wr.alloc (.cells C 33)).drew.heap[wr.heap.size]? = some (.cells C 33 (0, 0)) := heap_alloc_new wr (.cells C 33 (0, 0))
  rintro (e | e | e)
  · have := p.w1.blk
    rw [← e, hb] at this
    simp at this
  · exact owns_ne p.w1.own hb (by decide) e.symm
  · exact owns_ne p.d1 hb (by decide) e.symm

set_option maxRecDepth 100000 in
set_option maxHeartbeats 4000000 in
theorem writes_walk (w : World) (p0 p1 po : Option Addr) (l0 c0 l1 c1 lo co : Nat) (ops : List Op1) (hlo : ops.length = lo) (hlo2 : lo ≤ 140737488351232) (hO : OpsIn w po ops) :
    Calls Try.prog 3 #[.agg #[.slice p0 l0 c0, .slice p1 l1 c1, .slice po lo co]] w fun e w' => e = .returned (.bool true) ∧ Below w.heap.size w w' := by
  obtain ⟨w5, hw5⟩ : ∃ w5, w5 = (((((w.alloc (.cells #[.slice p0 l0 c0, .slice p1 l1 c1, .slice po lo co] 26)).alloc (.cells #[.slice none 0 0] 89)).alloc (.cells #[.slice none 0 0] 89)).alloc (.cells #[.pointer (some ⟨w.heap.size + 1, 0, none⟩), .pointer (some ⟨w.heap.size + 1 + 1, 0, none⟩)] 29)).alloc (.cells #[.slice none 0 0, .slice none 0 0] 23)) := ⟨_, rfl⟩
  have HW5 : Hid (Start w w5 (w.heap.size + 1) (w.heap.size + 1 + 1) (w.heap.size + 1 + 1 + 1) (w.heap.size + 1 + 1 + 1 + 1)) := start_of hw5
  have HPl := hide (played_any (fun k => k < w.heap.size) w5 po lo co ops hlo hlo2 (hO.s.kept (fun k hk _ => HW5.out.below.block k hk) HW5.out.below.size))
  have HP4 : Hid ((playsF 4194304 (ops.take 400)).length ≤ 400) := by show _ ≤ _; rw [plays_length, List.length_take]; omega
  have HPs := hide (plays_sum (ops.take 400) 4194304)
  generalize playsF 4194304 (ops.take 400) = P at *
  clear hO hlo
  go_enter Try.func3, Try.ntmps3
  go_wp2_with fail
  refine (new_any _).mono ?_
  rintro e w1 ⟨rfl, rfl⟩
  go_wp2_with fail
  refine (new_any _).mono ?_
  rintro e w1 ⟨rfl, rfl⟩
  go_wp2_with fail
  rw [← hw5]
  clear hw5
  have hP4 : P.length ≤ 400 := HP4.out
  refine HPl.out.mono ?_
  rintro e u ⟨sq, cc, rfl, hO2, hb2⟩
  clear HPl
  have HP0 := hide (HW5.out.pair hb2)
  have HB0 : Hid (Below w.heap.size w u) := HW5.out.below.trans (hb2.mono HW5.out.below.size)
  have HOp : Hid (OpsS (fun k => (k < w.heap.size ∨ w5.heap.size ≤ k) ∧ k < u.heap.size) u sq P) := by
    refine ⟨hO2.nums, fun o ho => (hO2.bytes o ho).imp (fun k hk h => ⟨h, hk⟩), ?_⟩
    rcases hO2.lie with h | ⟨g, o, e, hS, hg, hc⟩
    · exact Or.inl h
    · exact Or.inr ⟨g, o, e, ⟨hS, hg⟩, hg, hc⟩
  have HN : Hid (w.heap.size ≤ w.heap.size + 1) := Nat.le_succ _
  have HS : Hid (∀ k, ((k < w.heap.size ∨ w5.heap.size ≤ k) ∧ k < u.heap.size) → k ≠ w.heap.size + 1 ∧ k ≠ w.heap.size + 1 + 1 ∧ k ≠ w.heap.size + 1 + 1 + 1 + 1 ∧ k < u.heap.size) := fun k hk => by have := HW5.out.size; omega
  have HBase : Hid (∀ k, (k = w.heap.size + 1 ∨ k = w.heap.size + 1 + 1 ∨ k = w.heap.size + 1 + 1 + 1 + 1) → w.heap.size ≤ k) := fun k hk => by omega
  clear hO2 hb2 HN HW5
  generalize w.heap.size + 1 + 1 + 1 + 1 = H at *
  generalize w.heap.size + 1 + 1 + 1 = A at *
  generalize w.heap.size + 1 + 1 = b1 at *
  generalize w.heap.size + 1 = b0 at *
  go_wp2
  go_loopw [6] (fun i wr => ∃ (k : Nat) (v0 v1 h0 h1 : Value) (x0 x1 : List Nat), k ≤ P.length ∧ i = .int .i64 k ∧ Hid (Pair u wr b0 b1 A H v0 v1 h0 h1 x0 x1) ∧ Hid (x0.length ≤ k * 4194314) ∧ Hid (x1.length ≤ k * 4194314)) (fun i _ => P.length - (intOf i).toNat)
  case atStart => exact ⟨0, _, _, _, _, [], [], Nat.zero_le _, rfl, HP0, by simp [Hid], by simp [Hid]⟩
  case round =>
    obtain ⟨k, v0, v1, h0, h1, x0, x1, hk, rfl, HP, HX0, HX1⟩ := hrel
    clear HP0
    by_cases hlt : k < P.length
    · obtain ⟨g, o, rfl⟩ : ∃ g o, sq = some ⟨g, o, none⟩ := by
        rcases HOp.out.lie with h | ⟨g, o, e, _⟩
        · subst h; simp at hlt
        · exact ⟨g, o, e⟩
      have hop : P[k]? = some (P[k]'hlt) := List.getElem?_eq_getElem _
      have HOr := hide (HOp.out.kept (w' := wr) (fun k hk hlt => HP.out.kept.block k hlt (fun e => by have := HS.out k hk; omega)) HP.out.kept.size)
      obtain ⟨d0, d1, d2, d3, d4⟩ := ops_at HOr.out k _ hop
      have hmem := hide (List.mem_of_getElem? hop)
      have hbl := bl_le P HPs.out _ hmem.out
      generalize P[k]'hlt = p at *
      clear hop HOr
      have hk4 : k < 400 := by omega
      obtain ⟨a0, a1, af⟩ := blk2 HP.out.aa
      obtain ⟨g0, g1, gf⟩ := blk2 HP.out.hh
      have l1 : (k : Int) < (P.length : Int) := by omega
      have l2 : (0 : Int) ≤ (k : Int) := by omega
      go_wp2_with fail
      refine (into_2 _ p.which).mono ?_
      rintro e w6 ⟨rfl, rfl⟩
      have hj : intoP p.which 2 = 0 ∨ intoP p.which 2 = 1 := by unfold intoP; omega
      rcases hj with ej | ej
      · rw [ej]
        clear ej
        have HPd : Hid (Pair u (wr.alloc (.cells #[.int .i64 p.kind, .int .i64 p.which, .int .i64 p.m, .int .u64 (p.n : Int), .slice p.bp p.bl p.bc] 33)).drew b0 b1 A H v0 v1 h0 h1 x0 x1) := HP.out.below (((Below.refl _ _).alloc (Nat.le_refl _) _).drew)
        have HBy : Hid (BytesS (fun k => ¬ Turns b0 v0 h0 k) (wr.alloc (.cells #[.int .i64 p.kind, .int .i64 p.which, .int .i64 p.m, .int .u64 (p.n : Int), .slice p.bp p.bl p.bc] 33)).drew p.bp p.bs) :=
          ((HOp.out.bytes p hmem.out).kept (fun k hk hlt => HPd.out.kept.block k hlt (fun e => by have := HS.out k hk; omega)) HPd.out.kept.size).imp (fun k _ hk => HPd.out.not0 k (HS.out k hk).2.2.2 (by have := HS.out k hk; omega))
        have HC := hide (writes_any _ b0 v0 h0 x0 p HPd.out.w0 HPd.out.d0 HPd.out.f00 (HOp.out.nums p hmem.out) HBy.out (by have := HX0.out; omega))
        have HO5 : Hid ((wr.alloc (.cells #[.int .i64 p.kind, .int .i64 p.which, .int .i64 p.m, .int .u64 (p.n : Int), .slice p.bp p.bl p.bc] 33)).drew.heap[wr.heap.size]? = some (.cells #[.int .i64 p.kind, .int .i64 p.which, .int .i64 p.m, .int .u64 (p.n : Int), .slice p.bp p.bl p.bc] 33 (0, 0))) := heap_alloc_new wr (.cells #[.int .i64 p.kind, .int .i64 p.which, .int .i64 p.m, .int .u64 (p.n : Int), .slice p.bp p.bl p.bc] 33 (0, 0))
        go_wp2
        go_region_held3 (fun w' => w'.cell? ⟨A, 0, none⟩ = some (.pointer (some ⟨b0, 0, none⟩)) ∧ w'.cell? ⟨H, 0, none⟩ = some h0 ∧ w'.cell? ⟨wr.heap.size, 0, none⟩ = some (.int .i64 p.kind) ∧ w'.cell? ⟨wr.heap.size, 1, none⟩ = some (.int .i64 p.which) ∧ w'.cell? ⟨wr.heap.size, 2, none⟩ = some (.int .i64 p.m) ∧ w'.cell? ⟨wr.heap.size, 3, none⟩ = some (.int .u64 (p.n : Int)) ∧ w'.cell? ⟨wr.heap.size, 4, none⟩ = some (.slice p.bp p.bl p.bc)) (go_keep)
          (first | (go_at_call 12; refine HC.out.mono ?_; rintro e w5 ⟨v5, h5, new, rfl, hnl, hd⟩; obtain ⟨a5, n5, k5, he5⟩ := owns_form2 hd.hd; subst he5; have HD := hide (HPd.out.did0 hd); have HNl := hide hnl; obtain ⟨z0, z1, zf⟩ := blk2 HD.out.1; obtain ⟨y0, y1, yf⟩ := blk2 HD.out.2.1; obtain ⟨e0, e1, e2, e3, e4, ef⟩ := blk5 ((hd.kept.block wr.heap.size (by simp) (HPd.out.far0 hd)).trans HO5.out); clear hnl hd))
        go_wp2
        go_roundw
        case rel => exact ⟨k + 1, v5, v1, _, h1, x0 ++ new, x1, by omega, by go_num, HD.out.2.2, hide (Nat.le_trans (Nat.le_of_eq List.length_append) (le_step HX0.out HNl.out hbl)), hide (le_step0 HX1.out)⟩
        case measure => simp [intOf]; omega
      · rw [ej]
        clear ej
        have HPd : Hid (Pair u (wr.alloc (.cells #[.int .i64 p.kind, .int .i64 p.which, .int .i64 p.m, .int .u64 (p.n : Int), .slice p.bp p.bl p.bc] 33)).drew b0 b1 A H v0 v1 h0 h1 x0 x1) := HP.out.below (((Below.refl _ _).alloc (Nat.le_refl _) _).drew)
        have HBy : Hid (BytesS (fun k => ¬ Turns b1 v1 h1 k) (wr.alloc (.cells #[.int .i64 p.kind, .int .i64 p.which, .int .i64 p.m, .int .u64 (p.n : Int), .slice p.bp p.bl p.bc] 33)).drew p.bp p.bs) :=
          ((HOp.out.bytes p hmem.out).kept (fun k hk hlt => HPd.out.kept.block k hlt (fun e => by have := HS.out k hk; omega)) HPd.out.kept.size).imp (fun k _ hk => HPd.out.not1 k (HS.out k hk).2.2.2 (by have := HS.out k hk; omega))
        have HC := hide (writes_any _ b1 v1 h1 x1 p HPd.out.w1 HPd.out.d1 HPd.out.f11 (HOp.out.nums p hmem.out) HBy.out (by have := HX1.out; omega))
        have HO5 : Hid ((wr.alloc (.cells #[.int .i64 p.kind, .int .i64 p.which, .int .i64 p.m, .int .u64 (p.n : Int), .slice p.bp p.bl p.bc] 33)).drew.heap[wr.heap.size]? = some (.cells #[.int .i64 p.kind, .int .i64 p.which, .int .i64 p.m, .int .u64 (p.n : Int), .slice p.bp p.bl p.bc] 33 (0, 0))) := heap_alloc_new wr (.cells #[.int .i64 p.kind, .int .i64 p.which, .int .i64 p.m, .int .u64 (p.n : Int), .slice p.bp p.bl p.bc] 33 (0, 0))
        go_wp2
        go_region_held3 (fun w' => w'.cell? ⟨A, 1, none⟩ = some (.pointer (some ⟨b1, 0, none⟩)) ∧ w'.cell? ⟨H, 1, none⟩ = some h1 ∧ w'.cell? ⟨wr.heap.size, 0, none⟩ = some (.int .i64 p.kind) ∧ w'.cell? ⟨wr.heap.size, 1, none⟩ = some (.int .i64 p.which) ∧ w'.cell? ⟨wr.heap.size, 2, none⟩ = some (.int .i64 p.m) ∧ w'.cell? ⟨wr.heap.size, 3, none⟩ = some (.int .u64 (p.n : Int)) ∧ w'.cell? ⟨wr.heap.size, 4, none⟩ = some (.slice p.bp p.bl p.bc)) (go_keep)
          (first | (go_at_call 12; refine HC.out.mono ?_; rintro e w5 ⟨v5, h5, new, rfl, hnl, hd⟩; obtain ⟨a5, n5, k5, he5⟩ := owns_form2 hd.hd; subst he5; have HD := hide (HPd.out.did1 hd); have HNl := hide hnl; obtain ⟨z0, z1, zf⟩ := blk2 HD.out.1; obtain ⟨y0, y1, yf⟩ := blk2 HD.out.2.1; obtain ⟨e0, e1, e2, e3, e4, ef⟩ := blk5 ((hd.kept.block wr.heap.size (by simp) (HPd.out.far1 hd)).trans HO5.out); clear hnl hd))
        go_wp2
        go_roundw
        case rel => exact ⟨k + 1, v0, v5, h0, _, x0, x1 ++ new, by omega, by go_num, HD.out.2.2, hide (le_step0 HX0.out), hide (Nat.le_trans (Nat.le_of_eq List.length_append) (le_step HX1.out HNl.out hbl))⟩
        case measure => simp [intOf]; omega
    · obtain rfl : k = P.length := by omega
      obtain ⟨a0, a1, af⟩ := blk2 HP.out.aa
      obtain ⟨g0, g1, gf⟩ := blk2 HP.out.hh
      obtain ⟨e0, q0, rfl, t0⟩ := owns_form HP.out.d0
      obtain ⟨e1, q1, rfl, t1⟩ := owns_form HP.out.d1
      have HPd := hide (HP.out.below (Below.refl _ _).drew)
      have HL0 : Hid (x0.length ≤ 140737488355328) := Nat.le_trans HX0.out (by omega)
      have HL1 : Hid (x1.length ≤ 140737488355328) := Nat.le_trans HX1.out (by omega)
      have HC1 := hide (out_any _ b0 v0 x0 HPd.out.w0 HL0.out)
      go_wp2
      go_region_held3 (fun w' => w'.cell? ⟨A, 0, none⟩ = some (.pointer (some ⟨b0, 0, none⟩)) ∧ w'.cell? ⟨A, 1, none⟩ = some (.pointer (some ⟨b1, 0, none⟩)) ∧ w'.cell? ⟨H, 0, none⟩ = some (.slice e0 x0.length q0) ∧ w'.cell? ⟨H, 1, none⟩ = some (.slice e1 x1.length q1)) (go_keep)
        (first
          | (go_at_call_of 14 (Value.pointer (some ⟨b0, 0, none⟩)); refine HC1.out.mono ?_; rintro e w6 ⟨rfl, rfl⟩; have HP6 := hide (HPd.out.below ((Below.refl _ _).alloc (Nat.le_refl _) (.cells (vals x0).toArray 5))); have HBy := hide (made_bytes wr.drew x0 HPd.out.w0.small); generalize wr.drew.alloc (.cells (vals x0).toArray 5) = w6 at *; obtain ⟨a0, a1, af⟩ := blk2 HP6.out.aa; obtain ⟨g0, g1, gf⟩ := blk2 HP6.out.hh)
          | (go_at_call_of 13 (Value.slice (some ⟨wr.heap.size, 0, none⟩) x0.length x0.length); refine (eq_true w6 _ e0 x0.length x0.length q0 x0 rfl HL0.out HBy.out (owns_bytes HP6.out.d0 HP6.out.w0.small)).mono ?_; rintro e w7 ⟨rfl, hb7⟩; have HP7 := hide (HP6.out.below hb7); clear hb7; obtain ⟨a0, a1, af⟩ := blk2 HP7.out.aa; obtain ⟨g0, g1, gf⟩ := blk2 HP7.out.hh)
          | (go_at_call_of 14 (Value.pointer (some ⟨b1, 0, none⟩)); refine (out_any w7 b1 v1 x1 HP7.out.w1 HL1.out).mono ?_; rintro e w8 ⟨rfl, rfl⟩; have HP8 := hide (HP7.out.below ((Below.refl _ _).alloc (Nat.le_refl _) (.cells (vals x1).toArray 5))); have HBz := hide (made_bytes w7 x1 HP7.out.w1.small); generalize w7.alloc (.cells (vals x1).toArray 5) = w8 at *; obtain ⟨a0, a1, af⟩ := blk2 HP8.out.aa; obtain ⟨g0, g1, gf⟩ := blk2 HP8.out.hh)
          | (go_at_call_of 13 (Value.slice (some ⟨w7.heap.size, 0, none⟩) x1.length x1.length); refine (eq_true w8 _ e1 x1.length x1.length q1 x1 rfl HL1.out HBz.out (owns_bytes HP8.out.d1 HP8.out.w1.small)).mono ?_; rintro e w9 ⟨rfl, hb9⟩; have HP9 := hide (HP8.out.below hb9); clear hb9; obtain ⟨a0, a1, af⟩ := blk2 HP9.out.aa; obtain ⟨g0, g1, gf⟩ := blk2 HP9.out.hh)
          | (go_at_call_of 15 (Value.pointer (some ⟨b0, 0, none⟩)); refine (wlen_any w9 b0 v0 x0 HP9.out.w0).mono ?_; rintro e wl ⟨rfl, rfl⟩))
      go_wp2
      go_ret
      exact ⟨rfl, HP9.out.kept.below HB0.out HB0.out.size HBase.out⟩

end Go.Proofs.Ytlnldipiofddkaa
