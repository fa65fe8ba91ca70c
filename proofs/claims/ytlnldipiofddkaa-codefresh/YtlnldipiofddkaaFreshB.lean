import Derived.Test.YtlnldipiofddkaaFreshA
namespace Go.Proofs.Ytlnldipiofddkaa
open Go.RowKit

theorem into_5 (w : World) (n : Int) : Calls Try.prog 11 #[.int .i64 n, .int .i64 5] w fun e w' => e = .returned (.int .i64 (intoP n 5)) ∧ w' = w := by
  have e := tmod_of n 5
  split at e <;> exact into_any w n 5 (by omega) (by omega) (by omega) (by omega) (by omega)

/-- The kinds of the blocks as the steps begin. -/
def kinds (N s k : Nat) : Nat := if k ≤ N then 0 else if k = N + 1 then 1 else if k < s then 3 else if k = s then 4 else if k = s + 1 then 5 else if k = s + 2 then 6 else 0

theorem box3 {w : World} {b : Nat} {x0 x1 x2 : Value} {t : TypeId} (h : w.heap[b]? = some (.cells #[x0, x1, x2] t (0, 0))) : w.cell? ⟨b, 0, none⟩ = some x0 ∧ w.cell? ⟨b, 1, none⟩ = some x1 ∧ w.cell? ⟨b, 2, none⟩ = some x2 ∧ (∀ o, w.frozen? ⟨b, o, none⟩ = false) :=
  ⟨by simp [World.cell?, h], by simp [World.cell?, h], by simp [World.cell?, h], fun o => by simp [World.frozen?, h]⟩

theorem owns_form3 {w : World} {B n : Nat} {v : Value} {xs : List Value} (h : w.ownsRow B 5 1 v n xs) : ∃ a m c, v = .slice a m c := by
  rcases h.2 with ⟨h1, h2⟩ | ⟨g, cap, cur, h1, _⟩
  · exact ⟨_, _, _, h1⟩
  · exact ⟨_, _, _, h1⟩

theorem fs_start {u : World} {N s rb rh : Nat} {x0 : List Nat} {p0 : Option Addr} {c0 : Nat} (hs : N + 2 ≤ s) (hw : Wr u (N + 1) (.slice none 0 0) []) (hr : Rd u rb rh x0 0 0) (hrb : N + 1 < rb ∧ rb < s) (hrh : N + 1 < rh ∧ rh < s) (he : Ey u s p0 c0 x0 0 0) (hx : BytesS (fun k => k < N) u p0 x0)
    (hb : u.heap[s + 1]? = some (.cells (bkCells (.slice none 0 0) (.slice none 0 0) 0 0 0 0) 74 (0, 0))) (ht : u.heap[s + 2]? = some (.cells #[.slice none 0 0, .slice none 0 0] 77 (0, 0))) :
    Fs (kinds N s) u (kinds N s) u none (N + 1) (.slice none 0 0) (.slice none 0 0) [] rb rh x0 0 0 s p0 c0 0 0 (s + 1) (.slice none 0 0) (.slice none 0 0) 0 0 0 0 [] 0 (s + 2) (.slice none 0 0) (.slice none 0 0) [] := by
  have hn : ∀ g, (Value.slice none 0 0).ownBlock = some g → False := fun g e => by simp [Value.ownBlock] at e
  have h1 : kinds N s (N + 1) = 1 := by simp [kinds]
  have h3 : ∀ k, N + 1 < k → k < s → kinds N s k = 3 := fun k a b => by simp [kinds, show ¬ k ≤ N by omega, show ¬ k = N + 1 by omega, b]
  have h4 : kinds N s s = 4 := by simp [kinds, show ¬ s ≤ N by omega, show ¬ s = N + 1 by omega]
  have h5 : kinds N s (s + 1) = 5 := by simp [kinds, show ¬ s + 1 ≤ N by omega, show ¬ s = N by omega, show ¬ s + 1 < s by omega]
  have h6 : kinds N s (s + 2) = 6 := by simp [kinds, show ¬ s + 2 ≤ N by omega, show ¬ s + 2 = N + 1 by omega, show ¬ s + 2 < s by omega]
  have h0 : ∀ k, k < N → kinds N s k = 0 := fun k a => by simp [kinds, show k ≤ N by omega]
  have r0 : ∀ (t : TypeId), u.ownsRow 0 t 1 (.slice none 0 0) 0 [] := fun t => ⟨rfl, Or.inl ⟨rfl, rfl⟩⟩
  refine ⟨Mv.refl _ _ _, by simp, ⟨hw, r0 _, fun g e => (hn g e).elim, h1, fun g e => (hn g e).elim, fun g e => (hn g e).elim⟩, ⟨hr, h3 rb hrb.1 hrb.2, ⟨hr.held.small, ?_⟩⟩, ⟨he, h4, hx.imp (fun k _ e => h0 k e)⟩,
    ⟨⟨hb, r0 _, r0 _, by simp, by simp, by simp, by simp⟩, h5, fun g e => (hn g e).elim, fun g e => (hn g e).elim, by simp⟩, ⟨Nat.le_refl _, by simp, Nat.le_refl _, Nat.le_refl _, fun _ => rfl, by simp, by omega⟩,
    ⟨ht, r0 _, r0 _, fun g e => (hn g e).elim, by simp, by simp, by simp, by simp, h6, fun g e => (hn g e).elim, fun g e => (hn g e).elim, by simp⟩⟩
  rcases hr.held.lie with h | ⟨g, o, e, hg, hc⟩
  · exact Or.inl h
  · cases e
    exact Or.inr ⟨rh, 0, rfl, h3 rh hrh.1 hrh.2, hg, hc⟩

theorem kinds_zero {N s k : Nat} (hs : N + 2 ≤ s) (h : k < N ∨ s + 3 ≤ k) : kinds N s k = 0 := by
  unfold kinds
  rcases h with h | h
  · rw [if_pos (by omega)]
  · rw [if_neg (by omega), if_neg (by omega), if_neg (by omega), if_neg (by omega), if_neg (by omega), if_neg (by omega)]
theorem kinds_base {N s k : Nat} (h : kinds N s k ≠ 0) : N ≤ k := by
  unfold kinds at h
  by_cases e : k ≤ N
  · rw [if_pos e] at h; exact absurd rfl h
  · omega

theorem Try.builtBook : Try.prog.built 74 [] = some (bkCells (.slice none 0 0) (.slice none 0 0) 0 0 0 0) := by kernel_rfl
theorem book_build {o : Oper} {a : Act} {w : World} {K : Act → World → Prop} {Q : Exit → Act → World → Prop} (ho : o.op = .build 74 #[]) (h : K (a.put o.dst (.agg (bkCells (.slice none 0 0) (.slice none 0 0) 0 0 0 0))) w) : o.wp Try.prog a w K Q := by
  have e0 : (#[].map fun (i, x) => (i, a.eval x)).toList = ([] : List (Nat × Value)) := by simp
  refine wp_build 74 #[] ho ?_ ?_
  · rw [e0, Try.builtBook]; rfl
  · rw [e0, Try.builtBook]; exact h

theorem Fs.wants {τ0 τ : Nat → Nat} {u w : World} {bx : Option (Nat × Array Value)} {bw : Nat} {v : Value} {s : Option Addr} {l q : Nat} {x : List Nat} {rb rh : Nat} {xs : List Nat} {a f eb : Nat} {sp : Option Addr} {c a' f' b : Nat} {L M : Value} {A turn done used : Nat} {ks : List Kl} {n t : Nat} {G W : Value} {gs : List Gt}
    (F : Fs τ0 u τ w bx bw v (.slice s l q) x rb rh xs a f eb sp c a' f' b L M A turn done used ks n t G W gs) : BytesS (fun k => τ k ≠ 6) w s x := by
  obtain ⟨s', q', e, h⟩ := F.wanted
  cases e
  exact h

set_option maxRecDepth 100000 in
set_option maxHeartbeats 8000000 in
theorem fresh_walk (w : World) (p0 p1 po : Option Addr) (l0 c0 l1 c1 lo co : Nat) (x0 : List Nat) (ops : List Op1) (hl0 : x0.length = l0) (hlc : l0 ≤ c0) (hm0 : c0 ≤ 140737488351232) (hx0 : Bytes w p0 x0) (hf0 : c0 = 0 ∨ ∃ g o, p0 = some ⟨g, o, none⟩) (hlo : ops.length = lo) (hlo2 : lo ≤ 140737488351232) (hO : OpsIn w po ops) :
    Calls Try.prog 5 #[.agg #[.slice p0 l0 c0, .slice p1 l1 c1, .slice po lo co]] w fun e w' => e = .returned (.bool true) ∧ Below w.heap.size w w' := by
  obtain ⟨w1, hw1⟩ : ∃ w1, w1 = (w.alloc (.cells #[.slice p0 l0 c0, .slice p1 l1 c1, .slice po lo co] 26)).alloc (.cells #[.slice none 0 0] 89) := ⟨_, rfl⟩
  have HS1 : Hid (w1.heap.size = w.heap.size + 1 + 1) := by rw [hw1]; show _ = _; simp
  have HB1 : Hid (Below w.heap.size w w1) := by rw [hw1]; exact ((Below.refl _ _).alloc (Nat.le_refl _) _).alloc (by simp) _
  have HW1 : Hid (Wr w1 (w.heap.size + 1) (.slice none 0 0) []) := by
    rw [hw1]
    show Wr _ _ _ _
    have := new_wr (w.alloc (.cells #[.slice p0 l0 c0, .slice p1 l1 c1, .slice po lo co] 26))
    simpa using this
  have HX1 : Hid (w1.heap[w.heap.size]? = some (.cells #[.slice p0 l0 c0, .slice p1 l1 c1, .slice po lo co] 26 (0, 0))) := by
    show _ = _
    rw [hw1, Below.heap_alloc _ _ _ (by simp)]
    exact heap_alloc_new _ _
  have HL0 := hide hl0
  have HX0 := hide hx0
  have HF0 := hide hf0
  have HLo := hide hlo
  have HO := hide hO
  have HP4 : Hid ((playsF 4194304 (ops.take 400)).length ≤ 400) := by show _ ≤ _; rw [plays_length, List.length_take]; omega
  have HPs := hide (plays_sum (ops.take 400) 4194304)
  obtain ⟨P, hP⟩ : ∃ P, P = playsF 4194304 (ops.take 400) := ⟨_, rfl⟩
  rw [← hP] at HP4 HPs
  have HPe := hide hP
  clear hO hlo hl0 hx0 hf0 hP
  go_enter Try.func5, Try.ntmps5
  go_wp2_with fail
  refine (new_any _).mono ?_
  rintro e wz ⟨rfl, rfl⟩
  obtain ⟨s0, s1, s2, sf⟩ := box3 HX1.out
  go_wp2_with fail
  rw [← hw1]
  clear hw1
  refine (copy_any w1 p0 l0 c0 x0 HL0.out (HX0.out.below HB1.out) (by omega)).mono ?_
  rintro e w2 ⟨v2, rfl, hown2, hb2⟩
  obtain ⟨a2, n2, k2, he2⟩ := owns_form3 hown2
  have hv2 : v2 = .slice a2 l0 k2 := by
    rcases hown2.2 with ⟨h1, h2⟩ | ⟨g, cap, cur, h1, _⟩
    · rw [h1] at he2; cases he2; rw [h1, h2]
    · rw [h1] at he2; cases he2; exact h1
  subst hv2
  clear he2
  have HBy2 := hide (owns_bytes hown2 HX0.out.small)
  have HB2 := hide hb2
  clear hown2 hb2
  go_wp2_with fail
  refine (read_any w2 a2 l0 k2 x0 HL0.out (by omega) HBy2.out).mono ?_
  rintro e w3 ⟨rfl, hr3, hb3⟩
  have HR3 := hide hr3
  have HB13 : Hid (Below w1.heap.size w1 w3) := HB2.out.trans (hb3.mono HB2.out.size)
  have HS2 := hide HB2.out.size
  have HS3 : Hid (w2.heap.size + 1 < w3.heap.size) := hr3.lt
  clear hr3 hb3 HBy2 HB2
  have HX3 : Hid (w3.heap[w.heap.size]? = some (.cells #[.slice p0 l0 c0, .slice p1 l1 c1, .slice po lo co] 26 (0, 0))) := (HB13.out.block _ (by have := HS1.out; omega)).trans HX1.out
  obtain ⟨w6, hw6⟩ : ∃ w6, w6 = ((w3.alloc (.cells #[.slice p0 l0 c0, .int .i64 0, .int .i64 0] 48)).alloc (.cells (bkCells (.slice none 0 0) (.slice none 0 0) 0 0 0 0) 74)).alloc (.cells #[.slice none 0 0, .slice none 0 0] 77) := ⟨_, rfl⟩
  have HS6 : Hid (w6.heap.size = w3.heap.size + 1 + 1 + 1) := by rw [hw6]; show _ = _; simp
  have HB6 : Hid (Below w3.heap.size w3 w6) := by rw [hw6]; exact (((Below.refl _ _).alloc (Nat.le_refl _) _).alloc (by simp) _).alloc (by simp; omega) _
  have HE6 : Hid (w6.heap[w3.heap.size]? = some (.cells #[.slice p0 l0 c0, .int .i64 0, .int .i64 0] 48 (0, 0))) := by
    show _ = _
    rw [hw6, Below.heap_alloc _ _ _ (by simp; omega), Below.heap_alloc _ _ _ (by simp)]
    exact heap_alloc_new _ _
  have HK6 : Hid (w6.heap[w3.heap.size + 1]? = some (.cells (bkCells (.slice none 0 0) (.slice none 0 0) 0 0 0 0) 74 (0, 0))) := by
    show _ = _
    rw [hw6, Below.heap_alloc _ _ _ (by simp)]
    have := heap_alloc_new (w3.alloc (.cells #[.slice p0 l0 c0, .int .i64 0, .int .i64 0] 48)) (.cells (bkCells (.slice none 0 0) (.slice none 0 0) 0 0 0 0) 74)
    rw [show (w3.alloc (.cells #[.slice p0 l0 c0, .int .i64 0, .int .i64 0] 48)).heap.size = w3.heap.size + 1 by simp] at this
    exact this
  have HT6 : Hid (w6.heap[w3.heap.size + 1 + 1]? = some (.cells #[.slice none 0 0, .slice none 0 0] 77 (0, 0))) := by
    show _ = _
    rw [hw6]
    have := heap_alloc_new ((w3.alloc (.cells #[.slice p0 l0 c0, .int .i64 0, .int .i64 0] 48)).alloc (.cells (bkCells (.slice none 0 0) (.slice none 0 0) 0 0 0 0) 74)) (.cells #[.slice none 0 0, .slice none 0 0] 77)
    rw [show ((w3.alloc (.cells #[.slice p0 l0 c0, .int .i64 0, .int .i64 0] 48)).alloc (.cells (bkCells (.slice none 0 0) (.slice none 0 0) 0 0 0 0) 74)).heap.size = w3.heap.size + 1 + 1 by simp] at this
    exact this
  obtain ⟨t0, t1, t2, tf⟩ := box3 HX3.out
  have hN3 : w.heap.size < w3.heap.size := by have := HS1.out; have := HB13.out.size; omega
  have hN4 : w.heap.size < w3.heap.size + 1 := by omega
  have hN5 : w.heap.size < w3.heap.size + 1 + 1 := by omega
  clear s0 s1 s2 sf
  have HB16 : Hid (Below w.heap.size w w6) := HB1.out.trans ((HB13.out.trans (HB6.out.mono HB13.out.size)).mono HB1.out.size)
  have HPl := hide (played_any (fun k => k < w.heap.size) w6 po lo co ops HLo.out hlo2 (HO.out.s.kept (fun k hk _ => HB16.out.block k hk) HB16.out.size))
  rw [← HPe.out] at HPl
  go_wp2_with fail
  refine book_build rfl ?_
  go_wp2_with fail
  rw [← hw6]
  clear hw6
  refine HPl.out.mono ?_
  rintro e u ⟨sq, cc, rfl, hO2, hb2⟩
  clear HPl
  have hP4 : P.length ≤ 400 := HP4.out
  have HB0 : Hid (Below w.heap.size w u) := HB16.out.trans (hb2.mono HB16.out.size)
  have HF1 : Hid (Fs (kinds w.heap.size w3.heap.size) u (kinds w.heap.size w3.heap.size) u none (w.heap.size + 1) (.slice none 0 0) (.slice none 0 0) [] (w2.heap.size + 1) w2.heap.size x0 0 0 w3.heap.size p0 c0 0 0 (w3.heap.size + 1) (.slice none 0 0) (.slice none 0 0) 0 0 0 0 [] 0 (w3.heap.size + 1 + 1) (.slice none 0 0) (.slice none 0 0) []) := by
    have e1 := HS1.out
    have e2 := HS2.out
    have e3 := HS3.out
    have e6 := HS6.out
    refine fs_start (by omega) (((HW1.out.below HB13.out).below HB6.out).below hb2) ((HR3.out.below HB6.out).below hb2) ⟨by omega, by omega⟩ ⟨by omega, by omega⟩ (Ey.below ?_ hb2) ?_ ((hb2.block _ (by omega)).trans HK6.out) ((hb2.block _ (by omega)).trans HT6.out)
    · have hlx := HL0.out
      refine ⟨?_, HX0.out.below HB16.out, ?_, by omega, by omega, by omega, Nat.zero_le _⟩
      · rw [hlx]; exact HE6.out
      · rcases HF0.out with h | h
        · exact Or.inl ⟨h, List.eq_nil_of_length_eq_zero (by omega)⟩
        · exact Or.inr h
    · exact (BytesS.mk (S := fun k => k < w.heap.size) HX0.out.small (HX0.out.lie.imp id (fun ⟨g, o, e, hg, hc⟩ => ⟨g, o, e, hg, hg, hc⟩))).kept (fun k hk _ => HB0.out.block k hk) HB0.out.size
  have HOp : Hid (OpsS (fun k => kinds w.heap.size w3.heap.size k = 0 ∧ k < u.heap.size) u sq P) := by
    have hz : ∀ k, (k < w.heap.size ∨ w6.heap.size ≤ k) → kinds w.heap.size w3.heap.size k = 0 := fun k h => kinds_zero (by have := HS1.out; have := HS2.out; have := HS3.out; omega) (by have := HS6.out; omega)
    refine ⟨hO2.nums, fun o ho => (hO2.bytes o ho).imp (fun k hk h => ⟨hz k h, hk⟩), ?_⟩
    rcases hO2.lie with h | ⟨g, o, e, hS, hg, hc⟩
    · exact Or.inl h
    · exact Or.inr ⟨g, o, e, ⟨hz g hS, hg⟩, hg, hc⟩
  have HBase : Hid (∀ k, kinds w.heap.size w3.heap.size k ≠ 0 → w.heap.size ≤ k) := fun k hk => kinds_base hk
  clear hO2 hb2 HW1 HR3 HB13 HB6 HE6 HK6 HT6 HX1 HX3 HS1 HS2 HS3 HS6 HB1 HB16 HX0 HF0 HL0 HO HLo HPe t0 t1 t2 tf hN3 hN4 hN5
  generalize kinds w.heap.size w3.heap.size = τ0 at *
  generalize w3.heap.size + 1 + 1 = t at *
  generalize w3.heap.size + 1 = b at *
  generalize w3.heap.size = eb at *
  generalize w2.heap.size + 1 = rb at *
  generalize w2.heap.size = rh at *
  generalize w.heap.size + 1 = bw at *
  go_wp2
  go_loopw [8, 10] (fun hv i wr0 => ∃ (k : Nat) (τ : Nat → Nat) (v : Value) (x : List Nat) (a f : Nat) (L M : Value) (A turn done used : Nat) (ks : List Kl) (n : Nat) (G W : Value) (gs : List Gt), k ≤ P.length ∧ i = .int .i64 k ∧ Hid (Fs τ0 u τ wr0 none bw v hv x rb rh x0 a f eb p0 c0 a f b L M A turn done used ks n t G W gs) ∧ Hid (x.length ≤ k * 4194314) ∧ n + gs.length ≤ 4 * k ∧ gs.length ≤ 5) (fun _ i _ => P.length - (intOf i).toNat)
  case atStart => exact ⟨0, _, _, [], _, _, _, _, _, _, _, _, _, _, _, _, [], Nat.zero_le _, rfl, HF1, by simp [Hid], by simp, by simp⟩
  case round =>
    obtain ⟨k, τ, v, x, a, f, L, M, A, turn, done, used, ks, n, G, W, gs, hk, rfl, HF, HX, hn4, hg5⟩ := hrel
    clear HF1
    generalize wr = wr0 at *
    obtain ⟨hs0, hq0, hhv, _⟩ := owns_form HF.out.wt.hd
    subst hhv
    by_cases hlt : k < P.length
    · obtain ⟨g, o, rfl⟩ : ∃ g o, sq = some ⟨g, o, none⟩ := by
        rcases HOp.out.lie with h | ⟨g, o, e, _⟩
        · subst h; simp at hlt
        · exact ⟨g, o, e⟩
      have hop : P[k]? = some (P[k]'hlt) := List.getElem?_eq_getElem _
      have HOr := hide (HOp.out.kept (w' := wr0) (fun k hk hl => HF.out.base.kept.block k hl (fun e => e hk.1)) HF.out.base.kept.size)
      obtain ⟨d0, d1, d2, d3, d4⟩ := ops_at HOr.out k _ hop
      have hmem := hide (List.mem_of_getElem? hop)
      have hbl := bl_le P HPs.out _ hmem.out
      generalize P[k]'hlt = p at *
      clear hop HOr
      obtain ⟨kind, which, m, nn, bp, bl, bc, bs⟩ := p
      have hm1 := (HOp.out.nums _ hmem.out).m1
      have hm2 := (HOp.out.nums _ hmem.out).m2
      dsimp only at d0 d1 d2 d3 d4 hbl hm1 hm2
      have hk4 : k < 400 := by omega
      have l1 : (k : Int) < (P.length : Int) := by omega
      have l2 : (0 : Int) ≤ (k : Int) := by omega
      have hcase : kind = 5 ∨ kind = 6 ∨ (kind ≠ 5 ∧ kind ≠ 6) := by omega
      rcases hcase with hkd | hkd | hkd
      · subst hkd
        have HFb := hide (HF.out.boxed #[.int .i64 5, .int .i64 which, .int .i64 m, .int .u64 (nn : Int), .slice bp bl bc])
        have HBy : Hid (BytesS (fun k => ext τ wr0.heap.size 2 k = 0) (wr0.alloc (.cells #[.int .i64 5, .int .i64 which, .int .i64 m, .int .u64 (nn : Int), .slice bp bl bc] 33)) bp bs) := bytesS_of (τ := τ0) ((HOp.out.bytes _ hmem.out).imp (fun k _ e => e.1)) ((HOp.out.bytes _ hmem.out).kept (fun k hk hl => HFb.out.base.kept.block k hl (fun e => e hk.1)) HFb.out.base.kept.size).bytes (fun g hg e => (HFb.out.base.col g hg (fun e' => e' e)).trans e)
        have HC := hide (fs_writes HFb.out ⟨5, which, m, nn, bp, bl, bc, bs⟩ (HOp.out.nums _ hmem.out) HBy.out (by have := HX.out; simp only; omega))
        clear HF HBy HFb
        go_wp2_with fail
        refine HC.out.mono ?_
        rintro e w2 ⟨v2, h2, new, rfl, hnl, hF2⟩
        obtain ⟨s9, q9, he5, _⟩ := owns_form hF2.wt.hd
        subst he5
        have HF := hide hF2
        have HXl : Hid ((x ++ new).length ≤ (k + 1) * 4194314) := Nat.le_trans (Nat.le_of_eq List.length_append) (le_step HX.out hnl hbl)
        clear hF2 hnl HC
        generalize x ++ new = xn at *
        have hxl := HXl.out
        obtain ⟨b0, b1, b2, b3, b4, bf⟩ := blk5 (HF.out.box _ _ rfl).1
        have HR := hide (text_any _ rb rh x0 a f m (by omega) HF.out.rt.rd)
        go_wp2_with fail
        refine HR.out.mono ?_
        rintro e w3 hT
        obtain ⟨s3, rfl, hg3, hF3⟩ := HF.out.rtook (got_len _ _ _) hT
        have HG3 := hide hg3
        have HF3 := hide hF3
        clear hT hg3 hF3 HR HF b0 b1 b2 b3 b4 bf
        obtain ⟨b0, b1, b2, b3, b4, bf⟩ := blk5 (HF3.out.box _ _ rfl).1
        have HE := hide (etext_any _ eb p0 c0 x0 a f m (by omega) HF3.out.et.ey)
        generalize got x0 a (rText m x0 a f) = y3 at *
        generalize (rText m x0 a f).2.1 = a3 at *
        generalize (rText m x0 a f).2.2 = f3 at *
        go_wp2_with fail
        refine HE.out.mono ?_
        rintro e w4 hT
        obtain ⟨s4, q4, rfl, hy4, hF4, hm4⟩ := HF3.out.etook hT
        have HY4 := hide hy4
        have HF4 := hide hF4
        have HG4 := hide (HG3.out.keep hm4 (by omega))
        clear hT hy4 hF4 hm4 HE HF3 HG3 b0 b1 b2 b3 b4 bf
        go_wp2_with fail
        refine (fs_add HF4.out q4 HG4.out HY4.out (by omega)).mono ?_
        rintro e w5 ⟨rfl, G5, W5, z5, hF5⟩
        have HF5 := hide hF5
        clear hF5 HF4 HG4 HY4
        obtain ⟨b0, b1, b2, b3, b4, bf⟩ := blk5 (HF5.out.box _ _ rfl).1
        go_wp2_with fail
        refine (into_5 _ m).mono ?_
        rintro e w5' ⟨rfl, rfl⟩
        have hin : intoP m 5 ≤ 9223372036854775807 := by unfold intoP; omega
        have HR := hide (raw_read _ rb rh x0 a3 f3 (intoP m 5) hin HF5.out.rt.rd)
        go_wp2_with fail
        refine HR.out.mono ?_
        rintro e w6 hT
        obtain ⟨s6, rfl, hg6, hF6⟩ := HF5.out.rtook (got_len _ _ _) hT
        have HG6 := hide hg6
        have HF6 := hide hF6
        clear hT hg6 hF6 HR HF5 b0 b1 b2 b3 b4 bf
        obtain ⟨b0, b1, b2, b3, b4, bf⟩ := blk5 (HF6.out.box _ _ rfl).1
        have HE := hide (eraw_any _ eb p0 c0 x0 a3 f3 (intoP m 5) hin HF6.out.et.ey)
        generalize got x0 a3 (rRaw (intoP m 5) x0 a3 f3) = y6 at *
        generalize (rRaw (intoP m 5) x0 a3 f3).2.1 = a6 at *
        generalize (rRaw (intoP m 5) x0 a3 f3).2.2 = f6 at *
        go_wp2_with fail
        refine (into_5 _ m).mono ?_
        rintro e w6' ⟨rfl, rfl⟩
        go_wp2_with fail
        refine HE.out.mono ?_
        rintro e w7 hT
        obtain ⟨s7, q7, rfl, hy7, hF7, hm7⟩ := HF6.out.etook hT
        have HY7 := hide hy7
        have HF7 := hide hF7
        have HG7 := hide (HG6.out.keep hm7 (by omega))
        clear hT hy7 hF7 hm7 HE HF6 HG6 b0 b1 b2 b3 b4 bf
        go_wp2_with fail
        refine (fs_add HF7.out q7 HG7.out HY7.out (by simp; omega)).mono ?_
        rintro e w8 ⟨rfl, G8, W8, z8, hF8⟩
        have HF8 := hide hF8
        have HGl : Hid ((gs ++ [z5] ++ [z8]).length = gs.length + 2) := by show _ = _; simp
        clear hF8 HF7 HG7 HY7
        generalize gs ++ [z5] ++ [z8] = gs8 at *
        go_wp2
        go_loopw [16] (fun i wr => ∃ (j : Nat) (τj : Nat → Nat) (Gj Wj : Value) (gsj : List Gt), j ≤ 2 ∧ i = .int .i64 j ∧ Hid (Fs τ0 u τj wr (some (wr0.heap.size, #[.int .i64 5, .int .i64 which, .int .i64 m, .int .u64 (nn : Int), .slice bp bl bc])) bw v2 (.slice s9 xn.length q9) xn rb rh x0 a6 f6 eb p0 c0 a6 f6 b L M A turn done used ks n t Gj Wj gsj) ∧ Hid (gsj.length = gs.length + 2 + j)) (fun i _ => 2 - (intOf i).toNat)
        case atStart => exact ⟨0, _, _, _, _, Nat.zero_le _, rfl, HF8, HGl⟩
        case round =>
          clear HF8 HGl
          obtain ⟨j, τj, Gj, Wj, gsj, hj, rfl, HF, HGl⟩ := hrel
          have hgl := HGl.out
          by_cases hj2 : j < 2
          · have l3 : (j : Int) < 2 := by omega
            go_wp2_with fail
            refine (fs_out HF.out (by omega)).mono ?_
            rintro e wa ⟨sa, rfl, hga, hFa⟩
            have HGa := hide hga
            have HFa := hide hFa
            have HYb := hide hFa.wants
            clear hga hFa HF
            go_wp2_with fail
            refine (fs_add HFa.out _ HGa.out HYb.out (by omega)).mono ?_
            rintro e wb ⟨rfl, Gb, Wb, zb, hFb⟩
            have HFb := hide hFb
            clear hFb HFa HGa HYb
            go_wp2
            go_roundw
            case rel => exact ⟨j + 1, _, Gb, Wb, gsj ++ [zb], by omega, by go_num, HFb, by show _ = _; rw [List.length_append]; simp; omega⟩
            case measure => simp [intOf]; omega
          · have l3 : ¬ (j : Int) < 2 := by omega
            have HSe := hide (fs_settle HF.out 6 (by omega) (by omega))
            go_wp2_with fail
            refine HSe.out.mono ?_
            rintro e ws ⟨rfl, τs, Ls, Ms, As, turns, dones, useds, kss, ns, Gs, Ws, gss, hFs, hsum, hfew⟩
            have HFs := hide hFs
            have hfew2 : gss.length ≤ 5 := by
              rcases hfew with h | h
              · omega
              · subst h; simp
            clear hFs hfew HSe HF
            go_wp2_with fail
            refine (fs_look HFs.out (by omega)).mono ?_
            rintro e wl ⟨rfl, Ll, Ml, Al, donel, ksl, hFl⟩
            have HFl := hide hFl.forget
            clear hFl HFs
            go_wp2
            go_roundw
            case rel => exact ⟨k + 1, ext τs ws.heap.size 5, v2, xn, a6, f6, Ll, Ml, Al, turns, donel, useds, ksl, ns, Gs, Ws, gss, by omega, by go_num, HFl, HXl, by omega, hfew2⟩
            case measure => simp [intOf]; omega
      · subst hkd
        have HFb := hide (HF.out.boxed #[.int .i64 6, .int .i64 which, .int .i64 m, .int .u64 (nn : Int), .slice bp bl bc])
        have HBy : Hid (BytesS (fun k => ext τ wr0.heap.size 2 k = 0) (wr0.alloc (.cells #[.int .i64 6, .int .i64 which, .int .i64 m, .int .u64 (nn : Int), .slice bp bl bc] 33)) bp bs) := bytesS_of (τ := τ0) ((HOp.out.bytes _ hmem.out).imp (fun k _ e => e.1)) ((HOp.out.bytes _ hmem.out).kept (fun k hk hl => HFb.out.base.kept.block k hl (fun e => e hk.1)) HFb.out.base.kept.size).bytes (fun g hg e => (HFb.out.base.col g hg (fun e' => e' e)).trans e)
        have HC := hide (fs_writes HFb.out ⟨6, which, m, nn, bp, bl, bc, bs⟩ (HOp.out.nums _ hmem.out) HBy.out (by have := HX.out; simp only; omega))
        clear HF HBy HFb
        go_wp2_with fail
        refine HC.out.mono ?_
        rintro e w2 ⟨v2, h2, new, rfl, hnl, hF2⟩
        obtain ⟨s9, q9, he5, _⟩ := owns_form hF2.wt.hd
        subst he5
        have HF := hide hF2
        have HXl : Hid ((x ++ new).length ≤ (k + 1) * 4194314) := Nat.le_trans (Nat.le_of_eq List.length_append) (le_step HX.out hnl hbl)
        clear hF2 hnl HC
        generalize x ++ new = xn at *
        have hxl := HXl.out
        obtain ⟨b0, b1, b2, b3, b4, bf⟩ := blk5 (HF.out.box _ _ rfl).1
        have HR := hide (text_any _ rb rh x0 a f m (by omega) HF.out.rt.rd)
        go_wp2_with fail
        refine HR.out.mono ?_
        rintro e w3 hT
        obtain ⟨s3, rfl, hg3, hF3⟩ := HF.out.rtook (got_len _ _ _) hT
        have HG3 := hide hg3
        have HF3 := hide hF3
        clear hT hg3 hF3 HR HF b0 b1 b2 b3 b4 bf
        obtain ⟨b0, b1, b2, b3, b4, bf⟩ := blk5 (HF3.out.box _ _ rfl).1
        have HE := hide (etext_any _ eb p0 c0 x0 a f m (by omega) HF3.out.et.ey)
        generalize got x0 a (rText m x0 a f) = y3 at *
        generalize (rText m x0 a f).2.1 = a3 at *
        generalize (rText m x0 a f).2.2 = f3 at *
        go_wp2_with fail
        refine HE.out.mono ?_
        rintro e w4 hT
        obtain ⟨s4, q4, rfl, hy4, hF4, hm4⟩ := HF3.out.etook hT
        have HY4 := hide hy4
        have HF4 := hide hF4
        have HG4 := hide (HG3.out.keep hm4 (by omega))
        clear hT hy4 hF4 hm4 HE HF3 HG3 b0 b1 b2 b3 b4 bf
        go_wp2_with fail
        refine (fs_add HF4.out q4 HG4.out HY4.out (by omega)).mono ?_
        rintro e w5 ⟨rfl, G5, W5, z5, hF5⟩
        have HF5 := hide hF5
        clear hF5 HF4 HG4 HY4
        obtain ⟨b0, b1, b2, b3, b4, bf⟩ := blk5 (HF5.out.box _ _ rfl).1
        go_wp2_with fail
        refine (into_5 _ m).mono ?_
        rintro e w5' ⟨rfl, rfl⟩
        have hin : intoP m 5 ≤ 9223372036854775807 := by unfold intoP; omega
        have HR := hide (raw_read _ rb rh x0 a3 f3 (intoP m 5) hin HF5.out.rt.rd)
        go_wp2_with fail
        refine HR.out.mono ?_
        rintro e w6 hT
        obtain ⟨s6, rfl, hg6, hF6⟩ := HF5.out.rtook (got_len _ _ _) hT
        have HG6 := hide hg6
        have HF6 := hide hF6
        clear hT hg6 hF6 HR HF5 b0 b1 b2 b3 b4 bf
        obtain ⟨b0, b1, b2, b3, b4, bf⟩ := blk5 (HF6.out.box _ _ rfl).1
        have HE := hide (eraw_any _ eb p0 c0 x0 a3 f3 (intoP m 5) hin HF6.out.et.ey)
        generalize got x0 a3 (rRaw (intoP m 5) x0 a3 f3) = y6 at *
        generalize (rRaw (intoP m 5) x0 a3 f3).2.1 = a6 at *
        generalize (rRaw (intoP m 5) x0 a3 f3).2.2 = f6 at *
        go_wp2_with fail
        refine (into_5 _ m).mono ?_
        rintro e w6' ⟨rfl, rfl⟩
        go_wp2_with fail
        refine HE.out.mono ?_
        rintro e w7 hT
        obtain ⟨s7, q7, rfl, hy7, hF7, hm7⟩ := HF6.out.etook hT
        have HY7 := hide hy7
        have HF7 := hide hF7
        have HG7 := hide (HG6.out.keep hm7 (by omega))
        clear hT hy7 hF7 hm7 HE HF6 HG6 b0 b1 b2 b3 b4 bf
        go_wp2_with fail
        refine (fs_add HF7.out q7 HG7.out HY7.out (by simp; omega)).mono ?_
        rintro e w8 ⟨rfl, G8, W8, z8, hF8⟩
        have HF8 := hide hF8
        have HGl : Hid ((gs ++ [z5] ++ [z8]).length = gs.length + 2) := by show _ = _; simp
        clear hF8 HF7 HG7 HY7
        generalize gs ++ [z5] ++ [z8] = gs8 at *
        go_wp2
        go_loopw [16] (fun i wr => ∃ (j : Nat) (τj : Nat → Nat) (Gj Wj : Value) (gsj : List Gt), j ≤ 2 ∧ i = .int .i64 j ∧ Hid (Fs τ0 u τj wr (some (wr0.heap.size, #[.int .i64 6, .int .i64 which, .int .i64 m, .int .u64 (nn : Int), .slice bp bl bc])) bw v2 (.slice s9 xn.length q9) xn rb rh x0 a6 f6 eb p0 c0 a6 f6 b L M A turn done used ks n t Gj Wj gsj) ∧ Hid (gsj.length = gs.length + 2 + j)) (fun i _ => 2 - (intOf i).toNat)
        case atStart => exact ⟨0, _, _, _, _, Nat.zero_le _, rfl, HF8, HGl⟩
        case round =>
          clear HF8 HGl
          obtain ⟨j, τj, Gj, Wj, gsj, hj, rfl, HF, HGl⟩ := hrel
          have hgl := HGl.out
          by_cases hj2 : j < 2
          · have l3 : (j : Int) < 2 := by omega
            go_wp2_with fail
            refine (fs_out HF.out (by omega)).mono ?_
            rintro e wa ⟨sa, rfl, hga, hFa⟩
            have HGa := hide hga
            have HFa := hide hFa
            have HYb := hide hFa.wants
            clear hga hFa HF
            go_wp2_with fail
            refine (fs_add HFa.out _ HGa.out HYb.out (by omega)).mono ?_
            rintro e wb ⟨rfl, Gb, Wb, zb, hFb⟩
            have HFb := hide hFb
            clear hFb HFa HGa HYb
            go_wp2
            go_roundw
            case rel => exact ⟨j + 1, _, Gb, Wb, gsj ++ [zb], by omega, by go_num, HFb, by show _ = _; rw [List.length_append]; simp; omega⟩
            case measure => simp [intOf]; omega
          · have l3 : ¬ (j : Int) < 2 := by omega
            have HSe := hide (fs_settle HF.out 6 (by omega) (by omega))
            go_wp2_with fail
            refine HSe.out.mono ?_
            rintro e ws ⟨rfl, τs, Ls, Ms, As, turns, dones, useds, kss, ns, Gs, Ws, gss, hFs, hsum, hfew⟩
            have HFs := hide hFs
            have hfew2 : gss.length ≤ 5 := by
              rcases hfew with h | h
              · omega
              · subst h; simp
            clear hFs hfew HSe HF
            go_wp2_with fail
            refine (fs_look HFs.out (by omega)).mono ?_
            rintro e wl ⟨rfl, Ll, Ml, Al, donel, ksl, hFl⟩
            have HFl := hide hFl.forget
            clear hFl HFs
            go_wp2
            go_roundw
            case rel => exact ⟨k + 1, ext τs ws.heap.size 5, v2, xn, a6, f6, Ll, Ml, Al, turns, donel, useds, ksl, ns, Gs, Ws, gss, by omega, by go_num, HFl, HXl, by omega, hfew2⟩
            case measure => simp [intOf]; omega
      · have hk5 : (kind == 5) = false := by simp; omega
        have hk6 : (kind == 6) = false := by simp; omega
        have HFb := hide (HF.out.boxed #[.int .i64 kind, .int .i64 which, .int .i64 m, .int .u64 (nn : Int), .slice bp bl bc])
        have HBy : Hid (BytesS (fun k => ext τ wr0.heap.size 2 k = 0) (wr0.alloc (.cells #[.int .i64 kind, .int .i64 which, .int .i64 m, .int .u64 (nn : Int), .slice bp bl bc] 33)) bp bs) := bytesS_of (τ := τ0) ((HOp.out.bytes _ hmem.out).imp (fun k _ e => e.1)) ((HOp.out.bytes _ hmem.out).kept (fun k hk hl => HFb.out.base.kept.block k hl (fun e => e hk.1)) HFb.out.base.kept.size).bytes (fun g hg e => (HFb.out.base.col g hg (fun e' => e' e)).trans e)
        have HC := hide (fs_writes HFb.out ⟨kind, which, m, nn, bp, bl, bc, bs⟩ (HOp.out.nums _ hmem.out) HBy.out (by have := HX.out; simp only; omega))
        clear HF HBy HFb
        go_wp2_with fail
        refine HC.out.mono ?_
        rintro e w2 ⟨v2, h2, new, rfl, hnl, hF2⟩
        obtain ⟨s9, q9, he5, _⟩ := owns_form hF2.wt.hd
        subst he5
        have HF := hide hF2
        have HXl : Hid ((x ++ new).length ≤ (k + 1) * 4194314) := Nat.le_trans (Nat.le_of_eq List.length_append) (le_step HX.out hnl hbl)
        clear hF2 hnl HC
        generalize x ++ new = xn at *
        have hxl := HXl.out
        obtain ⟨b0, b1, b2, b3, b4, bf⟩ := blk5 (HF.out.box _ _ rfl).1
        have HSe := hide (fs_settle HF.out 6 (by omega) (by omega))
        go_wp2_with fail
        refine HSe.out.mono ?_
        rintro e ws ⟨rfl, τs, Ls, Ms, As, turns, dones, useds, kss, ns, Gs, Ws, gss, hFs, hsum, hfew⟩
        have HFs := hide hFs
        have hfew2 : gss.length ≤ 5 := by
          rcases hfew with h | h
          · omega
          · subst h; simp
        clear hFs hfew HSe HF
        go_wp2_with fail
        refine (fs_look HFs.out (by omega)).mono ?_
        rintro e wl ⟨rfl, Ll, Ml, Al, donel, ksl, hFl⟩
        have HFl := hide hFl.forget
        clear hFl HFs
        go_wp2
        go_roundw
        case rel => exact ⟨k + 1, ext τs ws.heap.size 5, v2, xn, a, f, Ll, Ml, Al, turns, donel, useds, ksl, ns, Gs, Ws, gss, by omega, by go_num, HFl, HXl, by omega, hfew2⟩
        case measure => simp [intOf]; omega
    · obtain rfl : k = P.length := by omega
      have HSe := hide (fs_settle HF.out 0 (by omega) (by omega))
      have HXl : Hid (x.length ≤ 140737488355328) := Nat.le_trans HX.out (by omega)
      clear HF
      go_wp2_with fail
      refine HSe.out.mono ?_
      rintro e ws ⟨rfl, τs, Ls, Ms, As, turns, dones, useds, kss, ns, Gs, Ws, gss, hFs, _, _⟩
      have HFs := hide hFs
      clear hFs HSe
      go_wp2_with fail
      refine (fs_out HFs.out HXl.out).mono ?_
      rintro e wa ⟨sa, rfl, hga, hFa⟩
      have HGa := hide (owns_bytes hga.row hFa.wt.wr.small)
      have HHa := hide (owns_bytes hFa.wt.hd hFa.wt.wr.small)
      have HBa := hide (hFa.base.kept.below HB0.out HB0.out.size HBase.out)
      clear hga hFa HFs
      go_wp2_with fail
      refine (eq_true wa sa hs0 x.length x.length hq0 x rfl HXl.out HGa.out HHa.out).mono ?_
      rintro e wb ⟨rfl, hwb⟩
      go_wp2
      go_ret
      exact ⟨rfl, HBa.out.trans (hwb.mono HBa.out.size)⟩

end Go.Proofs.Ytlnldipiofddkaa
