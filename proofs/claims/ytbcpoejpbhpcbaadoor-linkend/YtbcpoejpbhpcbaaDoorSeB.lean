import Derived.Test.YtbcpoejpbhpcbaaDoorHeB
import Derived.Test.YtbcpoejpbhpcbaaDoorLkK
import Derived.Lib.QuietBelow
import Derived.BigQuiet
namespace Go.Proofs.YtbcpoejpbhpcbaaDoor
open Go.RowKit

/-! Sessions in memory -/
structure Sm where
  mine : Nat
  yours : Nat
  iv : Value
  uv : Value
  inn : List (List Nat)
  up : List (List Nat)
def smC (x : Sm) : List Value := [.int .u64 (x.mine : Int), .int .u64 (x.yours : Int), x.iv, x.uv]
def smV : List Sm → List Value
  | [] => []
  | x :: S => .int .u64 (x.mine : Int) :: .int .u64 (x.yours : Int) :: x.iv :: x.uv :: smV S
theorem smV_len (S : List Sm) : (smV S).length = S.length * 4 := by
  induction S with
  | nil => rfl
  | cons x S ih => simp [smV, ih]; omega
theorem smV_snoc (S : List Sm) (x : Sm) : smV (S ++ [x]) = smV S ++ smC x := by
  induction S with
  | nil => rfl
  | cons y S ih => simp [smV, ih]
theorem smV_at (S : List Sm) : ∀ (n : Nat) (x : Sm), S[n]? = some x → (smV S)[n * 4]? = some (.int .u64 (x.mine : Int)) ∧ (smV S)[n * 4 + 1]? = some (.int .u64 (x.yours : Int)) ∧ (smV S)[n * 4 + 2]? = some x.iv ∧ (smV S)[n * 4 + 3]? = some x.uv := by
  induction S with
  | nil => intro n x h; simp at h
  | cons y S ih =>
    intro n x h
    cases n with
    | zero => simp at h; subst h; exact ⟨rfl, rfl, rfl, rfl⟩
    | succ n =>
      obtain ⟨h1, h2, h3, h4⟩ := ih n x (by simpa using h)
      rw [show (n + 1) * 4 = n * 4 + 4 by omega, show n * 4 + 4 + 1 = n * 4 + 1 + 4 by omega, show n * 4 + 4 + 2 = n * 4 + 2 + 4 by omega, show n * 4 + 4 + 3 = n * 4 + 3 + 4 by omega]
      exact ⟨by simpa [smV] using h1, by simpa [smV] using h2, by simpa [smV] using h3, by simpa [smV] using h4⟩
theorem smV_in (S : List Sm) : ∀ (n : Nat) (x : Sm) (v : Value) (l : List (List Nat)), S[n]? = some x → smV (S.set n { x with iv := v, inn := l }) = (smV S).set (n * 4 + 2) v := by
  induction S with
  | nil => intro n x v l h; simp at h
  | cons y S ih =>
    intro n x v l h
    cases n with
    | zero => simp at h; subst h; rfl
    | succ n =>
      have := ih n x v l (by simpa using h)
      rw [show (n + 1) * 4 + 2 = n * 4 + 2 + 4 by omega]
      simp [smV, this]
theorem smV_up (S : List Sm) : ∀ (n : Nat) (x : Sm) (v : Value) (l : List (List Nat)), S[n]? = some x → smV (S.set n { x with uv := v, up := l }) = (smV S).set (n * 4 + 3) v := by
  induction S with
  | nil => intro n x v l h; simp at h
  | cons y S ih =>
    intro n x v l h
    cases n with
    | zero => simp at h; subst h; rfl
    | succ n =>
      have := ih n x v l (by simpa using h)
      rw [show (n + 1) * 4 + 3 = n * 4 + 3 + 4 by omega]
      simp [smV, this]
/-- Bytes that never turn. -/
structure By4 (w : World) (K : Knd) (sp : Option Addr) (p : List Nat) : Prop where
  by_ : Bytes w sp p
  kind : p = [] ∨ ∀ g o, sp = some ⟨g, o, none⟩ → g < w.heap.size ∧ K g = (4, 0)
theorem By4.kp {w w2 : World} {K K' : Knd} {sp : Option Addr} {e : List Nat} {p : Nat × Nat → Prop} (h : By4 w K sp e) (m : Kp p K K' w w2) (hp : ¬ p (4, 0)) : By4 w2 K' sp e := by
  refine ⟨⟨h.by_.small, ?_⟩, h.kind.imp id (fun q g o e2 => ⟨Nat.lt_of_lt_of_le (q g o e2).1 m.size, (m.same g (q g o e2).1).trans (q g o e2).2⟩)⟩
  rcases h.by_.lie with q | ⟨g, o, q, hg, hc⟩
  · exact Or.inl q
  · rcases h.kind with q2 | q2
    · exact Or.inl q2
    · refine Or.inr ⟨g, o, q, Nat.lt_of_lt_of_le hg m.size, fun j hj => ?_⟩
      rw [← hc j hj]
      exact World.cell?_of_block (a := ⟨g, o + j, none⟩) (m.block g hg (by rw [(q2 g o q).2]; exact hp))
theorem By4.new {w w2 : World} {K : Knd} {sp : Option Addr} {e : List Nat} (h : Bytes w2 sp e) (hlo : ∀ p, sp = some p → w.heap.size ≤ p.block) : By4 w2 (ext K w.heap.size (4, 0)) sp e := by
  refine ⟨h, ?_⟩
  rcases h.lie with q | ⟨g, o, q, hg, _⟩
  · exact Or.inl q
  · refine Or.inr (fun g' o' q' => ?_)
    rw [q] at q'
    cases q'
    exact ⟨hg, ext_new _ _ (hlo _ q)⟩
/-- A row of such lists. -/
structure Rr (w : World) (K : Knd) (k : Nat × Nat) (v : Value) (ps : List (List Nat)) : Prop where
  ex : ∃ vs : List Value, Rk w K k 29 1 v ps.length vs ∧ ∀ (i : Nat) (p : List Nat), ps[i]? = some p → ∃ (sp : Option Addr) (c : Nat), vs[i]? = some (Value.slice sp p.length c) ∧ By4 w K sp p
  small : ∀ p ∈ ps, p.length ≤ 2048
theorem Rr.kp {w w2 : World} {K K' : Knd} {k : Nat × Nat} {v : Value} {ps : List (List Nat)} {p : Nat × Nat → Prop} (h : Rr w K k v ps) (m : Kp p K K' w w2) (h4 : ¬ p (4, 0)) (hk : ¬ p k) : Rr w2 K' k v ps := by
  obtain ⟨vs, h1, h2⟩ := h.ex
  refine ⟨⟨vs, h1.kept m hk, fun i x hx => ?_⟩, h.small⟩
  obtain ⟨sp, c, q1, q2⟩ := h2 i x hx
  exact ⟨sp, c, q1, q2.kp m h4⟩
theorem rr_nil (w : World) (K : Knd) (k : Nat × Nat) : Rr w K k (.slice none 0 0) [] := ⟨⟨[], rk_nil w K k _ _, fun i p h => (by simp at h)⟩, fun _ h => (by cases h)⟩
/-- The sessions of a side. -/
structure Ss (w : World) (K : Knd) (ks : Nat × Nat) (kr : Nat) (v : Value) (S : List Sm) : Prop where
  own : Rk w K ks 47 4 v S.length (smV S)
  rows : ∀ n x, S[n]? = some x → Rr w K (kr, 2 * n) x.iv x.inn ∧ Rr w K (kr, 2 * n + 1) x.uv x.up
theorem Ss.kp {w w2 : World} {K K' : Knd} {ks : Nat × Nat} {kr : Nat} {v : Value} {S : List Sm} {p : Nat × Nat → Prop} (h : Ss w K ks kr v S) (m : Kp p K K' w w2) (h4 : ¬ p (4, 0)) (hk : ¬ p ks) (hr : ∀ j, ¬ p (kr, j)) : Ss w2 K' ks kr v S :=
  ⟨h.own.kept m hk, fun n x hx => ⟨(h.rows n x hx).1.kp m h4 (hr _), (h.rows n x hx).2.kp m h4 (hr _)⟩⟩
theorem Ss.cells {w : World} {K : Knd} {ks : Nat × Nat} {kr : Nat} {v : Value} {S : List Sm} (h : Ss w K ks kr v S) {n : Nat} {x : Sm} (hx : S[n]? = some x) :
    ∃ g c, v = .slice (some ⟨g, 0, none⟩) S.length c ∧ g < w.heap.size ∧ w.cell? ⟨g, n * 4, none⟩ = some (.int .u64 (x.mine : Int)) ∧ w.cell? ⟨g, n * 4 + 1, none⟩ = some (.int .u64 (x.yours : Int)) ∧ w.cell? ⟨g, n * 4 + 2, none⟩ = some x.iv ∧ w.cell? ⟨g, n * 4 + 3, none⟩ = some x.uv ∧ ∀ o, w.frozen? ⟨g, o, none⟩ = false := by
  have hn := (List.getElem?_eq_some_iff.1 hx).1
  obtain ⟨h1, h2, h3, h4⟩ := smV_at S n x hx
  rcases h.own.own.2 with ⟨e, e2⟩ | ⟨g, cap, cur, e, _, hg, q1, q2, q3, q4⟩
  · omega
  · have hc : ∀ (j : Nat) (u : Value), (smV S)[j]? = some u → w.cell? ⟨g, j, none⟩ = some u := fun j u hj => by
      have hjl : j < (smV S).length := (List.getElem?_eq_some_iff.1 hj).1
      have hl := smV_len S
      rw [← q4, List.getElem?_take, if_pos (by omega)] at hj
      simp only [World.cell?, hg]
      simpa using hj
    exact ⟨g, cap, e, C.lt_of_block hg, hc _ _ h1, hc _ _ h2, hc _ _ h3, hc _ _ h4, fun o => by simp [World.frozen?, hg]⟩
/-- One more session. -/
theorem Ss.more {w w2 : World} {K : Knd} {ks : Nat × Nat} {kr : Nat} {v v' : Value} {S : List Sm} {p : Nat × Nat → Prop} (h : Ss w K ks kr v S) (mine yours : Nat) (m : Kp p K (ext K w.heap.size ks) w w2) (h4 : ¬ p (4, 0)) (hr : ∀ j, ¬ p (kr, j)) (ho : Rk w2 (ext K w.heap.size ks) ks 47 4 v' (S.length + 1) (smV S ++ [.int .u64 (mine : Int), .int .u64 (yours : Int), .slice none 0 0, .slice none 0 0])) :
    Ss w2 (ext K w.heap.size ks) ks kr v' (S ++ [⟨mine, yours, .slice none 0 0, .slice none 0 0, [], []⟩]) := by
  refine ⟨?_, fun n x hx => ?_⟩
  · rw [List.length_append, smV_snoc]
    exact ho
  · by_cases hn : n < S.length
    · rw [List.getElem?_append_left hn] at hx
      exact ⟨(h.rows n x hx).1.kp m h4 (hr _), (h.rows n x hx).2.kp m h4 (hr _)⟩
    · have hn2 : n = S.length := by
        have := (List.getElem?_eq_some_iff.1 hx).1
        simp at this; omega
      subst hn2
      simp at hx
      subst hx
      exact ⟨rr_nil _ _ _, rr_nil _ _ _⟩
/-- The pair's block. -/
def pkC (W M l0 l1 b0 b1 : Nat) (sv s0 s1 : Value) : Array Value := #[.int .i64 (W : Int), .int .i64 (M : Int), .int .u64 (l0 : Int), .int .u64 (l1 : Int), .pointer (some ⟨b0, 0, none⟩), .pointer (some ⟨b1, 0, none⟩), sv, s0, s1]
structure Pk (w : World) (K : Knd) (pb : Nat) (W M l0 l1 b0 b1 : Nat) (sv s0 s1 : Value) : Prop where
  blk : w.heap[pb]? = some (.cells (pkC W M l0 l1 b0 b1 sv s0 s1) 41 (0, 0))
  kind : K pb = (2, 0)
theorem Pk.kp {w w2 : World} {K K' : Knd} {pb W M l0 l1 b0 b1 : Nat} {sv s0 s1 : Value} {p : Nat × Nat → Prop} (h : Pk w K pb W M l0 l1 b0 b1 sv s0 s1) (m : Kp p K K' w w2) (hp : ¬ p (2, 0)) : Pk w2 K' pb W M l0 l1 b0 b1 sv s0 s1 :=
  ⟨(m.block pb (C.lt_of_block h.blk) (by rw [h.kind]; exact hp)).trans h.blk, (m.same pb (C.lt_of_block h.blk)).trans h.kind⟩
theorem Pk.cells {w : World} {K : Knd} {pb W M l0 l1 b0 b1 : Nat} {sv s0 s1 : Value} (h : Pk w K pb W M l0 l1 b0 b1 sv s0 s1) :
    w.cell? ⟨pb, 0, none⟩ = some (.int .i64 (W : Int)) ∧ w.cell? ⟨pb, 1, none⟩ = some (.int .i64 (M : Int)) ∧ w.cell? ⟨pb, 2, none⟩ = some (.int .u64 (l0 : Int)) ∧ w.cell? ⟨pb, 3, none⟩ = some (.int .u64 (l1 : Int)) ∧ w.cell? ⟨pb, 4, none⟩ = some (.pointer (some ⟨b0, 0, none⟩)) ∧ w.cell? ⟨pb, 5, none⟩ = some (.pointer (some ⟨b1, 0, none⟩)) ∧ w.cell? ⟨pb, 6, none⟩ = some sv ∧ w.cell? ⟨pb, 7, none⟩ = some s0 ∧ w.cell? ⟨pb, 8, none⟩ = some s1 ∧ (∀ o, w.frozen? ⟨pb, o, none⟩ = false) ∧ pb < w.heap.size := by
  have hb := h.blk
  unfold pkC at hb
  refine ⟨?_, ?_, ?_, ?_, ?_, ?_, ?_, ?_, ?_, fun o => by simp [World.frozen?, hb], C.lt_of_block hb⟩ <;> simp [World.cell?, hb]
end Go.Proofs.YtbcpoejpbhpcbaaDoor
namespace Go.Proofs.YtbcpoejpbhpcbaaDoor
open Go.RowKit

theorem Tryd.infoSs : (Tryd.prog.info? 47).map (fun i => (i.zero, i.size, i.bytes)) = some (some (.agg #[.int .u64 0, .int .u64 0, .slice none 0 0, .slice none 0 0]), 4, 64) := by kernel_rfl
theorem drewN_kq (w : World) (K : Knd) (q : Nat) : Kp (fun _ => False) K K w (w.drewN q) := ⟨rfl, rfl, rfl, Nat.le_refl _, fun _ _ => rfl, fun _ _ _ => rfl⟩
theorem Pk.sets {w : World} {K : Knd} {pb W M l0 l1 b0 b1 : Nat} {sv s0 s1 : Value} (h : Pk w K pb W M l0 l1 b0 b1 sv s0 s1) (v : Value) :
    Pk (w.setCell ⟨pb, 7, none⟩ v) K pb W M l0 l1 b0 b1 sv v s1 ∧ Pk (w.setCell ⟨pb, 8, none⟩ v) K pb W M l0 l1 b0 b1 sv s0 v ∧ Pk (w.setCell ⟨pb, 6, none⟩ v) K pb W M l0 l1 b0 b1 v s0 s1 :=
  ⟨⟨C.block_set h.blk v, h.kind⟩, ⟨C.block_set h.blk v, h.kind⟩, ⟨C.block_set h.blk v, h.kind⟩⟩
/-- The session (mine, yours) among those of a side: the first one's place. -/
def NoSes (S : List Sm) (n mine yours : Nat) : Prop := ∀ m x, m < n → S[m]? = some x → ¬ (x.mine = mine ∧ x.yours = yours)
def NowPost0 (w : World) (K : Knd) (pb W M l0 l1 b0 b1 : Nat) (sv _s0 s1 : Value) (known : Nat) (S : List Sm) (e : Ending) (w' : World) : Prop :=
  (known = 0 ∧ e = .returned (.int .i64 (-1)) ∧ w' = w) ∨
  (known ≠ 0 ∧ ∃ n x q, S[n]? = some x ∧ x.mine = l0 ∧ x.yours = known ∧ NoSes S n l0 known ∧ e = .returned (.int .i64 (n : Int)) ∧ w' = w.drewN q) ∨
  (known ≠ 0 ∧ NoSes S S.length l0 known ∧ e = .returned (.int .i64 (S.length : Int)) ∧ ∃ v K', Pk w' K' pb W M l0 l1 b0 b1 sv v s1 ∧ Ss w' K' (5, 0) 6 v (S ++ [⟨l0, known, .slice none 0 0, .slice none 0 0, [], []⟩]) ∧ Kp (fun q => q = (2, 0) ∨ q = (5, 0)) K K' w w')
set_option maxRecDepth 100000 in
set_option maxHeartbeats 4000000 in
theorem now0 (w : World) (K : Knd) (pb W M l0 l1 b0 b1 : Nat) (sv s0 s1 : Value) (L : Lk) (rv : Value) (S : List Sm) (hp : Pk w K pb W M l0 l1 b0 b1 sv s0 s1) (hl : Lb w b0 L rv) (hs : Ss w K (5, 0) 6 s0 S) (hlen : S.length ≤ 20000) :
    Calls Tryd.prog 12 #[.pointer (some ⟨pb, 0, none⟩), .int .i64 0] w (NowPost0 w K pb W M l0 l1 b0 b1 sv s0 s1 L.known S) := by
  obtain ⟨p0, p1, p2, p3, p4, p5, p6, p7, p8, pf, hpl⟩ := hp.cells
  have HKn := hide (known_any w b0 L rv hl)
  have HLi := hide (life_any w b0 L rv hl)
  obtain ⟨kn, hkn⟩ : ∃ kn, L.known = kn := ⟨_, rfl⟩
  rw [hkn] at HKn HLi
  rw [hkn]
  clear hkn hl
  by_cases hk : kn = 0
  · have hd : decide (0 < kn) = false := decide_eq_false (by omega)
    rw [hd] at HKn
    clear hd HLi
    go_enter Tryd.func12, Tryd.ntmps12
    go_wp2_with fail
    refine HKn.out.mono ?_
    rintro e0 z ⟨rfl, hz⟩
    rw [hz]
    go_wp2
    go_ret
    exact Or.inl ⟨hk, rfl, rfl⟩
  · have hd : decide (0 < kn) = true := decide_eq_true (by omega)
    rw [hd] at HKn
    have HP := hide hp
    have HS := hide hs
    have HNz := hide hk
    obtain ⟨a, c, hv⟩ : ∃ a c, s0 = .slice a S.length c := by
      obtain ⟨a, c, e, _⟩ := hs.own.form
      exact ⟨a, c, e⟩
    obtain ⟨i0, hi, hz0, hz1, hz2⟩ := info_parts Tryd.infoSs
    rw [hv] at p7
    have HV := hide hv
    clear hd hp hs hk hv
    go_enter Tryd.func12, Tryd.ntmps12
    go_wp2_with fail
    refine HKn.out.mono ?_
    rintro e0 z ⟨rfl, hz⟩
    rw [hz]
    clear hz
    go_wp2_with fail
    refine HLi.out.mono ?_
    rintro e0 z ⟨rfl, hz⟩
    rw [hz]
    clear hz HKn HLi
    go_wp2
    go_loopw [6] (fun nv w' => ∃ (n q : Nat), n ≤ S.length ∧ nv = .int .i64 (n : Int) ∧ Hid (w' = w.drewN q) ∧ Hid (NoSes S n l0 kn)) (fun nv _ => S.length - (intOf nv).toNat)
    case atStart => exact ⟨0, 0, Nat.zero_le _, rfl, hide rfl, fun m x hm => by omega⟩
    case round =>
    obtain ⟨n, q, hn, rfl, HW, HNo⟩ := hrel
    rename World => wr
    clear p0 p1 p2 p3 p4 p5 p6 p7 p8 pf hpl
    have HPr : Hid (Pk wr K pb W M l0 l1 b0 b1 sv s0 s1) := by show Pk _ _ _ _ _ _ _ _ _ _ _ _; rw [HW.out]; exact HP.out.kp (drewN_kq w K q) (fun e => e)
    have HSr : Hid (Ss wr K (5, 0) 6 s0 S) := by show Ss _ _ _ _ _ _; rw [HW.out]; exact HS.out.kp (drewN_kq w K q) (fun e => e) (fun e => e) (fun _ e => e)
    obtain ⟨p0, p1, p2, p3, p4, p5, p6, p7, p8, pf, hpl⟩ := HPr.out.cells
    rw [HV.out] at p7
    by_cases hlt : n < S.length
    · have n1 : (n : Int) < (S.length : Int) := by omega
      have n2 : (0 : Int) ≤ (n : Int) := by omega
      obtain ⟨x, hx⟩ : ∃ x, S[n]? = some x := ⟨_, List.getElem?_eq_getElem hlt⟩
      obtain ⟨g, c', hg, hgl, c0, c1, -, -, -⟩ := HSr.out.cells hx
      rw [HV.out] at hg
      injection hg with hg1 hg2 hg3
      subst hg1
      have HX := hide hx
      clear hx hg2 hg3
      by_cases e1 : x.mine = l0
      · have f1 : ((x.mine : Int) == (l0 : Int)) = true := by simp [e1]
        by_cases e2 : x.yours = kn
        · have f2 : ((x.yours : Int) == (kn : Int)) = true := by simp [e2]
          go_upto_region 7 with (fail)
          go_quiet (fail)
          go_wp2
          go_ret
          refine Or.inr (Or.inl ⟨HNz.out, n, x, q + nq, HX.out, e1, e2, HNo.out, rfl, ?_⟩)
          rw [HW.out, World.drewN_drewN]
        · have f2 : ((x.yours : Int) == (kn : Int)) = false := by simp; omega
          go_upto_region 7 with (fail)
          go_quiet (fail)
          have HW2 : Hid (wr.drewN nq = w.drewN (q + nq)) := by show _ = _; rw [HW.out, World.drewN_drewN]
          have HN2 : Hid (NoSes S (n + 1) l0 kn) := fun m y hm hy => by
            by_cases hmn : m = n
            · subst hmn; rw [HX.out] at hy; cases hy; exact fun q => e2 q.2
            · exact HNo.out m y (by omega) hy
          go_wp2
          first
            | exact ⟨⟨n + 1, q + nq, by omega, by go_num, HW2, HN2⟩, by simp [intOf]; omega⟩
            | (go_roundw
               case rel => exact ⟨n + 1, q + nq, by omega, by go_num, HW2, HN2⟩
               case measure => simp [intOf]; omega)
      · have f1 : ((x.mine : Int) == (l0 : Int)) = false := by simp; omega
        go_upto_region 7 with (fail)
        go_quiet (fail)
        have HW2 : Hid (wr.drewN nq = w.drewN (q + nq)) := by show _ = _; rw [HW.out, World.drewN_drewN]
        have HN2 : Hid (NoSes S (n + 1) l0 kn) := fun m y hm hy => by
          by_cases hmn : m = n
          · subst hmn; rw [HX.out] at hy; cases hy; exact fun q => e1 q.1
          · exact HNo.out m y (by omega) hy
        go_wp2
        first
          | exact ⟨⟨n + 1, q + nq, by omega, by go_num, HW2, HN2⟩, by simp [intOf]; omega⟩
          | (go_roundw
             case rel => exact ⟨n + 1, q + nq, by omega, by go_num, HW2, HN2⟩
             case measure => simp [intOf]; omega)
    · obtain rfl : n = S.length := by omega
      have n1 : ¬ (S.length : Int) < (S.length : Int) := by omega
      have HOw := hide HSr.out.own.own
      rw [HV.out] at HOw
      have hkp := HPr.out.kind
      have HKs : Hid (∀ g, (Value.slice a S.length c).ownBlock = some g → K g = (5, 0)) := by rw [← HV.out]; exact HSr.out.own.kind
      have hpn : some pb ≠ (Value.slice a S.length c).ownBlock := fun e => by have := HKs.out pb e.symm; rw [hkp] at this; cases this
      have HPn := hide hpn
      clear hkp hpn
      go_upto_region 9 with (fail)
      go_region_law ((refine step_append_lies _ (by rfl) (.tmp 72) (.tmp 81) 38 (by rfl) 0 47 i0 (.agg #[.int .u64 0, .int .u64 0, .slice none 0 0, .slice none 0 0]) 4 64 Tryd.underlying38 hi hz0 hz1 hz2 rfl (by omega) (.slice a S.length c) S.length (smV S) (by rfl) (owns_same HOw.out (fun g hg => Below.heap_alloc _ _ _ (rk_lt HOw.out hg))) ⟨wr.heap.size, 0, none⟩ 1 1 [.int .u64 (l0 : Int), .int .u64 (kn : Int), .slice none 0 0, .slice none 0 0] (by rfl) rfl (World.news_of_block (heap_alloc_new wr.drew (.cells #[.int .u64 (l0 : Int), .int .u64 (kn : Int), .slice none 0 0, .slice none 0 0] 47))) (by simp [Value.oneCell']) (by omega) (by unfold maxLen; omega) (by omega) (Nat.zero_le _) _ rfl ?_; intro g' cap' w4 hown hgrow hat hltg; have HO4 := hide hown; have HG4 := hide hgrow; have HA4 := hide hat; have hb4 : w4.heap[pb]? = _ := (hgrow.block pb (by simp; have := hpl; omega) HPn.out).trans ((Below.heap_alloc _ _ _ hpl).trans HPr.out.blk); have HB4 := hide hb4; have hpk4 : Pk w4 K pb W M l0 l1 b0 b1 sv s0 s1 := ⟨hb4, HPr.out.kind⟩; obtain ⟨z0, z1, z2, z3, z4, z5, z6, z7, z8, zf, hzl⟩ := hpk4.cells; clear hown hgrow hat hltg hb4 hpk4))
      all_goals go_wp2
      all_goals
        have hm4 : Kp (fun q => q = (2, 0) ∨ q = (5, 0)) K (ext K wr.heap.size (5, 0)) wr w4 := by
          refine ⟨HG4.out.os, HG4.out.tape, HG4.out.output, Nat.le_trans (by simp) HG4.out.size, fun x hx => ext_old _ _ hx, fun x hx hn => ?_⟩
          exact (HG4.out.block x (by simp; omega) (fun e => hn (Or.inr (HKs.out x e.symm)))).trans (Below.heap_alloc wr.drew _ _ hx)
        have hpl9 := C.lt_of_block HPr.out.blk
        have hkp4 : ext K wr.heap.size (5, 0) pb = (2, 0) := (ext_old _ _ hpl9).trans HPr.out.kind
        have hrk4 : Rk w4 (ext K wr.heap.size (5, 0)) (5, 0) 47 4 (.slice (some ⟨g', 0, none⟩) (S.length + 1) cap') (S.length + 1) (smV S ++ [.int .u64 (l0 : Int), .int .u64 (kn : Int), .slice none 0 0, .slice none 0 0]) := by
          have h1 : Rk wr K (5, 0) 47 4 (.slice a S.length c) S.length (smV S) := ⟨HOw.out, HKs.out⟩
          refine h1.grown HO4.out ?_
          rcases HA4.out with e | e
          · exact Or.inl e.symm
          · exact Or.inr ⟨g', rfl, by rw [e]; simp⟩
        have ms : Kp (fun q => q = (2, 0)) (ext K wr.heap.size (5, 0)) (ext K wr.heap.size (5, 0)) w4 (w4.setCell ⟨pb, 7, none⟩ (.slice (some ⟨g', 0, none⟩) (S.length + 1) cap')) := (Kp.refl (fun q => q = (2, 0)) _ w4).setCell (b := pb) (Or.inr hkp4) _ _
        have m5 : Kp (fun q => q = (2, 0) ∨ q = (5, 0)) K (ext K wr.heap.size (5, 0)) wr (w4.setCell ⟨pb, 7, none⟩ (.slice (some ⟨g', 0, none⟩) (S.length + 1) cap')) := hm4.trans (ms.mono (fun q e => Or.inl e))
        have hpk : Pk w4 (ext K wr.heap.size (5, 0)) pb W M l0 l1 b0 b1 sv s0 s1 := ⟨HB4.out, hkp4⟩
        have hss := HSr.out.more l0 kn m5 (by simp) (by simp) (hrk4.kept ms (by simp))
        have m6 : Kp (fun q => q = (2, 0) ∨ q = (5, 0)) K (ext K wr.heap.size (5, 0)) w (w4.setCell ⟨pb, 7, none⟩ (.slice (some ⟨g', 0, none⟩) (S.length + 1) cap')) := by
          have m0 := (drewN_kq w K q).mono (q := fun q => q = (2, 0) ∨ q = (5, 0)) (fun _ e => e.elim)
          rw [← HW.out] at m0
          exact m0.trans m5
        go_ret
        exact Or.inr (Or.inr ⟨HNz.out, HNo.out, rfl, _, _, (hpk.sets _).1, hss, m6⟩)
def NowPost1 (w : World) (K : Knd) (pb W M l0 l1 b0 b1 : Nat) (sv s0 _s1 : Value) (known : Nat) (S : List Sm) (e : Ending) (w' : World) : Prop :=
  (known = 0 ∧ e = .returned (.int .i64 (-1)) ∧ w' = w) ∨
  (known ≠ 0 ∧ ∃ n x q, S[n]? = some x ∧ x.mine = l1 ∧ x.yours = known ∧ NoSes S n l1 known ∧ e = .returned (.int .i64 (n : Int)) ∧ w' = w.drewN q) ∨
  (known ≠ 0 ∧ NoSes S S.length l1 known ∧ e = .returned (.int .i64 (S.length : Int)) ∧ ∃ v K', Pk w' K' pb W M l0 l1 b0 b1 sv s0 v ∧ Ss w' K' (5, 1) 7 v (S ++ [⟨l1, known, .slice none 0 0, .slice none 0 0, [], []⟩]) ∧ Kp (fun q => q = (2, 0) ∨ q = (5, 1)) K K' w w')
set_option maxRecDepth 100000 in
set_option maxHeartbeats 4000000 in
theorem now1 (w : World) (K : Knd) (pb W M l0 l1 b0 b1 : Nat) (sv s0 s1 : Value) (L : Lk) (rv : Value) (S : List Sm) (hp : Pk w K pb W M l0 l1 b0 b1 sv s0 s1) (hl : Lb w b1 L rv) (hs : Ss w K (5, 1) 7 s1 S) (hlen : S.length ≤ 20000) :
    Calls Tryd.prog 12 #[.pointer (some ⟨pb, 0, none⟩), .int .i64 1] w (NowPost1 w K pb W M l0 l1 b0 b1 sv s0 s1 L.known S) := by
  obtain ⟨p0, p1, p2, p3, p4, p5, p6, p7, p8, pf, hpl⟩ := hp.cells
  have HKn := hide (known_any w b1 L rv hl)
  have HLi := hide (life_any w b1 L rv hl)
  obtain ⟨kn, hkn⟩ : ∃ kn, L.known = kn := ⟨_, rfl⟩
  rw [hkn] at HKn HLi
  rw [hkn]
  clear hkn hl
  by_cases hk : kn = 0
  · have hd : decide (0 < kn) = false := decide_eq_false (by omega)
    rw [hd] at HKn
    clear hd HLi
    go_enter Tryd.func12, Tryd.ntmps12
    go_wp2_with fail
    refine HKn.out.mono ?_
    rintro e0 z ⟨rfl, hz⟩
    rw [hz]
    go_wp2
    go_ret
    exact Or.inl ⟨hk, rfl, rfl⟩
  · have hd : decide (0 < kn) = true := decide_eq_true (by omega)
    rw [hd] at HKn
    have HP := hide hp
    have HS := hide hs
    have HNz := hide hk
    obtain ⟨a, c, hv⟩ : ∃ a c, s1 = .slice a S.length c := by
      obtain ⟨a, c, e, _⟩ := hs.own.form
      exact ⟨a, c, e⟩
    obtain ⟨i0, hi, hz0, hz1, hz2⟩ := info_parts Tryd.infoSs
    rw [hv] at p8
    have HV := hide hv
    clear hd hp hs hk hv
    go_enter Tryd.func12, Tryd.ntmps12
    go_wp2_with fail
    refine HKn.out.mono ?_
    rintro e0 z ⟨rfl, hz⟩
    rw [hz]
    clear hz
    go_wp2_with fail
    refine HLi.out.mono ?_
    rintro e0 z ⟨rfl, hz⟩
    rw [hz]
    clear hz HKn HLi
    go_wp2
    go_loopw [6] (fun nv w' => ∃ (n q : Nat), n ≤ S.length ∧ nv = .int .i64 (n : Int) ∧ Hid (w' = w.drewN q) ∧ Hid (NoSes S n l1 kn)) (fun nv _ => S.length - (intOf nv).toNat)
    case atStart => exact ⟨0, 0, Nat.zero_le _, rfl, hide rfl, fun m x hm => by omega⟩
    case round =>
    obtain ⟨n, q, hn, rfl, HW, HNo⟩ := hrel
    rename World => wr
    clear p0 p1 p2 p3 p4 p5 p6 p7 p8 pf hpl
    have HPr : Hid (Pk wr K pb W M l0 l1 b0 b1 sv s0 s1) := by show Pk _ _ _ _ _ _ _ _ _ _ _ _; rw [HW.out]; exact HP.out.kp (drewN_kq w K q) (fun e => e)
    have HSr : Hid (Ss wr K (5, 1) 7 s1 S) := by show Ss _ _ _ _ _ _; rw [HW.out]; exact HS.out.kp (drewN_kq w K q) (fun e => e) (fun e => e) (fun _ e => e)
    obtain ⟨p0, p1, p2, p3, p4, p5, p6, p7, p8, pf, hpl⟩ := HPr.out.cells
    rw [HV.out] at p8
    by_cases hlt : n < S.length
    · have n1 : (n : Int) < (S.length : Int) := by omega
      have n2 : (0 : Int) ≤ (n : Int) := by omega
      obtain ⟨x, hx⟩ : ∃ x, S[n]? = some x := ⟨_, List.getElem?_eq_getElem hlt⟩
      obtain ⟨g, c', hg, hgl, c0, c1, -, -, -⟩ := HSr.out.cells hx
      rw [HV.out] at hg
      injection hg with hg1 hg2 hg3
      subst hg1
      have HX := hide hx
      clear hx hg2 hg3
      by_cases e1 : x.mine = l1
      · have f1 : ((x.mine : Int) == (l1 : Int)) = true := by simp [e1]
        by_cases e2 : x.yours = kn
        · have f2 : ((x.yours : Int) == (kn : Int)) = true := by simp [e2]
          go_upto_region 7 with (fail)
          go_quiet (fail)
          go_wp2
          go_ret
          refine Or.inr (Or.inl ⟨HNz.out, n, x, q + nq, HX.out, e1, e2, HNo.out, rfl, ?_⟩)
          rw [HW.out, World.drewN_drewN]
        · have f2 : ((x.yours : Int) == (kn : Int)) = false := by simp; omega
          go_upto_region 7 with (fail)
          go_quiet (fail)
          have HW2 : Hid (wr.drewN nq = w.drewN (q + nq)) := by show _ = _; rw [HW.out, World.drewN_drewN]
          have HN2 : Hid (NoSes S (n + 1) l1 kn) := fun m y hm hy => by
            by_cases hmn : m = n
            · subst hmn; rw [HX.out] at hy; cases hy; exact fun q => e2 q.2
            · exact HNo.out m y (by omega) hy
          go_wp2
          first
            | exact ⟨⟨n + 1, q + nq, by omega, by go_num, HW2, HN2⟩, by simp [intOf]; omega⟩
            | (go_roundw
               case rel => exact ⟨n + 1, q + nq, by omega, by go_num, HW2, HN2⟩
               case measure => simp [intOf]; omega)
      · have f1 : ((x.mine : Int) == (l1 : Int)) = false := by simp; omega
        go_upto_region 7 with (fail)
        go_quiet (fail)
        have HW2 : Hid (wr.drewN nq = w.drewN (q + nq)) := by show _ = _; rw [HW.out, World.drewN_drewN]
        have HN2 : Hid (NoSes S (n + 1) l1 kn) := fun m y hm hy => by
          by_cases hmn : m = n
          · subst hmn; rw [HX.out] at hy; cases hy; exact fun q => e1 q.1
          · exact HNo.out m y (by omega) hy
        go_wp2
        first
          | exact ⟨⟨n + 1, q + nq, by omega, by go_num, HW2, HN2⟩, by simp [intOf]; omega⟩
          | (go_roundw
             case rel => exact ⟨n + 1, q + nq, by omega, by go_num, HW2, HN2⟩
             case measure => simp [intOf]; omega)
    · obtain rfl : n = S.length := by omega
      have n1 : ¬ (S.length : Int) < (S.length : Int) := by omega
      have HOw := hide HSr.out.own.own
      rw [HV.out] at HOw
      have hkp := HPr.out.kind
      have HKs : Hid (∀ g, (Value.slice a S.length c).ownBlock = some g → K g = (5, 1)) := by rw [← HV.out]; exact HSr.out.own.kind
      have hpn : some pb ≠ (Value.slice a S.length c).ownBlock := fun e => by have := HKs.out pb e.symm; rw [hkp] at this; cases this
      have HPn := hide hpn
      clear hkp hpn
      go_upto_region 9 with (fail)
      go_region_law ((refine step_append_lies _ (by rfl) (.tmp 72) (.tmp 81) 38 (by rfl) 0 47 i0 (.agg #[.int .u64 0, .int .u64 0, .slice none 0 0, .slice none 0 0]) 4 64 Tryd.underlying38 hi hz0 hz1 hz2 rfl (by omega) (.slice a S.length c) S.length (smV S) (by rfl) (owns_same HOw.out (fun g hg => Below.heap_alloc _ _ _ (rk_lt HOw.out hg))) ⟨wr.heap.size, 0, none⟩ 1 1 [.int .u64 (l1 : Int), .int .u64 (kn : Int), .slice none 0 0, .slice none 0 0] (by rfl) rfl (World.news_of_block (heap_alloc_new wr.drew (.cells #[.int .u64 (l1 : Int), .int .u64 (kn : Int), .slice none 0 0, .slice none 0 0] 47))) (by simp [Value.oneCell']) (by omega) (by unfold maxLen; omega) (by omega) (Nat.zero_le _) _ rfl ?_; intro g' cap' w4 hown hgrow hat hltg; have HO4 := hide hown; have HG4 := hide hgrow; have HA4 := hide hat; have hb4 : w4.heap[pb]? = _ := (hgrow.block pb (by simp; have := hpl; omega) HPn.out).trans ((Below.heap_alloc _ _ _ hpl).trans HPr.out.blk); have HB4 := hide hb4; have hpk4 : Pk w4 K pb W M l0 l1 b0 b1 sv s0 s1 := ⟨hb4, HPr.out.kind⟩; obtain ⟨z0, z1, z2, z3, z4, z5, z6, z7, z8, zf, hzl⟩ := hpk4.cells; clear hown hgrow hat hltg hb4 hpk4))
      all_goals go_wp2
      all_goals
        have hm4 : Kp (fun q => q = (2, 0) ∨ q = (5, 1)) K (ext K wr.heap.size (5, 1)) wr w4 := by
          refine ⟨HG4.out.os, HG4.out.tape, HG4.out.output, Nat.le_trans (by simp) HG4.out.size, fun x hx => ext_old _ _ hx, fun x hx hn => ?_⟩
          exact (HG4.out.block x (by simp; omega) (fun e => hn (Or.inr (HKs.out x e.symm)))).trans (Below.heap_alloc wr.drew _ _ hx)
        have hpl9 := C.lt_of_block HPr.out.blk
        have hkp4 : ext K wr.heap.size (5, 1) pb = (2, 0) := (ext_old _ _ hpl9).trans HPr.out.kind
        have hrk4 : Rk w4 (ext K wr.heap.size (5, 1)) (5, 1) 47 4 (.slice (some ⟨g', 0, none⟩) (S.length + 1) cap') (S.length + 1) (smV S ++ [.int .u64 (l1 : Int), .int .u64 (kn : Int), .slice none 0 0, .slice none 0 0]) := by
          have h1 : Rk wr K (5, 1) 47 4 (.slice a S.length c) S.length (smV S) := ⟨HOw.out, HKs.out⟩
          refine h1.grown HO4.out ?_
          rcases HA4.out with e | e
          · exact Or.inl e.symm
          · exact Or.inr ⟨g', rfl, by rw [e]; simp⟩
        have ms : Kp (fun q => q = (2, 0)) (ext K wr.heap.size (5, 1)) (ext K wr.heap.size (5, 1)) w4 (w4.setCell ⟨pb, 8, none⟩ (.slice (some ⟨g', 0, none⟩) (S.length + 1) cap')) := (Kp.refl (fun q => q = (2, 0)) _ w4).setCell (b := pb) (Or.inr hkp4) _ _
        have m5 : Kp (fun q => q = (2, 0) ∨ q = (5, 1)) K (ext K wr.heap.size (5, 1)) wr (w4.setCell ⟨pb, 8, none⟩ (.slice (some ⟨g', 0, none⟩) (S.length + 1) cap')) := hm4.trans (ms.mono (fun q e => Or.inl e))
        have hpk : Pk w4 (ext K wr.heap.size (5, 1)) pb W M l0 l1 b0 b1 sv s0 s1 := ⟨HB4.out, hkp4⟩
        have hss := HSr.out.more l1 kn m5 (by simp) (by simp) (hrk4.kept ms (by simp))
        have m6 : Kp (fun q => q = (2, 0) ∨ q = (5, 1)) K (ext K wr.heap.size (5, 1)) w (w4.setCell ⟨pb, 8, none⟩ (.slice (some ⟨g', 0, none⟩) (S.length + 1) cap')) := by
          have m0 := (drewN_kq w K q).mono (q := fun q => q = (2, 0) ∨ q = (5, 1)) (fun _ e => e.elim)
          rw [← HW.out] at m0
          exact m0.trans m5
        go_ret
        exact Or.inr (Or.inr ⟨HNz.out, HNo.out, rfl, _, _, (hpk.sets _).2.1, hss, m6⟩)
end Go.Proofs.YtbcpoejpbhpcbaaDoor
