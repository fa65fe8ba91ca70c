import Derived.Test.YtlmfohcdaahojabGreatDoorCOrder
import Derived.Test.YtlmfohcdaahojabGreatDoorJFullR
import Derived.Laws.BitsAllLaws
import Derived.Lib.SlBytesConst
namespace Go.Proofs.YtlmfohcdaahojabGreatDoor
open Go.RowKit Go.Maps

/-! One bit turned in the records of a journal -/
theorem sum_flip {xs : List Nat} (hs : ∀ x ∈ xs, x < 256) {i : Nat} (hi : i < 8 * xs.length) : C.sumOf (C.flip xs i) ≠ C.sumOf xs := fun e => by
  have h := (C.sum_eq_iff _ _ (C.flip_small xs i hs) hs (C.flip_len xs i)).1 e
  rw [C.flip_len, C.val_flip xs i hi hs] at h
  have e2 : C.val xs ^^^ 2 ^ i ^^^ C.val xs = 2 ^ i * 1 := by
    rw [Nat.xor_comm (C.val xs) (2 ^ i), Nat.xor_assoc, Nat.xor_self, Nat.xor_zero, Nat.mul_one]
  rw [e2] at h
  have := (C.burst (8 * xs.length) i 1 (by omega) (by omega)).1 h
  omega
theorem flip_ne {xs : List Nat} {i : Nat} (hi : i < 8 * xs.length) (hs : ∀ x ∈ xs, x < 256) : C.flip xs i ≠ xs := fun e => sum_flip hs hi (by rw [e])
theorem flip_left (a b : List Nat) {i : Nat} (hi : i < 8 * a.length) : C.flip (a ++ b) i = C.flip a i ++ b := by
  have h : i / 8 < a.length := by omega
  unfold C.flip
  rw [List.set_append_left _ _ h]
  congr 2
  simp only [List.getD, List.getElem?_append_left h]
theorem flip_right (a b : List Nat) {i : Nat} (hi : 8 * a.length ≤ i) : C.flip (a ++ b) i = a ++ C.flip b (i - 8 * a.length) := by
  have h : a.length ≤ i / 8 := by omega
  have e1 : (i - 8 * a.length) / 8 = i / 8 - a.length := by omega
  have e2 : (i - 8 * a.length) % 8 = i % 8 := by omega
  unfold C.flip
  rw [List.set_append_right _ _ h, e1, e2]
  congr 2
  simp only [List.getD, List.getElem?_append_right h]
theorem be_inj : ∀ (a b : List Nat), a.length = b.length → (∀ x ∈ a, x < 256) → (∀ x ∈ b, x < 256) → C.be a = C.be b → a = b := by
  intro a
  rw [← List.reverse_reverse a]
  generalize a.reverse = u
  induction u with
  | nil => intro b hl _ _ _; exact (List.eq_nil_of_length_eq_zero (by simpa using hl.symm)).symm
  | cons x u ih =>
    intro b hl ha hb he
    rw [List.reverse_cons] at hl ha he ⊢
    have hne : b ≠ [] := by intro e; rw [e] at hl; simp at hl
    obtain ⟨b', y, rfl⟩ : ∃ b' y, b = b' ++ [y] := ⟨b.dropLast, b.getLast hne, (List.dropLast_concat_getLast hne).symm⟩
    rw [C.be_snoc, C.be_snoc] at he
    have hx := ha x (by simp)
    have hy := hb y (by simp)
    have e1 : x = y := by omega
    have e2 : C.be u.reverse = C.be b' := by omega
    rw [ih b' (by simpa using hl) (fun z hz => ha z (List.mem_append_left _ hz)) (fun z hz => hb z (List.mem_append_left _ hz)) e2, e1]
theorem be4 {n : Nat} (h : n < 4294967296) : C.be (C.beOf n 4) = n := by rw [C.be_beOf, Nat.mod_eq_of_lt (by rw [show (256 : Nat) ^ 4 = 4294967296 from rfl]; exact h)]
/-- Bytes with their sum behind them: with a bit turned they are no such bytes any more. -/
theorem flip_frame {x y : List Nat} (hx : ∀ z ∈ x, z < 256) (hy : ∀ z ∈ y, z < 256) (hl : y.length = x.length) {i : Nat} (hi : i < 8 * (x.length + 4)) : C.flip (x ++ C.beOf (C.sumOf x) 4) i ≠ y ++ C.beOf (C.sumOf y) 4 := fun e => by
  have sx := sum_lt x hx
  have sy := sum_lt y hy
  by_cases h : i < 8 * x.length
  · rw [flip_left _ _ h] at e
    obtain ⟨e1, e2⟩ := List.append_inj e (by rw [C.flip_len, hl])
    have e3 := congrArg C.be e2
    rw [be4 sx, be4 sy] at e3
    exact sum_flip hx h (by rw [e1, e3])
  · rw [flip_right _ _ (by omega)] at e
    obtain ⟨e1, e2⟩ := List.append_inj e hl.symm
    subst e1
    exact flip_ne (by rw [be_len]; omega) (be_small _ _) e2
theorem hurt_rec {num : Nat} {ps : List (List Nat)} (h : Trn num ps) {i : Nat} (hi : i < 8 * (recB num ps).length) (f : Nat) (xs : List Nat) (R : List (List Nat)) (last : Nat) : (goB (f + 1) (C.flip (recB num ps) i ++ xs) R last).2.2.2 = 53 := by
  have hb := h.body
  have hl := recB_len num ps
  have hlen : (C.flip (recB num ps) i ++ xs).length = (bodyB num ps).length + 13 + xs.length := by rw [List.length_append, C.flip_len, hl]
  have hhd : ∀ n, (hd5 n).length = 5 := fun n => by simp [hd5, be_len]
  rw [goB, if_neg (by omega), if_neg (by omega)]
  by_cases h9 : i < 72
  · have hno : hdOk (C.flip (recB num ps) i ++ xs) = false := by
      cases hk : hdOk (C.flip (recB num ps) i ++ xs) with
      | false => rfl
      | true =>
        exfalso
        unfold hdOk at hk
        simp only [Bool.and_eq_true, decide_eq_true_eq] at hk
        have e : (C.flip (recB num ps) i ++ xs).take 9 = C.flip (hd5 (bodyB num ps).length ++ C.beOf (C.sumOf (hd5 (bodyB num ps).length)) 4) i := by
          have e0 : recB num ps = headB (bodyB num ps).length ++ (bodyB num ps ++ C.beOf (C.sumOf (bodyB num ps)) 4) := by unfold recB framedB; rw [List.append_assoc]
          rw [e0, flip_left _ _ (by rw [headB_len]; omega), List.append_assoc, List.take_append_of_le_length (by rw [C.flip_len, headB_len]; omega), List.take_of_length_le (by rw [C.flip_len, headB_len]; omega)]
          rfl
        rw [e] at hk
        exact flip_frame (hd5_small _) (hd5_small _) (by rw [hhd, hhd]) (by rw [hhd]; omega) hk.2
    rw [if_pos hno]
  · have e0 : C.flip (recB num ps) i = headB (bodyB num ps).length ++ C.flip (bodyB num ps ++ C.beOf (C.sumOf (bodyB num ps)) 4) (i - 72) := by
      have : recB num ps = headB (bodyB num ps).length ++ (bodyB num ps ++ C.beOf (C.sumOf (bodyB num ps)) 4) := by unfold recB framedB; rw [List.append_assoc]
      rw [this, flip_right _ _ (by rw [headB_len]; omega), headB_len]
    have hzl : (C.flip (bodyB num ps ++ C.beOf (C.sumOf (bodyB num ps)) 4) (i - 72)).length = (bodyB num ps).length + 4 := by rw [C.flip_len, List.length_append, be_len]
    have hzs : ∀ z ∈ C.flip (bodyB num ps ++ C.beOf (C.sumOf (bodyB num ps)) 4) (i - 72), z < 256 := C.flip_small _ _ (fun z hz => by
      rcases List.mem_append.1 hz with hz | hz
      · exact h.bytes z hz
      · exact be_small _ _ z hz)
    have hfr : ∀ y : List Nat, (∀ z ∈ y, z < 256) → y.length = (bodyB num ps).length → C.flip (bodyB num ps ++ C.beOf (C.sumOf (bodyB num ps)) 4) (i - 72) ≠ y ++ C.beOf (C.sumOf y) 4 := fun y hy hyl => flip_frame h.bytes hy hyl (by omega)
    generalize C.flip (bodyB num ps ++ C.beOf (C.sumOf (bodyB num ps)) 4) (i - 72) = z at *
    have hN : hdN (C.flip (recB num ps) i ++ xs) = (bodyB num ps).length := by
      rw [e0]
      unfold hdN headB hd5
      simp only [List.append_assoc]
      rw [drop_app _ _ 1 (be_len _ _), List.take_append_of_le_length (by rw [be_len]; omega), List.take_of_length_le (by rw [be_len]; omega), be4 (by omega)]
    have hok : hdOk (C.flip (recB num ps) i ++ xs) = true := by
      unfold hdOk
      rw [hN]
      have e : (C.flip (recB num ps) i ++ xs).take 9 = headB (bodyB num ps).length := by
        rw [e0, List.append_assoc, List.take_append_of_le_length (by rw [headB_len]; omega), List.take_of_length_le (by rw [headB_len]; omega)]
      rw [e]
      simp [hb.1, hb.2]
    have ht : (C.flip (recB num ps) i ++ xs).take ((bodyB num ps).length + 13) = headB (bodyB num ps).length ++ z := by
      rw [List.take_append_of_le_length (by rw [C.flip_len]; omega), List.take_of_length_le (by rw [C.flip_len]; omega), e0]
    rw [if_neg (by rw [hok]; simp), hN, if_neg (by omega), ht]
    have hrd : readR (headB (bodyB num ps).length ++ z) = none := by
      unfold readR
      have hbo : bodyOf (headB (bodyB num ps).length ++ z) = z.take (bodyB num ps).length := by
        unfold bodyOf
        rw [drop_app _ _ 9 (headB_len _), List.length_append, headB_len, hzl]
        congr 1; omega
      have hta : tailOf (headB (bodyB num ps).length ++ z) = z.drop (bodyB num ps).length := by
        unfold tailOf
        rw [List.length_append, headB_len, hzl, List.drop_append, headB_len, List.drop_of_length_le (by rw [headB_len]; omega), List.nil_append]
        congr 1; omega
      rw [hbo, hta, if_pos]
      intro e
      have hys : ∀ u ∈ z.take (bodyB num ps).length, u < 256 := fun u hu => hzs u (List.mem_of_mem_take hu)
      have e2 : z.drop (bodyB num ps).length = C.beOf (C.sumOf (z.take (bodyB num ps).length)) 4 := be_inj _ _ (by rw [List.length_drop, hzl, be_len]; omega) (fun u hu => hzs u (List.mem_of_mem_drop hu)) (be_small _ _) (by rw [be4 (sum_lt _ hys)]; exact e)
      exact hfr _ hys (by rw [List.length_take, hzl]; omega) (by rw [← e2, List.take_append_drop])
    rw [hrd]
/-- ANY BIT TURNED IN RECORDS IS DAMAGE. -/
theorem hurt_recs : ∀ (l : List (List (List Nat))) (n i f : Nat) (R : List (List Nat)) (last : Nat), Trns n l → i < 8 * (recsOf n l).flatten.length → (R.length = 0 ∨ n = last + 1) → l.length ≤ f → (goB f (C.flip (recsOf n l).flatten i) R last).2.2.2 = 53
  | [], n, i, f, R, last, _, hi, _, _ => by simp [recsOf] at hi
  | t :: l, n, i, 0, R, last, _, _, _, hf => by simp at hf
  | t :: l, n, i, f + 1, R, last, h, hi, hR, hf => by
    have e : (recsOf n (t :: l)).flatten = recB n t ++ (recsOf (n + 1) l).flatten := by simp [recsOf]
    rw [e] at hi ⊢
    rw [List.length_append] at hi
    by_cases h1 : i < 8 * (recB n t).length
    · rw [flip_left _ _ h1]
      exact hurt_rec h.1 h1 f _ R last
    · rw [flip_right _ _ (by omega), goB_step f _ R last n t h.1 hR]
      exact hurt_recs l (n + 1) _ f _ n h.2 (by omega) (Or.inr rfl) (by simp at hf; omega)
end Go.Proofs.YtlmfohcdaahojabGreatDoor
namespace Go.Proofs.YtlmfohcdaahojabGreatDoor
open Go.RowKit Go.Maps

/-- A DISK AND ITS JOURNAL BEHIND c ADDS, as data. -/
structure Fh (S : St) (J : Jr) (l : List (List (List Nat))) (c : Nat) : Prop where
  fd : Fd 131072 S J l 1 c
  len : l.length = c
  fit : ∀ ps ∈ l, fitsB ps = true
  pf : S.pFrom = 0
theorem recs_fit_len : ∀ (l : List (List (List Nat))) (n : Nat), (∀ ps ∈ l, fitsB ps = true) → n + l.length ≤ 1099511627776 → (recsOf n l).flatten.length ≤ 4025 * l.length
  | [], _, _, _ => by simp [recsOf]
  | t :: l, n, h, hn => by
    have h1 := (rec_fit (h t (by simp)) (num := n) (by simp at hn; omega)).1
    have h2 := recs_fit_len l (n + 1) (fun ps hp => h ps (List.mem_cons_of_mem _ hp)) (by simp at hn; omega)
    have e : (recsOf n (t :: l)).flatten = recB n t ++ (recsOf (n + 1) l).flatten := by simp [recsOf]
    rw [e, List.length_append, List.length_cons]
    omega
theorem Fh.bytes {S : St} {J : Jr} {l : List (List (List Nat))} {c : Nat} (h : Fh S J l c) : (S.v jx).getD [] = (recsOf 1 l).flatten := by
  rw [← h.fd.nm, h.fd.jd.d.byt, h.fd.jd.recs]
theorem Fh.used {S : St} {J : Jr} {l : List (List (List Nat))} {c : Nat} (h : Fh S J l c) (hc : c ≤ 1000) : S.used ≤ 4025 * c := by
  rw [used_one h.fd.stl.inv h.fd.vis, h.bytes, ← h.len]
  exact recs_fit_len l 1 h.fit (by rw [h.len]; omega)
theorem Fh.add {S : St} {J : Jr} {l : List (List (List Nat))} {c : Nat} (h : Fh S J l c) (hc : c < 20) (ps : List (List Nat)) (hf : fitsB ps = true) (hsm : ∀ p ∈ ps, ∀ x ∈ p, x < 256) : ∃ S' J', addR S J ps = (0, S', J') ∧ Fh S' J' (l ++ [ps]) (c + 1) := by
  have hla := h.fd.jd.last
  have hlen := h.len
  obtain ⟨hl, hok⟩ := rec_fit hf (num := J.last + 1) (by omega)
  have htr : Trn (J.last + 1) ps := ⟨by omega, hok, hsm⟩
  have hu := h.used (by omega)
  have hro := h.fd.room
  rcases add_heal h.fd.stl h.fd.jd.d h.fd.jd.torn ps hok htr.rec_small (Or.inr h.fd.seen) with ⟨e, _, _⟩ | ⟨_, S', e1, _, _, e4, _⟩
  · exfalso
    have e1 : S.stroked.pFrom = S.pFrom := rfl
    have e2 : S.stroked.room = S.room := rfl
    have e3 : S.stroked.used = S.used := rfl
    unfold St.full St.fullP at e
    rw [e1, e2, e3, h.pf] at e
    simp at e
    omega
  · rcases h.fd.step (by omega) false ps hf hsm with ⟨f1, _, _⟩ | ⟨S2, J2, f1, f2⟩
    · have f1' : addR S J ps = _ := f1
      rw [e1] at f1'
      simp at f1'
    · have f1' : addR S J ps = (0, S2, J2) := f1
      rw [e1] at f1'
      simp only [Prod.mk.injEq, true_and] at f1'
      obtain ⟨rfl, rfl⟩ := f1'
      refine ⟨S', _, e1, f2, by rw [List.length_append, hlen]; rfl, fun q hq => ?_, e4.pf.trans h.pf⟩
      rcases List.mem_append.1 hq with hq | hq
      · exact h.fit q hq
      · simp at hq; rw [hq]; exact hf
theorem fh_new : Fh (St.laid 131072 []) (jnew jx ([], 0, false, 0)) [] 0 := ⟨fd_new (by omega), rfl, (fun _ h => by cases h), rfl⟩
theorem recs_pos {l : List (List (List Nat))} {n : Nat} (h : Trns n l) : l.length ≤ (recsOf n l).flatten.length := by
  have h1 : ∀ (L : List (List Nat)), (∀ r ∈ L, 25 ≤ r.length ∧ r.length ≤ 4194304) → L.length ≤ L.flatten.length := fun L => by
    induction L with
    | nil => intro _; simp
    | cons a L ih =>
      intro hL
      have := ih (fun r hr => hL r (List.mem_cons_of_mem _ hr))
      have := (hL a (by simp)).1
      simp only [List.flatten_cons, List.length_append, List.length_cons]
      omega
  have h2 := h1 _ (trns_lens h)
  rw [recs_length] at h2
  exact h2
/-! A disk with one file -/
theorem one_ok {Y : List Nat} (h : Y.length ≤ 131072) : okB [(jx, Y)] 131072 = true := by
  have e : chn [] [(jx, Y)] = true := by simp [chn]; exact ⟨by kernel_rfl, by kernel_rfl⟩
  unfold okB
  rw [e]
  simp [sumI, h]
theorem one_v (Y : List Nat) : (St.laid 131072 [(jx, Y)]).v jx = some Y := by
  simp [St.v, St.laid, imgN, lookN, St.file, Fil.all, carryL]
theorem one_bytes (Y : List Nat) : (St.laid 131072 [(jx, Y)]).bytes jx = Y ∧ (St.laid 131072 [(jx, Y)]).err jx = 0 := by
  constructor
  · rw [bytes_view rfl jx_ok.1, one_v]; rfl
  · rw [err_view rfl jx_ok.1, one_v]; simp
theorem Fh.hurt {S : St} {J : Jr} {l : List (List (List Nat))} {c : Nat} (h : Fh S J l c) {i : Nat} (hi : i < 8 * (recsOf 1 l).flatten.length) : ((St.laid 131072 [(jx, C.flip (recsOf 1 l).flatten i)]).found jx).2.2.2 = 53 := by
  unfold St.found
  rw [(one_bytes _).1]
  exact hurt_recs l 1 i _ [] 0 h.fd.jd.trns hi (Or.inl rfl) (by rw [C.flip_len]; have := recs_pos h.fd.jd.trns; omega)
end Go.Proofs.YtlmfohcdaahojabGreatDoor
namespace Go.Proofs.YtlmfohcdaahojabGreatDoor
open Go.RowKit Go.Maps

theorem pow_m8 (i : Nat) : (2 : Int) ^ (i % 8) % 256 = ((2 ^ (i % 8) : Nat) : Int) := by
  have h := C.pow_lt8 i
  have e : ((2 ^ (i % 8) : Nat) : Int) = (2 : Int) ^ (i % 8) := by simp
  rw [← e]
  clear e
  generalize (2 : Nat) ^ (i % 8) = y at *
  omega
theorem flip_byte (xs : List Nat) (hs : ∀ x ∈ xs, x < 256) (i : Nat) : bits .xor .u8 ((xs[i / 8]?.getD 0 : Nat) : Int) ((2 : Int) ^ (i % 8) % 256) = ((xs.getD (i / 8) 0 ^^^ 2 ^ (i % 8) : Nat) : Int) := by
  rw [pow_m8]
  have := u8_xor_nat (xs.getD (i / 8) 0) (2 ^ (i % 8)) (C.getD_small hs _) (C.pow_lt8 i)
  simpa [List.getD] using this
theorem flip_vals (xs : List Nat) (i : Nat) : (vals xs).set (i / 8) (.int .u8 ((xs.getD (i / 8) 0 ^^^ 2 ^ (i % 8) : Nat) : Int)) = vals (C.flip xs i) := by
  unfold vals C.flip
  rw [List.map_set]
theorem trns_small : ∀ {l : List (List (List Nat))} {n : Nat}, Trns n l → ∀ x ∈ (recsOf n l).flatten, x < 256
  | [], _, _, x, hx => by simp [recsOf] at hx
  | t :: l, n, h, x, hx => by
    have e : (recsOf n (t :: l)).flatten = recB n t ++ (recsOf (n + 1) l).flatten := by simp [recsOf]
    rw [e] at hx
    rcases List.mem_append.1 hx with hx | hx
    · exact h.1.rec_small x hx
    · exact trns_small h.2 x hx
theorem Fh.file {S : St} {J : Jr} {l : List (List (List Nat))} {c : Nat} (h : Fh S J l c) (h1 : 1 ≤ c) (h8 : c ≤ 8) : ∃ X, S.bytes jx = X ∧ S.err jx = 0 ∧ 1 ≤ X.length ∧ X.length ≤ 32200 ∧ (∀ x ∈ X, x < 256) ∧ ∀ i, i < 8 * X.length → ((St.laid 131072 [(jx, C.flip X i)]).found jx).2.2.2 = 53 := by
  have hp := recs_pos h.fd.jd.trns
  have hlen := h.len
  have hf := recs_fit_len l 1 h.fit (by rw [hlen]; omega)
  refine ⟨(recsOf 1 l).flatten, by rw [bytes_view h.fd.stl.on.off jx_ok.1, h.bytes], ?_, by omega, by omega, trns_small h.fd.jd.trns, fun i hi => h.hurt hi⟩
  rw [err_view h.fd.stl.on.off jx_ok.1, if_neg]
  intro e
  have hb := h.bytes
  rw [e] at hb
  have : (recsOf 1 l).flatten.length = 0 := by rw [← hb]; rfl
  omega
/-- An image of one file, laid by hand. -/
theorem one_im {w : World} {K : Knd} {g : Nat} {a : Option Addr} {n c : Nat} {Y : List Nat} (hs : ∀ x ∈ Y, x < 256) (hl : Y.length = n) (hn : n ≤ 1099511627776) (hg : w.heap[g]? = some (.cells #[.string ⟨#[106]⟩, .slice a n c] 58 (0, 0))) (hk : K g = (0, 0)) (hr : Rk w K (0, 0) 5 1 (.slice a n c) n (vals Y)) : Im w K (.slice (some ⟨g, 0, none⟩) 1 1) [(jx, Y)] := by
  subst hl
  refine ⟨fun p hp => by simp at hp; subst hp; exact ⟨hs, hn⟩, [(a, c)], rfl, ⟨⟨rfl, Or.inr ⟨g, 1, _, rfl, Nat.zero_le _, hg, Nat.le_refl _, by unfold maxLen; omega, rfl, rfl⟩⟩, fun g' e => by simp [Value.ownBlock] at e; rw [← e]; exact hk⟩, fun j p d hj hd => ?_⟩
  have hj0 : j = 0 := by have := (List.getElem?_eq_some_iff.1 hj).1; simpa using this
  subst hj0
  simp at hj hd
  subst hj hd
  exact hr
/-- The literal call with one part "first". -/
def fw : List Nat := [102, 105, 114, 115, 116]
def fc (g : Nat) : Cl := ⟨false, some ⟨g, 0, none⟩, 1, 1, [fw]⟩
theorem f_fits : fitsB [fw] = true := by kernel_rfl
theorem f_pts {w : World} {g1 g2 c : Nat} {t1 t2 : TypeId} {m1 m2 : Nat × Nat} (h1 : w.heap[g1]? = some (.cells #[.int .u8 102, .int .u8 105, .int .u8 114, .int .u8 115, .int .u8 116] t1 m1)) (h2 : w.heap[g2]? = some (.cells #[.slice (some ⟨g1, 0, none⟩) 5 c] t2 m2)) : Pts w (some ⟨g2, 0, none⟩) [fw] := by
  refine ⟨fun p hp => by simp at hp; subst hp; simp [fw], Or.inr ⟨g2, 0, rfl, lt_of_block h2, fun j p hj => ?_⟩⟩
  have hj0 : j = 0 := by have := (List.getElem?_eq_some_iff.1 hj).1; simpa using this
  subst hj0
  simp at hj
  subst hj
  refine ⟨some ⟨g1, 0, none⟩, c, ?_, ⟨fun x hx => by simp [fw] at hx; omega, Or.inr ⟨g1, 0, rfl, lt_of_block h1, fun j hj => ?_⟩⟩⟩
  · simp [World.cell?, h2, fw]
  · have hj5 : j < 5 := by simpa [fw] using hj
    rcases (show j = 0 ∨ j = 1 ∨ j = 2 ∨ j = 3 ∨ j = 4 by omega) with rfl | rfl | rfl | rfl | rfl <;> simp [World.cell?, h1, fw]
theorem f_stay {q : Nat × Nat → Prop} (hq : ¬ q (0, 0)) {K : Knd} {w : World} {g1 g2 c : Nat} {t1 t2 : TypeId} {m1 m2 : Nat × Nat} (h1 : w.heap[g1]? = some (.cells #[.int .u8 102, .int .u8 105, .int .u8 114, .int .u8 115, .int .u8 116] t1 m1)) (h2 : w.heap[g2]? = some (.cells #[.slice (some ⟨g1, 0, none⟩) 5 c] t2 m2)) (k1 : K g1 = (0, 0)) (k2 : K g2 = (0, 0)) : Stay q K w (some ⟨g2, 0, none⟩) [fw] := fun K' w' hk =>
  f_pts ((hk.block g1 (lt_of_block h1) (by rw [k1]; exact hq)).trans h1) ((hk.block g2 (lt_of_block h2) (by rw [k2]; exact hq)).trans h2)
theorem add_pl (g o j : Nat) : (⟨g, o, none⟩ : Addr).add j = ⟨g, o + j, none⟩ := by
  unfold Addr.add; split <;> simp_all
theorem clv_news {w : World} {g o : Nat} {l : List Cl} (hc : ∀ (j : Nat) (c : Cl), l[j]? = some c → w.cell? ⟨g, o + j * 2, none⟩ = some (.bool c.b) ∧ w.cell? ⟨g, o + j * 2 + 1, none⟩ = some (.slice c.pp c.k c.cap)) (j : Nat) (u : Value) (h : (clv l)[j]? = some u) : w.cell? ((⟨g, o, none⟩ : Addr).add j) = some u := by
  have hj : j < l.length * 2 := by have := (List.getElem?_eq_some_iff.1 h).1; rwa [clv_len] at this
  obtain ⟨c, hcl⟩ : ∃ c, l[j / 2]? = some c := ⟨_, List.getElem?_eq_getElem (by omega)⟩
  obtain ⟨e0, e1⟩ := clv_at hcl
  obtain ⟨d0, d1⟩ := hc _ _ hcl
  rw [add_pl]
  rcases (show j % 2 = 0 ∨ j % 2 = 1 by omega) with hm | hm
  · have ej : j = j / 2 * 2 := by omega
    rw [ej, e0] at h
    cases h
    rw [ej]; exact d0
  · have ej : j = j / 2 * 2 + 1 := by omega
    rw [ej, e1] at h
    cases h
    rw [ej, ← Nat.add_assoc]; exact d1
theorem clv_one (l : List Cl) : ∀ u ∈ clv l, u.oneCell' = true := by
  intro u hu
  simp only [clv, List.mem_flatMap] at hu
  obtain ⟨m, _, hm⟩ := hu
  simp only [clc, List.mem_cons, List.not_mem_nil, or_false] at hm
  rcases hm with e | e <;> (subst e; rfl)
theorem f_append (w WL : World) (hWL : WL = ((w.alloc (.cells #[.int .u8 102, .int .u8 105, .int .u8 114, .int .u8 115, .int .u8 116] 5 (5, 6))).alloc (.cells #[.slice (some ⟨w.heap.size, 0, none⟩) 5 5] 42)).alloc (.cells #[.bool false, .slice (some ⟨w.heap.size + 1, 0, none⟩) 1 1] 48))
    (sp : Option Addr) (m cap : Nat) (l : List Cl) (hm : l.length = m) (hml : m * 32 ≤ 140737488351232) (hC : Cls w sp l) (hO : ∀ c ∈ l, ClOk w c) (ty : TypeId) :
    ∃ g cap' w4, (Builtin.append_ #[22, 22] ty #[.slice (some ⟨w.heap.size + 1 + 1, 0, none⟩) 1 1, .slice sp m cap]).run Tryz.prog WL = .ok (.slice (some ⟨g, 0, none⟩) (1 + m) cap') w4 ∧ Cls w4 (some ⟨g, 0, none⟩) (fc (w.heap.size + 1) :: l) ∧ (∀ c ∈ fc (w.heap.size + 1) :: l, ClOk w4 c) ∧ Below w.heap.size w w4 ∧ w4.heap[w.heap.size]? = some (.cells #[.int .u8 102, .int .u8 105, .int .u8 114, .int .u8 115, .int .u8 116] 5 (5, 6)) ∧ w4.heap[w.heap.size + 1]? = some (.cells #[.slice (some ⟨w.heap.size, 0, none⟩) 5 5] 42 (0, 0)) := by
  obtain ⟨i0, hi, hz0, hz1, hz2⟩ := info_parts Tryz.infoCl
  have z : ∀ (w : World) (o : Obj), (w.alloc o).heap.size = w.heap.size + 1 := fun w o => by unfold World.alloc; exact Array.size_push _
  have bL : Below w.heap.size w WL := by
    rw [hWL]; exact (((Below.refl w.heap.size w).alloc (Nat.le_refl _) _).alloc (by rw [z]; omega) _).alloc (by rw [z, z]; omega) _
  have h1 : WL.heap[w.heap.size]? = some (.cells #[.int .u8 102, .int .u8 105, .int .u8 114, .int .u8 115, .int .u8 116] 5 (5, 6)) := by
    rw [hWL, Below.heap_alloc _ _ _ (by rw [z, z]; omega), Below.heap_alloc _ _ _ (by rw [z]; omega)]; exact heap_alloc_new _ _
  have h2 : WL.heap[w.heap.size + 1]? = some (.cells #[.slice (some ⟨w.heap.size, 0, none⟩) 5 5] 42 (0, 0)) := by
    rw [hWL, Below.heap_alloc _ _ _ (by rw [z, z]; omega)]
    have := heap_alloc_new (w.alloc (.cells #[.int .u8 102, .int .u8 105, .int .u8 114, .int .u8 115, .int .u8 116] 5 (5, 6))) (.cells #[.slice (some ⟨w.heap.size, 0, none⟩) 5 5] 42 (0, 0))
    rw [z] at this; exact this
  have h3 : WL.heap[w.heap.size + 1 + 1]? = some (.cells #[.bool false, .slice (some ⟨w.heap.size + 1, 0, none⟩) 1 1] 48 (0, 0)) := by
    have := heap_alloc_new ((w.alloc (.cells #[.int .u8 102, .int .u8 105, .int .u8 114, .int .u8 115, .int .u8 116] 5 (5, 6))).alloc (.cells #[.slice (some ⟨w.heap.size, 0, none⟩) 5 5] 42)) (.cells #[.bool false, .slice (some ⟨w.heap.size + 1, 0, none⟩) 1 1] 48 (0, 0))
    rw [z, z] at this; rw [hWL]; exact this
  have hown : WL.ownsRow w.heap.size 48 2 (.slice (some ⟨w.heap.size + 1 + 1, 0, none⟩) 1 1) 1 (clv [fc (w.heap.size + 1)]) := ⟨rfl, Or.inr ⟨w.heap.size + 1 + 1, 1, _, rfl, by omega, h3, Nat.le_refl _, by unfold maxLen; omega, rfl, rfl⟩⟩
  clear hWL
  have hfc : ∀ w4 : World, w4.heap[w.heap.size]? = WL.heap[w.heap.size]? → w4.heap[w.heap.size + 1]? = WL.heap[w.heap.size + 1]? → ClOk w4 (fc (w.heap.size + 1)) := fun w4 e1 e2 => ⟨f_pts (e1.trans h1) (e2.trans h2), rfl, by show 1 ≤ _; omega, fun p hp x hx => by simp [fc] at hp; subst hp; simp [fw] at hx; omega⟩
  by_cases h0 : m = 0
  · subst h0
    have hl0 : l = [] := List.eq_nil_of_length_eq_zero hm
    subst hl0
    refine ⟨w.heap.size + 1 + 1, 1, WL, C.run_append_zero WL _ ty 48 i0 Tryz.underlying22 hi _ 1 1 (Nat.le_refl _) sp cap, cls_own hown, fun c hc => ?_, bL, h1, h2⟩
    simp at hc
    subst hc
    exact hfc WL rfl rfl
  · obtain ⟨g0, o0, rfl, hg0, hcs⟩ : ∃ g o, sp = some ⟨g, o, none⟩ ∧ g < w.heap.size ∧ ∀ (j : Nat) (c : Cl), l[j]? = some c → w.cell? ⟨g, o + j * 2, none⟩ = some (.bool c.b) ∧ w.cell? ⟨g, o + j * 2 + 1, none⟩ = some (.slice c.pp c.k c.cap) := by
      rcases hC.lie with e | e
      · rw [e] at hm; simp at hm; omega
      · exact e
    have hcs' : ∀ (j : Nat) (c : Cl), l[j]? = some c → WL.cell? ⟨g0, o0 + j * 2, none⟩ = some (.bool c.b) ∧ WL.cell? ⟨g0, o0 + j * 2 + 1, none⟩ = some (.slice c.pp c.k c.cap) := fun j c hj => ⟨(bL.cell (p := ⟨g0, o0 + j * 2, none⟩) hg0).trans (hcs j c hj).1, (bL.cell (p := ⟨g0, o0 + j * 2 + 1, none⟩) hg0).trans (hcs j c hj).2⟩
    obtain ⟨g, cap', w4, hr, ho, hg, hat, hlt⟩ := run_append_lies (P := Tryz.prog) WL 22 ty w.heap.size 48 i0 (.agg #[.bool false, .slice none 0 0]) 2 32 Tryz.underlying22 hi hz0 hz1 hz2 rfl (by omega) _ 1 _ hown ⟨g0, o0, none⟩ m cap (clv l) (by rw [clv_len, hm]) (clv_news hcs') (clv_one l) (by omega) (by unfold maxLen; omega) (by omega) bL.size _ rfl
    have b4 : Below w.heap.size w w4 := bL.grown hg bL.size (fun k e => by simp [Value.ownBlock] at e; omega)
    have e1 : w4.heap[w.heap.size]? = WL.heap[w.heap.size]? := hg.block _ (lt_of_block h1) (by simp [Value.ownBlock]; omega)
    have e2 : w4.heap[w.heap.size + 1]? = WL.heap[w.heap.size + 1]? := hg.block _ (lt_of_block h2) (by simp [Value.ownBlock])
    refine ⟨g, cap', w4, hr, cls_own (l := fc (w.heap.size + 1) :: l) ho, fun c hc => ?_, b4, e1.trans h1, e2.trans h2⟩
    rcases List.mem_cons.1 hc with rfl | hc
    · exact hfc w4 e1 e2
    · exact (hO c hc).below b4
end Go.Proofs.YtlmfohcdaahojabGreatDoor
namespace Go.Proofs.YtlmfohcdaahojabGreatDoor
open Go.RowKit Go.Maps

theorem and24 (z : Int) : ∃ i : Nat, i < 16777216 ∧ bits .and .i64 z 16777215 = (i : Int) := by
  refine ⟨(BitVec.ofInt 64 z).toNat % 16777216, Nat.mod_lt _ (by omega), ?_⟩
  show IntKind.i64.wrap ((BitVec.ofInt 64 z &&& BitVec.ofInt 64 16777215).toNat : Int) = _
  have h1 : (BitVec.ofInt 64 (16777215 : Int)).toNat = 2 ^ 24 - 1 := by decide
  rw [BitVec.toNat_and, h1, Nat.and_two_pow_sub_one_eq_mod, IntKind.wrap_i64]
  omega
set_option maxRecDepth 100000 in
set_option maxHeartbeats 8000000 in
theorem jhurt_all (W : World) (hT : C.Tab W) (sp : Option Addr) (m cap : Nat) (l : List Cl) (hm : l.length = m) (hml : m * 32 ≤ 140737488351232) (hC : Cls W sp l) (hO : ∀ c ∈ l, ClOk W c) (cz bz : Int) :
    Calls Tryz.prog 5 #[.agg #[.slice sp m cap, .int .i64 cz, .int .i64 bz]] W fun e w' => e = .returned (.bool true) ∧ Below W.heap.size W w' := by
  have HT := hide hT
  have HM := hide hm
  have HC := hide hC
  have HO := hide hO
  obtain ⟨bx, hbx⟩ : ∃ bx : Obj, bx = .cells #[.slice sp m cap, .int .i64 cz, .int .i64 bz] 51 := ⟨_, rfl⟩
  have HBx := hide hbx
  have hb1 : Below W.heap.size W (W.alloc (.cells #[.slice sp m cap, .int .i64 cz, .int .i64 bz] 51)) := (Below.refl _ _).alloc (Nat.le_refl _) _
  have hx1 : (W.alloc (.cells #[.slice sp m cap, .int .i64 cz, .int .i64 bz] 51)).heap[W.heap.size]? = some bx := by rw [hbx]; exact heap_alloc_new _ _
  have HWk := hide (wakes_any _ (hT.below hb1 hT.pos))
  have HB1 := hide hb1
  have HX1 := hide hx1
  clear hb1 hx1 hT hm hC hO hbx
  go_enter Tryz.func5, Tryz.ntmps5
  go_wp2_with fail
  refine HWk.out.mono ?_
  rintro e w2 ⟨rfl, hb2⟩
  have hb2' : Below W.heap.size W w2 := HB1.out.trans (hb2.mono (by simp))
  have hx2 : w2.heap[W.heap.size]? = some bx := (hb2.block _ (by simp)).trans HX1.out
  have HB2 := hide hb2'
  have HX2 := hide hx2
  have hs2 := lt_of_block hx2
  have HOp := hide (opened_any w2 (fun _ => (0, 0)) 1 2 (by decide) (by decide) (by decide) (.slice none 0 0) [] 131072 131072 (by simp [sumI]) (im_nil _ _) (fun _ h => by cases h) (by omega) (by simp [okB, chn, sumI]) (new_stl (by omega)).inv 0 (new_stl (by omega)).sz (by omega) rfl (HT.out.below HB2.out HT.out.pos) rfl)
  rw [show ((131072 : Nat) : Int) = 131072 from rfl] at HOp
  clear hb2 hb2' hx2
  go_wp2_with fail
  refine HOp.out.mono ?_
  rintro e w3 ⟨d, jb, K3, rfl, hd3, hj3, hk3⟩
  have nq0 : ¬ Gq 1 2 (0, 0) := fun h => h.elim (fun h => by cases h) (fun h => by cases h)
  have hk3' : Kp (Gq 1 2) (fun _ => (0, 0)) K3 w2 w3 := hk3
  have hb3 : Below W.heap.size W w3 := HB2.out.trans ⟨hk3'.os, hk3'.tape, hk3'.output, hk3'.size, fun b hlt => hk3'.block b (by omega) nq0⟩
  have hx3 : w3.heap[W.heap.size]? = some bx := (hk3'.block _ hs2 nq0).trans HX2.out
  have ho3 : ∀ b, b < w2.heap.size → K3 b = (0, 0) := fun b hb => hk3'.same b hb
  have HD3 := hide hd3
  have HJ3 := hide hj3
  have HB3 := hide hb3
  have HX3 := hide hx3
  have HO3 := hide ho3
  have hs3 := lt_of_block hx3
  have hs23 := hk3'.size
  have hbw : w3.heap[W.heap.size]? = some (.cells #[.slice sp m cap, .int .i64 cz, .int .i64 bz] 51 (0, 0)) := hx3.trans (congrArg some HBx.out)
  have y0 : w3.cell? ⟨W.heap.size, 0, none⟩ = some (.slice sp m cap) := by simp [World.cell?, hbw]
  have hcb := fun (w : World) (C : Array Value) (n c : Nat) => Lib.run_convert_bytes_const (P := Tryz.prog) w 42 5 C n c Tryz.underlying42 Tryz.underlying5
  obtain ⟨gA, cA, w4, hrA, hclA, hokA, hbA, hfA1, hfA2⟩ := f_append w3 _ rfl sp m cap l HM.out hml (HC.out.below HB3.out) (fun c hc => (HO.out c hc).below HB3.out) 22
  have l1 : W.heap.size < w3.heap.size + 1 := by omega
  have l2 : W.heap.size < w3.heap.size + 1 + 1 := by omega
  have HPl := hide (places_any w4 (some ⟨gA, 0, none⟩) (1 + m) cA _ 8 (by rw [List.length_cons, HM.out]; omega) (by omega) (by omega) hclA hokA)
  rw [show ((8 : Nat) : Int) = 8 from rfl] at HPl
  have HOk := hide hokA
  have HB4 := hide hbA
  have HFa := hide (And.intro hfA1 hfA2)
  clear hclA hokA hbA hfA1 hfA2
  clear hd3 hj3 hk3 hk3' hb3 hx3 ho3 hbw HB2 HX2 HB1 HX1 HWk HOp
  go_wp2_with (at_builtin; refine wpList_app_run rfl (.tmp 26) (.tmp 28) 22 22 rfl (.slice (some ⟨w3.heap.size + 1 + 1, 0, none⟩) 1 1) (.slice sp m cap) _ _ rfl rfl hrA ?_)
  refine HPl.out.mono ?_
  rintro e w5 ⟨la, lc, rfl, hr5, hb5⟩
  clear hrA y0 l1 l2
  obtain ⟨L, hLq⟩ : ∃ L, plc (fc (w3.heap.size + 1) :: l) 8 = L := ⟨_, rfl⟩
  rw [hLq] at hr5 ⊢
  obtain ⟨q, hq⟩ : ∃ q, L.length = q := ⟨_, rfl⟩
  rw [hq] at hr5 ⊢
  have hq8 : q ≤ 8 := by rw [← hq, ← hLq]; unfold plc; rw [List.length_take]; omega
  have hq1 : 1 ≤ q := by
    rw [← hq, ← hLq]
    unfold plc
    rw [List.filter_cons_of_pos (by show fitsB [fw] = true; exact f_fits)]
    simp
  have hs34 := HB4.out.size
  have hs45 := hb5.size
  have kp5 : Kp (fun _ => False) K3 (ext (ext K3 w3.heap.size (0, 0)) w4.heap.size (0, 0)) w3 w5 := (kp_below HB4.out (fun _ => False) K3 (0, 0)).trans (kp_below hb5 (fun _ => False) _ (0, 0))
  obtain ⟨K5, hK5⟩ : ∃ K5, ext (ext K3 w3.heap.size (0, 0)) w4.heap.size (0, 0) = K5 := ⟨_, rfl⟩
  rw [hK5] at kp5
  have HD5 := hide (HD3.out.kept kp5 (fun _ h => h))
  have HJ5 := hide (HJ3.out.kept kp5 (fun _ h => h))
  have HB5 : Hid (Below W.heap.size W w5) := HB3.out.trans ((HB4.out.trans (hb5.mono hs34)).mono (Nat.le_of_lt hs3))
  have hx5 : w5.heap[W.heap.size]? = some bx := (kp5.block _ hs3 (fun h => h)).trans HX3.out
  have HX5 := hide hx5
  have HO5 : Hid (∀ b, b < w2.heap.size → K5 b = (0, 0)) := fun b hb => (kp5.same b (by omega)).trans (HO3.out b hb)
  have HCl : Hid (Clr w5 K5 la L) := by
    have hl := cls_own hr5
    refine ⟨hl.lie.imp id ?_⟩
    rintro ⟨g, o, e, hg, hc⟩
    refine ⟨g, o, e, hg, ?_, hc⟩
    rcases hr5.2 with ⟨e1, _⟩ | ⟨g3, _, _, e1, e2, _⟩
    · rw [e] at e1; cases e1
    · rw [e] at e1; cases e1; rw [← hK5]; exact ext_new _ _ e2
  have HNew : Hid (∀ b, w3.heap.size ≤ b → b < w5.heap.size → K5 b = (0, 0)) := fun b h1 h2 => by
    rw [← hK5]
    unfold ext
    by_cases h : b < w4.heap.size
    · rw [if_pos h, if_neg (by omega)]
    · rw [if_neg h]
  have HLm : Hid (∀ x ∈ L, fitsB x.ps = true ∧ x.ps.length = x.k ∧ (∀ p ∈ x.ps, ∀ z ∈ p, z < 256) ∧ Stay (Gq 1 2) K5 w5 x.pp x.ps) := fun x hx => by
    rw [← hLq] at hx
    have h1 := List.mem_of_mem_take hx
    have h2 := List.mem_filter.1 h1
    have h3 := HOk.out x h2.1
    refine ⟨h2.2, h3.len, h3.small, ?_⟩
    rcases List.mem_cons.1 h2.1 with rfl | h4
    · obtain ⟨f1, f2⟩ := HFa.out
      have g1 := lt_of_block f1
      have g2 := lt_of_block f2
      exact f_stay nq0 ((hb5.block _ g1).trans f1) ((hb5.block _ g2).trans f2) (HNew.out _ (by omega) (by omega)) (HNew.out _ (by omega) (by omega))
    · exact stay_of nq0 HB5.out (fun b hb => HO5.out b (by omega)) (HO.out x h4).pts
  have HLq := hide hq
  obtain ⟨_, _, hlf, hlc, hlc2⟩ := owns_form hr5
  cases hlf
  unfold maxLen at hlc2
  have hs5 := lt_of_block hx5
  have HB45 := hide hb5
  clear hr5 hb5 hLq hq hx5 HD3 HJ3 HB3 HX3 HO3 HPl HC HO HM kp5 hK5 HOk
  go_wp2
  go_loopw [6] (fun i wr => ∃ (c : Nat) (K : Knd) (S : St) (J : Jr), c ≤ q ∧ i = .int .i64 c ∧ Hid (Dk wr K 1 d S) ∧ Hid (Jk wr K 2 d jb J) ∧ Hid (Fh S J ((L.take c).map (·.ps)) c) ∧ Hid (Kp (Gq 1 2) K5 K w5 wr)) (fun i _ => q - (intOf i).toNat)
  case atStart => exact ⟨0, K5, _, _, Nat.zero_le _, rfl, HD5, HJ5, hide fh_new, hide (Kp.refl _ _ _)⟩
  case round =>
    obtain ⟨c, K, S, J, hc, rfl, HD, HJ, HF, HK⟩ := hrel
    by_cases hlt : c < q
    · have hlt' : (c : Int) < (q : Int) := by omega
      have c0 : (0 : Int) ≤ (c : Int) := by omega
      obtain ⟨x, hx⟩ : ∃ x, L[c]? = some x := ⟨_, List.getElem?_eq_getElem (by have := HLq.out; omega)⟩
      have hCw := HCl.out.kept HK.out nq0
      obtain ⟨g, og, rfl, hgl, hgk, hcs⟩ : ∃ g o, la = some ⟨g, o, none⟩ ∧ g < wr.heap.size ∧ K g = (0, 0) ∧ ∀ (j : Nat) (c : Cl), L[j]? = some c → wr.cell? ⟨g, o + j * 2, none⟩ = some (.bool c.b) ∧ wr.cell? ⟨g, o + j * 2 + 1, none⟩ = some (.slice c.pp c.k c.cap) := by
        rcases hCw.lie with e | e
        · rw [e] at hx; simp at hx
        · exact e
      obtain ⟨t0, t1⟩ := hcs c x hx
      obtain ⟨hfx, hxl, hsm, hst⟩ := HLm.out x (List.mem_of_getElem? hx)
      obtain ⟨S', J', hadd, hF'⟩ := HF.out.add (by omega) x.ps hfx hsm
      have hTk : (L.take (c + 1)).map (·.ps) = (L.take c).map (·.ps) ++ [x.ps] := by rw [List.take_add_one, hx]; simp
      rw [← hTk] at hF'
      have gd := HF.out.fd.gd (by omega)
      have hx4 : x.k ≤ 4096 := by have := (fits_small hfx).1; omega
      have HTw := hide (twins_any wr x.pp x.k x.cap x.ps hxl hx4 (hst _ _ HK.out) hsm)
      have HAd : Hid (∀ (w6 : World) (a : Option Addr) (c' : Nat), Pts w6 a x.ps → Below wr.heap.size wr w6 → Calls Tryz.prog 16 #[.pointer (some ⟨jb, 0, none⟩), .slice a x.k c'] w6 (Kept5 w6 (ext K wr.heap.size (0, 0)) 1 2 d jb (0, S', J'))) := fun w6 a c' hp hb6 => by
        have kp2 := kp_below hb6 (fun _ => False) K (0, 0)
        obtain ⟨k, hk, hz⟩ := gd.sz
        have h := Add_any w6 (ext K wr.heap.size (0, 0)) 1 2 d jb (by decide) S J (HD.out.kept kp2 (fun _ h => h)) gd.inv k hz hk (HJ.out.kept kp2 (fun _ h => h)) (by rw [HF.out.fd.nm]; decide) gd.gd (by rw [gd.ln]; have := gd.bk; omega) gd.last a x.k c' x.ps hxl (by omega) hp (tab_kp (HT.out.below HB5.out HT.out.pos) (HK.out.trans (kp_below hb6 (Gq 1 2) K (0, 0))) (HO5.out 0 (by have := HT.out.pos; omega)) nq0)
        rw [hadd] at h
        exact h
      have HF1 := hide hF'
      obtain ⟨xb, xp, xk, xc, xs⟩ := x
      simp only at t0 t1 HTw HAd
      clear hcs hCw hx hst hfx hxl hsm hadd hF' hTk gd hgl hgk hx4
      go_wp2_with fail
      refine HTw.out.mono ?_
      rintro e w6 ⟨a6, c6, rfl, hp6, hb6⟩
      have HA6 := hide (HAd.out w6 a6 c6 hp6 hb6)
      have HK6 := hide (HK.out.trans (kp_below hb6 (Gq 1 2) K (0, 0)))
      clear hp6 hb6 HAd HTw t0 t1
      go_wp2_with fail
      refine HA6.out.mono ?_
      rintro e w7 ⟨K7, rfl, hd7, hj7, hk7⟩
      have HD7 := hide hd7
      have HJ7 := hide hj7
      have HK7 := hide (HK6.out.trans (hk7.mono gq_pk))
      clear hd7 hj7 hk7 HA6
      go_wp2_with fail
      exact ⟨⟨c + 1, K7, S', J', by omega, by go_num, HD7, HJ7, HF1, HK7⟩, by simp [intOf]; omega⟩
    · obtain rfl : c = q := by omega
      have hlt' : ¬ (c : Int) < (c : Int) := by omega
      obtain ⟨X, hX, hXe, hX1, hX2, hXs, hXh⟩ := HF.out.file hq1 hq8
      have hRd := Read_any wr K 1 d S HD.out HF.out.fd.stl.inv (20971525 * c) HF.out.fd.stl.sz (by omega) jx (by decide)
      rw [hX, hXe] at hRd
      obtain ⟨xl, hxl⟩ : ∃ xl, X.length = xl := ⟨_, rfl⟩
      rw [hxl] at hRd hX1 hX2 hXh
      have HRd : Hid (Calls Tryz.prog 15 #[.pointer (some ⟨d, 0, none⟩), .string ⟨#[106]⟩] wr fun e w' => ∃ a c, e = .returned (.tuple #[.slice a xl c, .int .i64 0]) ∧ w'.ownsRow wr.heap.size 5 1 (.slice a xl c) xl (vals X) ∧ Below wr.heap.size wr w') := hRd
      have HXl := hide hxl
      have HXs := hide hXs
      have HXh := hide hXh
      clear hRd hX hXe hxl hXs hXh
      go_wp2_with fail
      refine HRd.out.mono ?_
      rintro e w7 ⟨a7, c7, rfl, hr7, hb7⟩
      obtain ⟨gb, cb, hab, hgb, hgb2⟩ := hr7.form (by omega)
      cases hab
      have pn0 : ¬ (fun k : Nat × Nat => k.1 ≠ 0) (0, 0) := fun h => h rfl
      have hKn : Kp (fun k : Nat × Nat => k.1 ≠ 0) K5 (ext K wr.heap.size (0, 0)) w5 w7 := (HK.out.mono (fun k h => by rcases h with h | h <;> (rw [h]; decide))).trans (kp_below hb7 _ K (0, 0))
      have hx7 : w7.heap[W.heap.size]? = some bx := (hKn.block _ hs5 (by rw [HO5.out _ hs2]; exact pn0)).trans HX5.out
      have hbw : w7.heap[W.heap.size]? = some (.cells #[.slice sp m cap, .int .i64 cz, .int .i64 bz] 51 (0, 0)) := hx7.trans (congrArg some HBx.out)
      have y2 : w7.cell? ⟨W.heap.size, 2, none⟩ = some (.int .i64 bz) := by simp [World.cell?, hbw]
      obtain ⟨ib, hib, eib⟩ := and24 bz
      obtain ⟨bi, hbi⟩ : ∃ bi, ib % (8 * xl) = bi := ⟨_, rfl⟩
      have hbi1 : (ib : Int).tmod (8 * (xl : Int)) = (bi : Int) := by rw [Int.tmod_eq_emod_of_nonneg (by omega), ← hbi]; push_cast; rfl
      have hbi2 : bi < 8 * xl := by rw [← hbi]; exact Nat.mod_lt _ (by omega)
      have hz0 : ¬ 8 * (xl : Int) = 0 := by omega
      have hbyt := owns_bytes hr7 HXs.out
      have hq0 : w7.cell? ⟨gb, bi / 8, none⟩ = some (.int .u8 (X.getD (bi / 8) 0 : Nat)) := by
        rcases hbyt.lie with e | ⟨g', o', e, _, hc⟩
        · have := HXl.out; rw [e] at this; simp at this; omega
        · cases e
          have := hc (bi / 8) (by rw [HXl.out]; omega)
          simpa using this
      have hqf : w7.frozen? ⟨gb, bi / 8, none⟩ = false := by
        rcases hr7.2 with ⟨e1, _⟩ | ⟨g', _, _, e1, _, hg', _⟩
        · cases e1
        · cases e1; simp [World.frozen?, hg']
      have i1 : (0 : Int) ≤ (bi : Int) / 8 := by omega
      have i2 : (bi : Int) / 8 < (xl : Int) := by omega
      have i3 : ((bi : Int) / 8).toNat = bi / 8 := by omega
      have HR7 := hide hr7
      have HKn := hide hKn
      have HX7 := hide hx7
      clear hr7 hb7 hKn hx7 hbw hbi hbyt HRd
      go_wp2_with fail
      rw [flip_byte X HXs.out bi]
      have hst := HR7.out.stored (bi / 8) (.int .u8 ((X.getD (bi / 8) 0 ^^^ 2 ^ (bi % 8) : Nat) : Int))
      rw [flip_vals] at hst
      have hK8 := HKn.out.setCell (b := gb) (Or.inl (by have := HK.out.size; omega)) (bi / 8) (.int .u8 ((X.getD (bi / 8) 0 ^^^ 2 ^ (bi % 8) : Nat) : Int))
      have hk7 : ext K wr.heap.size (0, 0) gb = (0, 0) := ext_new _ _ hgb
      generalize w7.setCell ⟨gb, bi / 8, none⟩ (.int .u8 ((X.getD (bi / 8) 0 ^^^ 2 ^ (bi % 8) : Nat) : Int)) = w8 at *
      obtain ⟨Y, hY⟩ : ∃ Y, C.flip X bi = Y := ⟨_, rfl⟩
      have hYs : ∀ x ∈ Y, x < 256 := by rw [← hY]; exact C.flip_small X bi HXs.out
      have hYl : Y.length = xl := by rw [← hY, C.flip_len]; exact HXl.out
      have hYf := HXh.out bi hbi2
      rw [hY] at hst hYf
      have HY := hide hYf
      have HYs := hide hYs
      have HYl := hide hYl
      generalize ext K wr.heap.size (0, 0) = K7 at *
      have HR8 : Hid (Rk w8 K7 (0, 0) 5 1 (.slice (some ⟨gb, 0, none⟩) xl c7) xl (vals Y)) := ⟨by
        obtain ⟨h1, h2⟩ := hst.1
        exact ⟨h1, h2.imp id (fun ⟨g', cap', cur, e1, _, r⟩ => ⟨g', cap', cur, e1, Nat.zero_le _, r⟩)⟩, fun g' e => by simp [Value.ownBlock] at e; rw [← e]; exact hk7⟩
      have HK8 := hide hK8
      have HCp := hide (copy_any w8 (some ⟨gb, 0, none⟩) xl c7 Y hYl (owns_bytes HR8.out.own hYs) (by omega))
      clear hst hK8 hk7 hY hYs hYl hYf hq0 hqf HR7 HX7 y2 HXh
      refine HCp.out.mono ?_
      rintro e w9 ⟨a9, c9, rfl, hr9, hb9⟩
      have HK9 := hide (HK8.out.trans (kp_below hb9 _ K7 (0, 0)))
      have HR9 := hide (HR8.out.kept (kp_below hb9 (fun _ => False) K7 (0, 0)) (fun h => h))
      have HC9 : Hid (Rk w9 (ext K7 w8.heap.size (0, 0)) (0, 0) 5 1 (.slice a9 xl c9) xl (vals Y)) := ⟨by
        obtain ⟨h1, h2⟩ := hr9
        exact ⟨h1, h2.imp id (fun ⟨g', cap', cur, e1, _, r⟩ => ⟨g', cap', cur, e1, Nat.zero_le _, r⟩)⟩, fun g' e => by
        rcases hr9.2 with ⟨e1, _⟩ | ⟨g3, _, _, e1, e2, _⟩
        · rw [e1] at e; simp [Value.ownBlock] at e
        · rw [e1] at e; simp [Value.ownBlock] at e; subst e; exact ext_new _ _ e2⟩
      clear hr9 hb9 HCp
      generalize ext K7 w8.heap.size (0, 0) = K9 at *
      go_wp2_with fail
      have hbA : Below w9.heap.size w9 (w9.alloc (.cells #[.string ⟨#[106]⟩, .slice a9 xl c9] 58)) := (Below.refl _ _).alloc (Nat.le_refl _) _
      have hIm : Im (w9.alloc (.cells #[.string ⟨#[106]⟩, .slice a9 xl c9] 58)) (ext K9 w9.heap.size (0, 0)) (.slice (some ⟨w9.heap.size, 0, none⟩) 1 1) [(jx, Y)] := one_im HYs.out HYl.out (by omega) (heap_alloc_new _ _) (ext_new _ _ (Nat.le_refl _)) (HC9.out.kept (kp_below hbA (fun _ => False) K9 (0, 0)) (fun h => h))
      have hok1 : okB [(jx, Y)] 131072 = true := one_ok (by rw [HYl.out]; omega)
      have HLd := hide (Load_any _ (ext K9 w9.heap.size (0, 0)) 3 (by decide) (.slice (some ⟨w9.heap.size, 0, none⟩) 1 1) [(jx, Y)] 131072 hIm (fun p hp => by simp at hp; subst hp; show jx.length ≤ 140737488355328; decide) (by omega) hok1)
      have HKA := hide (HK9.out.trans (kp_below hbA _ K9 (0, 0)))
      have HRA := hide (HR9.out.kept (kp_below hbA (fun _ => False) K9 (0, 0)) (fun h => h))
      have HIv := hide (laid_inv (by omega : (131072 : Nat) ≤ 16777216) hok1)
      have HSz := hide (laid_sz (by omega : (131072 : Nat) ≤ 16777216) hok1 (fun p hp => by simp at hp; subst hp; exact HYs.out))
      clear hbA hIm hok1
      refine HLd.out.mono ?_
      rintro e wL ⟨d2, KL, rfl, hdL, hkL⟩
      have hkL' := hkL.mono (q := fun k : Nat × Nat => k.1 ≠ 0) (fun k h => by have h' : k.1 = 3 := h; rw [h']; decide)
      have HKL := hide (HKA.out.trans hkL')
      have HRL := hide (HRA.out.kept hkL' (fun h => h rfl))
      have HDL := hide hdL
      have hTL : C.Tab wL := tab_kp (HT.out.below HB5.out HT.out.pos) HKL.out (HO5.out 0 (by have := HT.out.pos; omega)) pn0
      have hOp := Open_any wL KL 3 4 d2 (by decide) (by decide) (St.laid 131072 [(jx, Y)]) hdL HIv.out 0 HSz.out (by omega) rfl jx jx_ok.1 jx_ok.2 hTL ((HKL.out.same 0 (by have := HT.out.pos; omega)).trans (HO5.out 0 (by have := HT.out.pos; omega)))
      rw [HY.out] at hOp
      have HOp : Hid (Calls Tryz.prog 23 #[.pointer (some ⟨d2, 0, none⟩), .string ⟨#[106]⟩] wL fun e w' => ∃ K', Kp (Ow 4) KL K' wL w' ∧ e = .returned (.tuple #[.pointer none, .int .i64 53])) := hOp.mono fun e w' ⟨K', h1, h2⟩ => ⟨K', h1, by
        rcases h2 with ⟨h, _⟩ | ⟨_, h⟩
        · cases h
        · exact h⟩
      clear hkL hkL' hdL hTL hOp HLd HKA HRA
      go_wp2_with fail
      refine HOp.out.mono ?_
      rintro e wO ⟨KO, hkO, rfl⟩
      have hkO' := hkO.mono (q := fun k : Nat × Nat => k.1 ≠ 0) (fun k h => by have h' : k.1 = 4 := h; rw [h']; decide)
      have HKO := hide (HKL.out.trans hkO')
      have HRO := hide (HRL.out.kept hkO' (fun h => h rfl))
      have HDO := hide (HDL.out.kept hkO (fun n h => by have h' : 3 = 4 := h; omega))
      have hRd := Read_any wO KO 3 d2 (St.laid 131072 [(jx, Y)]) HDO.out HIv.out 0 HSz.out (by omega) jx (by decide)
      rw [(one_bytes Y).1, (one_bytes Y).2, HYl.out] at hRd
      have HRd : Hid (Calls Tryz.prog 15 #[.pointer (some ⟨d2, 0, none⟩), .string ⟨#[106]⟩] wO fun e w' => ∃ a c, e = .returned (.tuple #[.slice a xl c, .int .i64 0]) ∧ w'.ownsRow wO.heap.size 5 1 (.slice a xl c) xl (vals Y) ∧ Below wO.heap.size wO w') := hRd
      clear hkO hkO' hRd HOp HKL HRL HDL
      go_wp2_with fail
      refine HRd.out.mono ?_
      rintro e wR ⟨aR, cR, rfl, hrR, hbR⟩
      have HKR := hide (HKO.out.trans (kp_below hbR _ KO (0, 0)))
      have hRR := HRO.out.kept (kp_below hbR (fun _ => False) KO (0, 0)) (fun h => h)
      have HDR := hide (HDO.out.kept (kp_below hbR (fun _ => False) KO (0, 0)) (fun _ h => h))
      have HEq := hide (eq_same wR aR (some ⟨gb, 0, none⟩) xl cR c7 Y HYl.out (by omega) (owns_bytes hrR HYs.out) (owns_bytes hRR.own HYs.out))
      clear hrR hbR hRR HRd HKO HRO HDO
      go_wp2_with fail
      refine HEq.out.mono ?_
      rintro e wE ⟨rfl, qq, hwE⟩
      have hstill : Kp (fun _ => False) (ext KO wO.heap.size (0, 0)) (ext KO wO.heap.size (0, 0)) wR wE := by rw [hwE]; exact (Kp.refl _ _ _).drewN qq
      have HSt := hide (Strokes_any wE _ 3 d2 _ (HDR.out.kept hstill (fun _ h => h)))
      have HKE := hide (HKR.out.trans (hstill.mono (q := fun k : Nat × Nat => k.1 ≠ 0) fun _ h => h.elim))
      clear hwE hstill HEq HDR HKR
      go_wp2_with fail
      refine HSt.out.mono ?_
      rintro e wZ ⟨rfl, h⟩
      obtain rfl := h.symm
      clear h HSt
      go_wp2
      go_ret
      exact ⟨rfl, HKE.out.below HB5.out (fun b hb => by rw [HO5.out b (by omega)]; exact pn0)⟩
end Go.Proofs.YtlmfohcdaahojabGreatDoor
