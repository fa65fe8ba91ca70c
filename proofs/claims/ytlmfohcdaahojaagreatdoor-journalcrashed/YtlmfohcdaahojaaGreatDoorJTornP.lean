import Derived.Test.YtlmfohcdaahojaaGreatDoorCOrder
import Derived.Test.YtlmfohcdaahojaaGreatDoorJCrR
import Derived.Laws.BitsAllLaws
namespace Go.Proofs.YtlmfohcdaahojaaGreatDoor
open Go.RowKit Go.Maps

/-! One bit turned in the records of a journal -/
theorem sum_flip {xs : List Nat} (hs : ∀ x ∈ xs, x < 256) {i : Nat} (hi : i < 8 * xs.length) : C.sumOf (C.flip xs i) ≠ C.sumOf xs := fun e => by
  have h := (C.sum_eq_iff _ _ (C.flip_small xs i hs) hs (C.flip_len xs i)).1 e
  rw [C.flip_len, C.val_flip xs i hi hs] at h
  have e2 : C.val xs ^^^ 2 ^ i ^^^ C.val xs = 2 ^ i * 1 := by
    rw [Nat.xor_comm (C.val xs) (2 ^ i), Nat.xor_assoc, Nat.xor_self, Nat.xor_zero, Nat.mul_one]
  rw [e2] at h
  have := (C.burst (8 * xs.length) i 1 (by omega) (by omega)).1 h
  omega
theorem flip_ne {xs : List Nat} {i : Nat} (hi : i < 8 * xs.length) (hs : ∀ x ∈ xs, x < 256) : C.flip xs i ≠ xs := fun e => sum_flip hs hi (by rw [e])
theorem flip_left (a b : List Nat) {i : Nat} (hi : i < 8 * a.length) : C.flip (a ++ b) i = C.flip a i ++ b := by
  have h : i / 8 < a.length := by omega
  unfold C.flip
  rw [List.set_append_left _ _ h]
  congr 2
  simp only [List.getD, List.getElem?_append_left h]
theorem flip_right (a b : List Nat) {i : Nat} (hi : 8 * a.length ≤ i) : C.flip (a ++ b) i = a ++ C.flip b (i - 8 * a.length) := by
  have h : a.length ≤ i / 8 := by omega
  have e1 : (i - 8 * a.length) / 8 = i / 8 - a.length := by omega
  have e2 : (i - 8 * a.length) % 8 = i % 8 := by omega
  unfold C.flip
  rw [List.set_append_right _ _ h, e1, e2]
  congr 2
  simp only [List.getD, List.getElem?_append_right h]
theorem be_inj : ∀ (a b : List Nat), a.length = b.length → (∀ x ∈ a, x < 256) → (∀ x ∈ b, x < 256) → C.be a = C.be b → a = b := by
  intro a
  rw [← List.reverse_reverse a]
  generalize a.reverse = u
  induction u with
  | nil => intro b hl _ _ _; exact (List.eq_nil_of_length_eq_zero (by simpa using hl.symm)).symm
  | cons x u ih =>
    intro b hl ha hb he
    rw [List.reverse_cons] at hl ha he ⊢
    have hne : b ≠ [] := by intro e; rw [e] at hl; simp at hl
    obtain ⟨b', y, rfl⟩ : ∃ b' y, b = b' ++ [y] := ⟨b.dropLast, b.getLast hne, (List.dropLast_concat_getLast hne).symm⟩
    rw [C.be_snoc, C.be_snoc] at he
    have hx := ha x (by simp)
    have hy := hb y (by simp)
    have e1 : x = y := by omega
    have e2 : C.be u.reverse = C.be b' := by omega
    rw [ih b' (by simpa using hl) (fun z hz => ha z (List.mem_append_left _ hz)) (fun z hz => hb z (List.mem_append_left _ hz)) e2, e1]
theorem be4 {n : Nat} (h : n < 4294967296) : C.be (C.beOf n 4) = n := by rw [C.be_beOf, Nat.mod_eq_of_lt (by rw [show (256 : Nat) ^ 4 = 4294967296 from rfl]; exact h)]
/-- Bytes with their sum behind them: with a bit turned they are no such bytes any more. -/
theorem flip_frame {x y : List Nat} (hx : ∀ z ∈ x, z < 256) (hy : ∀ z ∈ y, z < 256) (hl : y.length = x.length) {i : Nat} (hi : i < 8 * (x.length + 4)) : C.flip (x ++ C.beOf (C.sumOf x) 4) i ≠ y ++ C.beOf (C.sumOf y) 4 := fun e => by
  have sx := sum_lt x hx
  have sy := sum_lt y hy
  by_cases h : i < 8 * x.length
  · rw [flip_left _ _ h] at e
    obtain ⟨e1, e2⟩ := List.append_inj e (by rw [C.flip_len, hl])
    have e3 := congrArg C.be e2
    rw [be4 sx, be4 sy] at e3
    exact sum_flip hx h (by rw [e1, e3])
  · rw [flip_right _ _ (by omega)] at e
    obtain ⟨e1, e2⟩ := List.append_inj e hl.symm
    subst e1
    exact flip_ne (by rw [be_len]; omega) (be_small _ _) e2
theorem hurt_rec {num : Nat} {ps : List (List Nat)} (h : Trn num ps) {i : Nat} (hi : i < 8 * (recB num ps).length) (f : Nat) (xs : List Nat) (R : List (List Nat)) (last : Nat) : (goB (f + 1) (C.flip (recB num ps) i ++ xs) R last).2.2.2 = 53 := by
  have hb := h.body
  have hl := recB_len num ps
  have hlen : (C.flip (recB num ps) i ++ xs).length = (bodyB num ps).length + 13 + xs.length := by rw [List.length_append, C.flip_len, hl]
  have hhd : ∀ n, (hd5 n).length = 5 := fun n => by simp [hd5, be_len]
  rw [goB, if_neg (by omega), if_neg (by omega)]
  by_cases h9 : i < 72
  · have hno : hdOk (C.flip (recB num ps) i ++ xs) = false := by
      cases hk : hdOk (C.flip (recB num ps) i ++ xs) with
      | false => rfl
      | true =>
        exfalso
        unfold hdOk at hk
        simp only [Bool.and_eq_true, decide_eq_true_eq] at hk
        have e : (C.flip (recB num ps) i ++ xs).take 9 = C.flip (hd5 (bodyB num ps).length ++ C.beOf (C.sumOf (hd5 (bodyB num ps).length)) 4) i := by
          have e0 : recB num ps = headB (bodyB num ps).length ++ (bodyB num ps ++ C.beOf (C.sumOf (bodyB num ps)) 4) := by unfold recB framedB; rw [List.append_assoc]
          rw [e0, flip_left _ _ (by rw [headB_len]; omega), List.append_assoc, List.take_append_of_le_length (by rw [C.flip_len, headB_len]; omega), List.take_of_length_le (by rw [C.flip_len, headB_len]; omega)]
          rfl
        rw [e] at hk
        exact flip_frame (hd5_small _) (hd5_small _) (by rw [hhd, hhd]) (by rw [hhd]; omega) hk.2
    rw [if_pos hno]
  · have e0 : C.flip (recB num ps) i = headB (bodyB num ps).length ++ C.flip (bodyB num ps ++ C.beOf (C.sumOf (bodyB num ps)) 4) (i - 72) := by
      have : recB num ps = headB (bodyB num ps).length ++ (bodyB num ps ++ C.beOf (C.sumOf (bodyB num ps)) 4) := by unfold recB framedB; rw [List.append_assoc]
      rw [this, flip_right _ _ (by rw [headB_len]; omega), headB_len]
    have hzl : (C.flip (bodyB num ps ++ C.beOf (C.sumOf (bodyB num ps)) 4) (i - 72)).length = (bodyB num ps).length + 4 := by rw [C.flip_len, List.length_append, be_len]
    have hzs : ∀ z ∈ C.flip (bodyB num ps ++ C.beOf (C.sumOf (bodyB num ps)) 4) (i - 72), z < 256 := C.flip_small _ _ (fun z hz => by
      rcases List.mem_append.1 hz with hz | hz
      · exact h.bytes z hz
      · exact be_small _ _ z hz)
    have hfr : ∀ y : List Nat, (∀ z ∈ y, z < 256) → y.length = (bodyB num ps).length → C.flip (bodyB num ps ++ C.beOf (C.sumOf (bodyB num ps)) 4) (i - 72) ≠ y ++ C.beOf (C.sumOf y) 4 := fun y hy hyl => flip_frame h.bytes hy hyl (by omega)
    generalize C.flip (bodyB num ps ++ C.beOf (C.sumOf (bodyB num ps)) 4) (i - 72) = z at *
    have hN : hdN (C.flip (recB num ps) i ++ xs) = (bodyB num ps).length := by
      rw [e0]
      unfold hdN headB hd5
      simp only [List.append_assoc]
      rw [drop_app _ _ 1 (be_len _ _), List.take_append_of_le_length (by rw [be_len]; omega), List.take_of_length_le (by rw [be_len]; omega), be4 (by omega)]
    have hok : hdOk (C.flip (recB num ps) i ++ xs) = true := by
      unfold hdOk
      rw [hN]
      have e : (C.flip (recB num ps) i ++ xs).take 9 = headB (bodyB num ps).length := by
        rw [e0, List.append_assoc, List.take_append_of_le_length (by rw [headB_len]; omega), List.take_of_length_le (by rw [headB_len]; omega)]
      rw [e]
      simp [hb.1, hb.2]
    have ht : (C.flip (recB num ps) i ++ xs).take ((bodyB num ps).length + 13) = headB (bodyB num ps).length ++ z := by
      rw [List.take_append_of_le_length (by rw [C.flip_len]; omega), List.take_of_length_le (by rw [C.flip_len]; omega), e0]
    rw [if_neg (by rw [hok]; simp), hN, if_neg (by omega), ht]
    have hrd : readR (headB (bodyB num ps).length ++ z) = none := by
      unfold readR
      have hbo : bodyOf (headB (bodyB num ps).length ++ z) = z.take (bodyB num ps).length := by
        unfold bodyOf
        rw [drop_app _ _ 9 (headB_len _), List.length_append, headB_len, hzl]
        congr 1; omega
      have hta : tailOf (headB (bodyB num ps).length ++ z) = z.drop (bodyB num ps).length := by
        unfold tailOf
        rw [List.length_append, headB_len, hzl, List.drop_append, headB_len, List.drop_of_length_le (by rw [headB_len]; omega), List.nil_append]
        congr 1; omega
      rw [hbo, hta, if_pos]
      intro e
      have hys : ∀ u ∈ z.take (bodyB num ps).length, u < 256 := fun u hu => hzs u (List.mem_of_mem_take hu)
      have e2 : z.drop (bodyB num ps).length = C.beOf (C.sumOf (z.take (bodyB num ps).length)) 4 := be_inj _ _ (by rw [List.length_drop, hzl, be_len]; omega) (fun u hu => hzs u (List.mem_of_mem_drop hu)) (be_small _ _) (by rw [be4 (sum_lt _ hys)]; exact e)
      exact hfr _ hys (by rw [List.length_take, hzl]; omega) (by rw [← e2, List.take_append_drop])
    rw [hrd]
/-- ANY BIT TURNED IN RECORDS IS DAMAGE. -/
theorem hurt_recs : ∀ (l : List (List (List Nat))) (n i f : Nat) (R : List (List Nat)) (last : Nat), Trns n l → i < 8 * (recsOf n l).flatten.length → (R.length = 0 ∨ n = last + 1) → l.length ≤ f → (goB f (C.flip (recsOf n l).flatten i) R last).2.2.2 = 53
  | [], n, i, f, R, last, _, hi, _, _ => by simp [recsOf] at hi
  | t :: l, n, i, 0, R, last, _, _, _, hf => by simp at hf
  | t :: l, n, i, f + 1, R, last, h, hi, hR, hf => by
    have e : (recsOf n (t :: l)).flatten = recB n t ++ (recsOf (n + 1) l).flatten := by simp [recsOf]
    rw [e] at hi ⊢
    rw [List.length_append] at hi
    by_cases h1 : i < 8 * (recB n t).length
    · rw [flip_left _ _ h1]
      exact hurt_rec h.1 h1 f _ R last
    · rw [flip_right _ _ (by omega), goB_step f _ R last n t h.1 hR]
      exact hurt_recs l (n + 1) _ f _ n h.2 (by omega) (Or.inr rfl) (by simp at hf; omega)
end Go.Proofs.YtlmfohcdaahojaaGreatDoor
namespace Go.Proofs.YtlmfohcdaahojaaGreatDoor
open Go.RowKit Go.Maps

/-- A DISK AND ITS JOURNAL BEHIND c ADDS, as data. -/
structure Fh (S : St) (J : Jr) (l : List (List (List Nat))) (c : Nat) : Prop where
  fd : Fd 131072 S J l 1 c
  len : l.length = c
  fit : ∀ ps ∈ l, fitsB ps = true
  pf : S.pFrom = 0
theorem recs_fit_len : ∀ (l : List (List (List Nat))) (n : Nat), (∀ ps ∈ l, fitsB ps = true) → n + l.length ≤ 1099511627776 → (recsOf n l).flatten.length ≤ 4025 * l.length
  | [], _, _, _ => by simp [recsOf]
  | t :: l, n, h, hn => by
    have h1 := (rec_fit (h t (by simp)) (num := n) (by simp at hn; omega)).1
    have h2 := recs_fit_len l (n + 1) (fun ps hp => h ps (List.mem_cons_of_mem _ hp)) (by simp at hn; omega)
    have e : (recsOf n (t :: l)).flatten = recB n t ++ (recsOf (n + 1) l).flatten := by simp [recsOf]
    rw [e, List.length_append, List.length_cons]
    omega
theorem Fh.bytes {S : St} {J : Jr} {l : List (List (List Nat))} {c : Nat} (h : Fh S J l c) : (S.v jx).getD [] = (recsOf 1 l).flatten := by
  rw [← h.fd.nm, h.fd.jd.d.byt, h.fd.jd.recs]
theorem Fh.used {S : St} {J : Jr} {l : List (List (List Nat))} {c : Nat} (h : Fh S J l c) (hc : c ≤ 1000) : S.used ≤ 4025 * c := by
  rw [used_one h.fd.stl.inv h.fd.vis, h.bytes, ← h.len]
  exact recs_fit_len l 1 h.fit (by rw [h.len]; omega)
theorem Fh.add {S : St} {J : Jr} {l : List (List (List Nat))} {c : Nat} (h : Fh S J l c) (hc : c < 20) (ps : List (List Nat)) (hf : fitsB ps = true) (hsm : ∀ p ∈ ps, ∀ x ∈ p, x < 256) : ∃ S' J', addR S J ps = (0, S', J') ∧ Fh S' J' (l ++ [ps]) (c + 1) := by
  have hla := h.fd.jd.last
  have hlen := h.len
  obtain ⟨hl, hok⟩ := rec_fit hf (num := J.last + 1) (by omega)
  have htr : Trn (J.last + 1) ps := ⟨by omega, hok, hsm⟩
  have hu := h.used (by omega)
  have hro := h.fd.room
  rcases add_heal h.fd.stl h.fd.jd.d h.fd.jd.torn ps hok htr.rec_small (Or.inr h.fd.seen) with ⟨e, _, _⟩ | ⟨_, S', e1, _, _, e4, _⟩
  · exfalso
    have e1 : S.stroked.pFrom = S.pFrom := rfl
    have e2 : S.stroked.room = S.room := rfl
    have e3 : S.stroked.used = S.used := rfl
    unfold St.full St.fullP at e
    rw [e1, e2, e3, h.pf] at e
    simp at e
    omega
  · rcases h.fd.step (by omega) false ps hf hsm with ⟨f1, _, _⟩ | ⟨S2, J2, f1, f2⟩
    · have f1' : addR S J ps = _ := f1
      rw [e1] at f1'
      simp at f1'
    · have f1' : addR S J ps = (0, S2, J2) := f1
      rw [e1] at f1'
      simp only [Prod.mk.injEq, true_and] at f1'
      obtain ⟨rfl, rfl⟩ := f1'
      refine ⟨S', _, e1, f2, by rw [List.length_append, hlen]; rfl, fun q hq => ?_, e4.pf.trans h.pf⟩
      rcases List.mem_append.1 hq with hq | hq
      · exact h.fit q hq
      · simp at hq; rw [hq]; exact hf
theorem fh_new : Fh (St.laid 131072 []) (jnew jx ([], 0, false, 0)) [] 0 := ⟨fd_new (by omega), rfl, (fun _ h => by cases h), rfl⟩
theorem recs_pos {l : List (List (List Nat))} {n : Nat} (h : Trns n l) : l.length ≤ (recsOf n l).flatten.length := by
  have h1 : ∀ (L : List (List Nat)), (∀ r ∈ L, 25 ≤ r.length ∧ r.length ≤ 4194304) → L.length ≤ L.flatten.length := fun L => by
    induction L with
    | nil => intro _; simp
    | cons a L ih =>
      intro hL
      have := ih (fun r hr => hL r (List.mem_cons_of_mem _ hr))
      have := (hL a (by simp)).1
      simp only [List.flatten_cons, List.length_append, List.length_cons]
      omega
  have h2 := h1 _ (trns_lens h)
  rw [recs_length] at h2
  exact h2
/-! A disk with one file -/
theorem one_ok {Y : List Nat} (h : Y.length ≤ 131072) : okB [(jx, Y)] 131072 = true := by
  have e : chn [] [(jx, Y)] = true := by simp [chn]; exact ⟨by kernel_rfl, by kernel_rfl⟩
  unfold okB
  rw [e]
  simp [sumI, h]
theorem one_v (Y : List Nat) : (St.laid 131072 [(jx, Y)]).v jx = some Y := by
  simp [St.v, St.laid, imgN, lookN, St.file, Fil.all, carryL]
theorem one_bytes (Y : List Nat) : (St.laid 131072 [(jx, Y)]).bytes jx = Y ∧ (St.laid 131072 [(jx, Y)]).err jx = 0 := by
  constructor
  · rw [bytes_view rfl jx_ok.1, one_v]; rfl
  · rw [err_view rfl jx_ok.1, one_v]; simp
theorem Fh.hurt {S : St} {J : Jr} {l : List (List (List Nat))} {c : Nat} (h : Fh S J l c) {i : Nat} (hi : i < 8 * (recsOf 1 l).flatten.length) : ((St.laid 131072 [(jx, C.flip (recsOf 1 l).flatten i)]).found jx).2.2.2 = 53 := by
  unfold St.found
  rw [(one_bytes _).1]
  exact hurt_recs l 1 i _ [] 0 h.fd.jd.trns hi (Or.inl rfl) (by rw [C.flip_len]; have := recs_pos h.fd.jd.trns; omega)
end Go.Proofs.YtlmfohcdaahojaaGreatDoor
namespace Go.Proofs.YtlmfohcdaahojaaGreatDoor
open Go.RowKit Go.Maps

theorem pow_m8 (i : Nat) : (2 : Int) ^ (i % 8) % 256 = ((2 ^ (i % 8) : Nat) : Int) := by
  have h := C.pow_lt8 i
  have e : ((2 ^ (i % 8) : Nat) : Int) = (2 : Int) ^ (i % 8) := by simp
  rw [← e]
  clear e
  generalize (2 : Nat) ^ (i % 8) = y at *
  omega
theorem flip_byte (xs : List Nat) (hs : ∀ x ∈ xs, x < 256) (i : Nat) : bits .xor .u8 ((xs[i / 8]?.getD 0 : Nat) : Int) ((2 : Int) ^ (i % 8) % 256) = ((xs.getD (i / 8) 0 ^^^ 2 ^ (i % 8) : Nat) : Int) := by
  rw [pow_m8]
  have := u8_xor_nat (xs.getD (i / 8) 0) (2 ^ (i % 8)) (C.getD_small hs _) (C.pow_lt8 i)
  simpa [List.getD] using this
theorem flip_vals (xs : List Nat) (i : Nat) : (vals xs).set (i / 8) (.int .u8 ((xs.getD (i / 8) 0 ^^^ 2 ^ (i % 8) : Nat) : Int)) = vals (C.flip xs i) := by
  unfold vals C.flip
  rw [List.map_set]
theorem trns_small : ∀ {l : List (List (List Nat))} {n : Nat}, Trns n l → ∀ x ∈ (recsOf n l).flatten, x < 256
  | [], _, _, x, hx => by simp [recsOf] at hx
  | t :: l, n, h, x, hx => by
    have e : (recsOf n (t :: l)).flatten = recB n t ++ (recsOf (n + 1) l).flatten := by simp [recsOf]
    rw [e] at hx
    rcases List.mem_append.1 hx with hx | hx
    · exact h.1.rec_small x hx
    · exact trns_small h.2 x hx
theorem Fh.file {S : St} {J : Jr} {l : List (List (List Nat))} {c : Nat} (h : Fh S J l c) (h1 : 1 ≤ c) (h8 : c ≤ 8) : ∃ X, S.bytes jx = X ∧ S.err jx = 0 ∧ 1 ≤ X.length ∧ X.length ≤ 32200 ∧ (∀ x ∈ X, x < 256) ∧ ∀ i, i < 8 * X.length → ((St.laid 131072 [(jx, C.flip X i)]).found jx).2.2.2 = 53 := by
  have hp := recs_pos h.fd.jd.trns
  have hlen := h.len
  have hf := recs_fit_len l 1 h.fit (by rw [hlen]; omega)
  refine ⟨(recsOf 1 l).flatten, by rw [bytes_view h.fd.stl.on.off jx_ok.1, h.bytes], ?_, by omega, by omega, trns_small h.fd.jd.trns, fun i hi => h.hurt hi⟩
  rw [err_view h.fd.stl.on.off jx_ok.1, if_neg]
  intro e
  have hb := h.bytes
  rw [e] at hb
  have : (recsOf 1 l).flatten.length = 0 := by rw [← hb]; rfl
  omega
/-- An image of one file, laid by hand. -/
theorem one_im {w : World} {K : Knd} {g : Nat} {a : Option Addr} {n c : Nat} {Y : List Nat} (hs : ∀ x ∈ Y, x < 256) (hl : Y.length = n) (hn : n ≤ 1099511627776) (hg : w.heap[g]? = some (.cells #[.string ⟨#[106]⟩, .slice a n c] 34 (0, 0))) (hk : K g = (0, 0)) (hr : Rk w K (0, 0) 5 1 (.slice a n c) n (vals Y)) : Im w K (.slice (some ⟨g, 0, none⟩) 1 1) [(jx, Y)] := by
  subst hl
  refine ⟨fun p hp => by simp at hp; subst hp; exact ⟨hs, hn⟩, [(a, c)], rfl, ⟨⟨rfl, Or.inr ⟨g, 1, _, rfl, Nat.zero_le _, hg, Nat.le_refl _, by unfold maxLen; omega, rfl, rfl⟩⟩, fun g' e => by simp [Value.ownBlock] at e; rw [← e]; exact hk⟩, fun j p d hj hd => ?_⟩
  have hj0 : j = 0 := by have := (List.getElem?_eq_some_iff.1 hj).1; simpa using this
  subst hj0
  simp at hj hd
  subst hj hd
  exact hr
/-- The literal call with one part "first". -/
def fw : List Nat := [102, 105, 114, 115, 116]
def fc (g : Nat) : Cl := ⟨false, some ⟨g, 0, none⟩, 1, 1, [fw]⟩
theorem f_fits : fitsB [fw] = true := by kernel_rfl
theorem f_pts {w : World} {g1 g2 c : Nat} {t1 t2 : TypeId} {m1 m2 : Nat × Nat} (h1 : w.heap[g1]? = some (.cells #[.int .u8 102, .int .u8 105, .int .u8 114, .int .u8 115, .int .u8 116] t1 m1)) (h2 : w.heap[g2]? = some (.cells #[.slice (some ⟨g1, 0, none⟩) 5 c] t2 m2)) : Pts w (some ⟨g2, 0, none⟩) [fw] := by
  refine ⟨fun p hp => by simp at hp; subst hp; simp [fw], Or.inr ⟨g2, 0, rfl, lt_of_block h2, fun j p hj => ?_⟩⟩
  have hj0 : j = 0 := by have := (List.getElem?_eq_some_iff.1 hj).1; simpa using this
  subst hj0
  simp at hj
  subst hj
  refine ⟨some ⟨g1, 0, none⟩, c, ?_, ⟨fun x hx => by simp [fw] at hx; omega, Or.inr ⟨g1, 0, rfl, lt_of_block h1, fun j hj => ?_⟩⟩⟩
  · simp [World.cell?, h2, fw]
  · have hj5 : j < 5 := by simpa [fw] using hj
    rcases (show j = 0 ∨ j = 1 ∨ j = 2 ∨ j = 3 ∨ j = 4 by omega) with rfl | rfl | rfl | rfl | rfl <;> simp [World.cell?, h1, fw]
theorem f_stay {q : Nat × Nat → Prop} (hq : ¬ q (0, 0)) {K : Knd} {w : World} {g1 g2 c : Nat} {t1 t2 : TypeId} {m1 m2 : Nat × Nat} (h1 : w.heap[g1]? = some (.cells #[.int .u8 102, .int .u8 105, .int .u8 114, .int .u8 115, .int .u8 116] t1 m1)) (h2 : w.heap[g2]? = some (.cells #[.slice (some ⟨g1, 0, none⟩) 5 c] t2 m2)) (k1 : K g1 = (0, 0)) (k2 : K g2 = (0, 0)) : Stay q K w (some ⟨g2, 0, none⟩) [fw] := fun K' w' hk =>
  f_pts ((hk.block g1 (lt_of_block h1) (by rw [k1]; exact hq)).trans h1) ((hk.block g2 (lt_of_block h2) (by rw [k2]; exact hq)).trans h2)
theorem add_pl (g o j : Nat) : (⟨g, o, none⟩ : Addr).add j = ⟨g, o + j, none⟩ := by
  unfold Addr.add; split <;> simp_all
theorem clv_news {w : World} {g o : Nat} {l : List Cl} (hc : ∀ (j : Nat) (c : Cl), l[j]? = some c → w.cell? ⟨g, o + j * 2, none⟩ = some (.bool c.b) ∧ w.cell? ⟨g, o + j * 2 + 1, none⟩ = some (.slice c.pp c.k c.cap)) (j : Nat) (u : Value) (h : (clv l)[j]? = some u) : w.cell? ((⟨g, o, none⟩ : Addr).add j) = some u := by
  have hj : j < l.length * 2 := by have := (List.getElem?_eq_some_iff.1 h).1; rwa [clv_len] at this
  obtain ⟨c, hcl⟩ : ∃ c, l[j / 2]? = some c := ⟨_, List.getElem?_eq_getElem (by omega)⟩
  obtain ⟨e0, e1⟩ := clv_at hcl
  obtain ⟨d0, d1⟩ := hc _ _ hcl
  rw [add_pl]
  rcases (show j % 2 = 0 ∨ j % 2 = 1 by omega) with hm | hm
  · have ej : j = j / 2 * 2 := by omega
    rw [ej, e0] at h
    cases h
    rw [ej]; exact d0
  · have ej : j = j / 2 * 2 + 1 := by omega
    rw [ej, e1] at h
    cases h
    rw [ej, ← Nat.add_assoc]; exact d1
theorem clv_one (l : List Cl) : ∀ u ∈ clv l, u.oneCell' = true := by
  intro u hu
  simp only [clv, List.mem_flatMap] at hu
  obtain ⟨m, _, hm⟩ := hu
  simp only [clc, List.mem_cons, List.not_mem_nil, or_false] at hm
  rcases hm with e | e <;> (subst e; rfl)
theorem f_append (w WL : World) (hWL : WL = ((w.alloc (.cells #[.int .u8 102, .int .u8 105, .int .u8 114, .int .u8 115, .int .u8 116] 5 (5, 6))).alloc (.cells #[.slice (some ⟨w.heap.size, 0, none⟩) 5 5] 28)).alloc (.cells #[.bool false, .slice (some ⟨w.heap.size + 1, 0, none⟩) 1 1] 64))
    (sp : Option Addr) (m cap : Nat) (l : List Cl) (hm : l.length = m) (hml : m * 32 ≤ 140737488351232) (hC : Cls w sp l) (hO : ∀ c ∈ l, ClOk w c) (ty : TypeId) :
    ∃ g cap' w4, (Builtin.append_ #[55, 55] ty #[.slice (some ⟨w.heap.size + 1 + 1, 0, none⟩) 1 1, .slice sp m cap]).run Tryz.prog WL = .ok (.slice (some ⟨g, 0, none⟩) (1 + m) cap') w4 ∧ Cls w4 (some ⟨g, 0, none⟩) (fc (w.heap.size + 1) :: l) ∧ (∀ c ∈ fc (w.heap.size + 1) :: l, ClOk w4 c) ∧ Below w.heap.size w w4 ∧ w4.heap[w.heap.size]? = some (.cells #[.int .u8 102, .int .u8 105, .int .u8 114, .int .u8 115, .int .u8 116] 5 (5, 6)) ∧ w4.heap[w.heap.size + 1]? = some (.cells #[.slice (some ⟨w.heap.size, 0, none⟩) 5 5] 28 (0, 0)) := by
  obtain ⟨i0, hi, hz0, hz1, hz2⟩ := info_parts Tryz.infoCl
  have z : ∀ (w : World) (o : Obj), (w.alloc o).heap.size = w.heap.size + 1 := fun w o => by unfold World.alloc; exact Array.size_push _
  have bL : Below w.heap.size w WL := by
    rw [hWL]; exact (((Below.refl w.heap.size w).alloc (Nat.le_refl _) _).alloc (by rw [z]; omega) _).alloc (by rw [z, z]; omega) _
  have h1 : WL.heap[w.heap.size]? = some (.cells #[.int .u8 102, .int .u8 105, .int .u8 114, .int .u8 115, .int .u8 116] 5 (5, 6)) := by
    rw [hWL, Below.heap_alloc _ _ _ (by rw [z, z]; omega), Below.heap_alloc _ _ _ (by rw [z]; omega)]; exact heap_alloc_new _ _
  have h2 : WL.heap[w.heap.size + 1]? = some (.cells #[.slice (some ⟨w.heap.size, 0, none⟩) 5 5] 28 (0, 0)) := by
    rw [hWL, Below.heap_alloc _ _ _ (by rw [z, z]; omega)]
    have := heap_alloc_new (w.alloc (.cells #[.int .u8 102, .int .u8 105, .int .u8 114, .int .u8 115, .int .u8 116] 5 (5, 6))) (.cells #[.slice (some ⟨w.heap.size, 0, none⟩) 5 5] 28 (0, 0))
    rw [z] at this; exact this
  have h3 : WL.heap[w.heap.size + 1 + 1]? = some (.cells #[.bool false, .slice (some ⟨w.heap.size + 1, 0, none⟩) 1 1] 64 (0, 0)) := by
    have := heap_alloc_new ((w.alloc (.cells #[.int .u8 102, .int .u8 105, .int .u8 114, .int .u8 115, .int .u8 116] 5 (5, 6))).alloc (.cells #[.slice (some ⟨w.heap.size, 0, none⟩) 5 5] 28)) (.cells #[.bool false, .slice (some ⟨w.heap.size + 1, 0, none⟩) 1 1] 64 (0, 0))
    rw [z, z] at this; rw [hWL]; exact this
  have hown : WL.ownsRow w.heap.size 64 2 (.slice (some ⟨w.heap.size + 1 + 1, 0, none⟩) 1 1) 1 (clv [fc (w.heap.size + 1)]) := ⟨rfl, Or.inr ⟨w.heap.size + 1 + 1, 1, _, rfl, by omega, h3, Nat.le_refl _, by unfold maxLen; omega, rfl, rfl⟩⟩
  clear hWL
  have hfc : ∀ w4 : World, w4.heap[w.heap.size]? = WL.heap[w.heap.size]? → w4.heap[w.heap.size + 1]? = WL.heap[w.heap.size + 1]? → ClOk w4 (fc (w.heap.size + 1)) := fun w4 e1 e2 => ⟨f_pts (e1.trans h1) (e2.trans h2), rfl, by show 1 ≤ _; omega, fun p hp x hx => by simp [fc] at hp; subst hp; simp [fw] at hx; omega⟩
  by_cases h0 : m = 0
  · subst h0
    have hl0 : l = [] := List.eq_nil_of_length_eq_zero hm
    subst hl0
    refine ⟨w.heap.size + 1 + 1, 1, WL, C.run_append_zero WL _ ty 64 i0 Tryz.underlying55 hi _ 1 1 (Nat.le_refl _) sp cap, cls_own hown, fun c hc => ?_, bL, h1, h2⟩
    simp at hc
    subst hc
    exact hfc WL rfl rfl
  · obtain ⟨g0, o0, rfl, hg0, hcs⟩ : ∃ g o, sp = some ⟨g, o, none⟩ ∧ g < w.heap.size ∧ ∀ (j : Nat) (c : Cl), l[j]? = some c → w.cell? ⟨g, o + j * 2, none⟩ = some (.bool c.b) ∧ w.cell? ⟨g, o + j * 2 + 1, none⟩ = some (.slice c.pp c.k c.cap) := by
      rcases hC.lie with e | e
      · rw [e] at hm; simp at hm; omega
      · exact e
    have hcs' : ∀ (j : Nat) (c : Cl), l[j]? = some c → WL.cell? ⟨g0, o0 + j * 2, none⟩ = some (.bool c.b) ∧ WL.cell? ⟨g0, o0 + j * 2 + 1, none⟩ = some (.slice c.pp c.k c.cap) := fun j c hj => ⟨(bL.cell (p := ⟨g0, o0 + j * 2, none⟩) hg0).trans (hcs j c hj).1, (bL.cell (p := ⟨g0, o0 + j * 2 + 1, none⟩) hg0).trans (hcs j c hj).2⟩
    obtain ⟨g, cap', w4, hr, ho, hg, hat, hlt⟩ := run_append_lies (P := Tryz.prog) WL 55 ty w.heap.size 64 i0 (.agg #[.bool false, .slice none 0 0]) 2 32 Tryz.underlying55 hi hz0 hz1 hz2 rfl (by omega) _ 1 _ hown ⟨g0, o0, none⟩ m cap (clv l) (by rw [clv_len, hm]) (clv_news hcs') (clv_one l) (by omega) (by unfold maxLen; omega) (by omega) bL.size _ rfl
    have b4 : Below w.heap.size w w4 := bL.grown hg bL.size (fun k e => by simp [Value.ownBlock] at e; omega)
    have e1 : w4.heap[w.heap.size]? = WL.heap[w.heap.size]? := hg.block _ (lt_of_block h1) (by simp [Value.ownBlock]; omega)
    have e2 : w4.heap[w.heap.size + 1]? = WL.heap[w.heap.size + 1]? := hg.block _ (lt_of_block h2) (by simp [Value.ownBlock])
    refine ⟨g, cap', w4, hr, cls_own (l := fc (w.heap.size + 1) :: l) ho, fun c hc => ?_, b4, e1.trans h1, e2.trans h2⟩
    rcases List.mem_cons.1 hc with rfl | hc
    · exact hfc w4 e1 e2
    · exact (hO c hc).below b4
end Go.Proofs.YtlmfohcdaahojaaGreatDoor
namespace Go.Proofs.YtlmfohcdaahojaaGreatDoor
open Go.RowKit Go.Maps

/-! A file that was cut -/
theorem hd_take {r : List Nat} {m : Nat} (h9 : 9 ≤ m) : hdN (r.take m) = hdN r ∧ hdOk (r.take m) = hdOk r := by
  have e1 : ((r.take m).drop 1).take 4 = (r.drop 1).take 4 := by rw [List.drop_take, List.take_take, Nat.min_eq_left (by omega)]
  have e2 : (r.take m).take 9 = r.take 9 := by rw [List.take_take, Nat.min_eq_left (by omega)]
  have e3 : hdN (r.take m) = hdN r := by unfold hdN; rw [e1]
  exact ⟨e3, by unfold hdOk; rw [e3, e2]⟩
theorem torn_rec {num : Nat} {ps : List (List Nat)} (h : Trn num ps) {m : Nat} (h0 : 0 < m) (hm : m < (recB num ps).length) (f : Nat) (R : List (List Nat)) (last : Nat) : goB (f + 1) ((recB num ps).take m) R last = (R, last, true, 0) := by
  have hb := h.body
  have hl := recB_len num ps
  have hlen : ((recB num ps).take m).length = m := by rw [List.length_take]; omega
  rw [goB, if_neg (by omega)]
  by_cases h9 : m < 9
  · rw [if_pos (by omega)]
  · obtain ⟨e1, e2⟩ := hd_take (r := recB num ps) (m := m) (by omega)
    have e3 := rec_hdN num ps hb.2 []
    have e4 := rec_hdOk h []
    rw [List.append_nil] at e3 e4
    rw [if_neg (by omega), if_neg (by rw [e2, e4]; simp), if_pos (by rw [e1, e3]; omega)]
theorem recs_app : ∀ (a b : List (List (List Nat))) (n : Nat), recsOf n (a ++ b) = recsOf n a ++ recsOf (n + a.length) b
  | [], b, n => by simp [recsOf]
  | t :: a, b, n => by
    show recB n t :: recsOf (n + 1) (a ++ b) = _
    rw [recs_app a b (n + 1)]
    show _ = (recB n t :: recsOf (n + 1) a) ++ _
    rw [List.cons_append, show n + (t :: a).length = n + 1 + a.length by simp; omega]
theorem trns_app : ∀ {a b : List (List (List Nat))} {n : Nat}, Trns n (a ++ b) → Trns n a ∧ Trns (n + a.length) b
  | [], b, n, h => ⟨True.intro, by simpa using h⟩
  | t :: a, b, n, h => by
    obtain ⟨h1, h2⟩ := trns_app (a := a) (b := b) (n := n + 1) h.2
    exact ⟨⟨h.1, h1⟩, by rw [show n + (t :: a).length = n + 1 + a.length by simp; omega]; exact h2⟩
/-- Where the j-th record ends. -/
def endOf (l : List (List (List Nat))) (j : Nat) : Nat := (recsOf 1 (l.take j)).flatten.length
theorem endOf_zero (l : List (List (List Nat))) : endOf l 0 = 0 := by simp [endOf, recsOf]
theorem endOf_succ {l : List (List (List Nat))} {j : Nat} {t : List (List Nat)} (h : l[j]? = some t) : endOf l (j + 1) = endOf l j + (recB (1 + j) t).length := by
  have hj : j < l.length := (List.getElem?_eq_some_iff.1 h).1
  unfold endOf
  rw [List.take_add_one, h, recs_app, List.flatten_append, List.length_append, List.length_take, Nat.min_eq_left (by omega)]
  simp [recsOf]
theorem endOf_all (l : List (List (List Nat))) {j : Nat} (h : l.length ≤ j) : endOf l j = (recsOf 1 l).flatten.length := by unfold endOf; rw [List.take_of_length_le h]
/-- What is found where the records of l were cut at ct. -/
theorem cut_found {l : List (List (List Nat))} (hl : Trns 1 l) {ct k : Nat} (hk : k ≤ l.length) (h1 : endOf l k ≤ ct) (h2 : k = l.length ∨ ct < endOf l (k + 1)) (hct : ct ≤ (recsOf 1 l).flatten.length) :
    (St.laid 131072 [(jx, (recsOf 1 l).flatten.take ct)]).found jx = (recsOf 1 (l.take k), if l.take k = [] then 0 else 1 + (l.take k).length - 1, decide (endOf l k < ct), 0) ∧ ∃ rest, (recsOf 1 l).flatten.take ct = (recsOf 1 (l.take k)).flatten ++ rest := by
  have hsp : l = l.take k ++ l.drop k := (List.take_append_drop k l).symm
  have hX : (recsOf 1 l).flatten = (recsOf 1 (l.take k)).flatten ++ (recsOf (1 + k) (l.drop k)).flatten := by
    conv => lhs; rw [hsp]
    rw [recs_app, List.flatten_append, List.length_take, Nat.min_eq_left hk]
  have htr : Trns 1 (l.take k) := (trns_app (a := l.take k) (b := l.drop k) (by rw [← hsp]; exact hl)).1
  have htr2 : Trns (1 + k) (l.drop k) := by
    have := (trns_app (a := l.take k) (b := l.drop k) (by rw [← hsp]; exact hl)).2
    rwa [List.length_take, Nat.min_eq_left hk] at this
  have hA : (recsOf 1 (l.take k)).flatten.length = endOf l k := rfl
  have hlk : (l.take k).length = k := by rw [List.length_take, Nat.min_eq_left hk]
  have hkp := recs_pos htr
  rw [hlk] at hkp
  have htk : (recsOf 1 l).flatten.take ct = (recsOf 1 (l.take k)).flatten ++ (recsOf (1 + k) (l.drop k)).flatten.take (ct - endOf l k) := by
    rw [hX, List.take_append, hA, List.take_of_length_le (by rw [hA]; exact h1)]
  refine ⟨?_, _, htk⟩
  unfold St.found
  rw [(one_bytes _).1, htk]
  obtain ⟨m, hm⟩ : ∃ m, ct - endOf l k = m := ⟨_, rfl⟩
  rw [hm]
  have hf : ∀ rest : List Nat, ((recsOf 1 (l.take k)).flatten ++ rest).length + 1 = (endOf l k - k + rest.length) + 1 + (l.take k).length := fun rest => by
    rw [List.length_append, hA, hlk]; omega
  rw [hf, goB_recs (l.take k) 1 _ _ [] 0 htr (Or.inl rfl), List.nil_append]
  by_cases h0 : m = 0
  · have hr0 : (recsOf (1 + k) (l.drop k)).flatten.take m = [] := by rw [h0]; simp
    rw [hr0, goB, if_pos List.length_nil, show decide (endOf l k < ct) = false by simp; omega]
  · have hlt : k < l.length := by
      rcases h2 with e | e
      · exfalso
        have := endOf_all l (j := k) (by omega)
        omega
      · rcases Nat.lt_or_ge k l.length with h | h
        · exact h
        · have e1 := endOf_all l h
          have e2 := endOf_all l (j := k + 1) (by omega)
          omega
    obtain ⟨t, ht⟩ : ∃ t, l[k]? = some t := ⟨_, List.getElem?_eq_getElem hlt⟩
    have hd : l.drop k = t :: l.drop (k + 1) := by rw [List.drop_eq_getElem?_toList_append, ht]; rfl
    have he := endOf_succ ht
    have hmr : m < (recB (1 + k) t).length := by
      rcases h2 with e | e
      · omega
      · omega
    rw [hd] at htr2 ⊢
    have hr0 : (recsOf (1 + k) (t :: l.drop (k + 1))).flatten.take m = (recB (1 + k) t).take m := by
      show ((recB (1 + k) t :: recsOf (1 + k + 1) (l.drop (k + 1))).flatten).take m = _
      rw [List.flatten_cons, List.take_append_of_le_length (by omega)]
    rw [hr0, torn_rec htr2.1 (by omega) hmr, show decide (endOf l k < ct) = true by simp; omega]
theorem one_vis (Y : List Nat) : ∀ y, (St.laid 131072 [(jx, Y)]).v y ≠ none → y = jx := fun y hy => by
  unfold St.v at hy
  cases hl : lookN (St.laid 131072 [(jx, Y)]).seen y with
  | none => rw [hl] at hy; exact absurd rfl hy
  | some i =>
    simp [St.laid, imgN, lookN] at hl
    exact hl.1.symm
theorem one_stl {Y : List Nat} (hs : ∀ x ∈ Y, x < 256) (hl : Y.length ≤ 131072) : Stl (St.laid 131072 [(jx, Y)]) 0 := by
  have hok := one_ok hl
  refine ⟨laid_inv (by omega) hok, laid_sz (by omega) hok (fun p hp => by simp at hp; subst hp; exact hs), ⟨rfl, rfl⟩, rfl, fun x => ?_⟩
  unfold St.u
  cases hk : lookN (St.laid 131072 [(jx, Y)]).seen x with
  | none => rfl
  | some i =>
    show ((St.laid 131072 [(jx, Y)]).file i).units = []
    simp [St.laid, imgN, lookN] at hk
    rw [← hk.2]
    rfl
/-- Cut of a file that is there. -/
theorem cut_view {S : St} (hv : Inv S) (ho : On S) {x : Nm} (hx : isNm x = true) {b : List Nat} (hb : S.v x = some b) {n : Nat} (hn : n ≤ b.length) : ∃ S', S.cutR x n = (0, S') ∧ One S S' ∧ (∀ y, S'.v y = if y = x then some (b.take n) else S.v y) ∧ (∀ y, y ≠ x → S'.u y = S.u y) ∧ S'.chg = S.chg ∧ S'.seen = S.seen := by
  obtain ⟨i, hl, hf⟩ := v_some hb
  have he : S.err x = 0 := by rw [err_view ho.off hx, if_neg (by rw [hb]; simp)]
  have hp := ho.power
  have hs := ho.stroked
  have hvs := hv.stroked
  refine ⟨S.stroked.turn i ((S.file i).cut n), ?_, ⟨⟨hs.off, hs.pw⟩, rfl, rfl, rfl, rfl, rfl⟩, fun y => ?_, fun y hy => ?_, rfl, rfl⟩
  · unfold St.cutR
    rw [if_neg (by omega), hl, hp]
    show (if (n : Int) < 0 ∨ ((S.file i).all.length : Int) < (n : Int) then (43, S) else (0, S.stroked.turn i ((S.file i).cut (n : Int).toNat))) = _
    rw [if_neg (by rw [hf]; omega), Int.toNat_natCast]
  · rw [turn_v hvs (x := x) hl, Fil.all_cut, hf]
    by_cases hy : y = x
    · rw [if_pos hy, if_pos hy]
    · rw [if_neg hy, if_neg hy]; rfl
  · rw [turn_u hvs (x := x) hl, if_neg hy]
    rfl
/-- The strokes behind a cut. -/
theorem run_add {S : St} {k : Nat} {J : Jr} (hv : Inv S) (hz : Sz S k) (on : On S) (_hchg : S.chg = []) (hun : ∀ y, y ≠ J.name → S.u y = []) (nm1 : isNm J.name = true) (r : List Nat) (hsm : ∀ y ∈ r, y < 256) (hrl : r.length ≤ 4194304) {b : List Nat} (hb : S.v J.name = some b) (hfull : S.stroked.full r.length = false) :
    ∃ S', runs S J [.app J.name r, .sync J.name, .names] = (0, S', J) ∧ Stl S' (k + 12582915) ∧ (∀ y, S'.v y = if y = J.name then some (b ++ r) else S.v y) ∧ S'.room = S.room ∧ S'.pFrom = S.pFrom := by
  rcases app_view hv on nm1 r (Or.inl (by rw [hb]; simp)) with ⟨hf, _⟩ | ⟨hf, S1, ha, one1, hv1, hu1, hc1⟩
  · rw [hfull] at hf; cases hf
  · have g1 := step_good hv hz J (.app J.name r) ⟨hsm, hrl⟩
    have e1 : ((Stk.app J.name r).run S J).2.1 = S1 := by simp [Stk.run, ha]
    rw [e1] at g1
    have hb1 : S1.v J.name = some (b ++ r) := by rw [hv1, if_pos rfl, hb]; rfl
    obtain ⟨S2, hs2, one2, hv2, hu2, hc2, hse2, w2⟩ := sync_view g1.inv one1.on nm1 hb1
    have g2 := step_good g1.inv g1.sz J (.sync J.name) True.intro
    have e2 : ((Stk.sync J.name).run S1 J).2.1 = S2 := by simp [Stk.run, hs2]
    rw [e2] at g2
    have hvw : ∀ y, S2.v y = if y = J.name then some (b ++ r) else S.v y := fun y => by rw [hv2, hv1, hb]; rfl
    have huw : ∀ y, S2.u y = [] := fun y => by
      rw [hu2]
      by_cases hy : y = J.name
      · rw [if_pos hy]
      · rw [if_neg hy, hu1 y hy, hun y hy]
    obtain ⟨S3, hs3, one3, hv3, hu3, hc3, _, w3⟩ := names_view one2.on
    have g3 := step_good g2.inv g2.sz J .names True.intro
    have e3 : (Stk.names.run S2 J).2.1 = S3 := by simp [Stk.run, hs3]
    rw [e3] at g3
    refine ⟨S3, ?_, ⟨g3.inv, g3.sz.mono (by omega), one3.on, hc3, fun y => by rw [hu3, huw]⟩, fun y => by rw [hv3, hvw], (one3.room.trans one2.room).trans one1.room, (one3.pf.trans one2.pf).trans one1.pf⟩
    rw [runs_app _ ha, if_pos rfl, runs_sync _ hs2, if_pos rfl, runs_names _ hs3, if_pos rfl]
    rfl
end Go.Proofs.YtlmfohcdaahojaaGreatDoor
