import Derived.Test.YtbacgkfmnccheaaDoorFold
import Derived.Lib.ValidLaws
import Derived.Lib.TrimUEq
namespace Go.Proofs.YtbacgkfmnccheaaDoor
open Go.RowKit

/-- The text of these bytes. -/
def str (l : List Nat) : ByteArray := ⟨(l.map UInt8.ofNat).toArray⟩
theorem nums_str (l : List Nat) (h : ∀ x ∈ l, x < 256) : nums (str l) = l := by
  simp only [nums, str, List.map_map]
  conv => rhs; rw [← List.map_id l]
  apply List.map_congr_left
  intro x hx
  have := h x hx
  simp; omega
theorem str_nums (s : ByteArray) : str (nums s) = s := nums_inj (nums_str _ (nums_lt s))
theorem str_of {t : ByteArray} {l : List Nat} (h : nums t = l) : t = str l := by rw [← h, str_nums]

theorem fold_str (w : World) (hT : Tabs w) (s : ByteArray) (hs : s.size ≤ 140737488355328) :
    Calls Tryd.prog 15 #[.string s] w fun e w' => e = .returned (.string (str (foldR (nums s)))) ∧ Below w.heap.size w w' :=
  (fold_any w hT s hs).mono fun e w' ⟨⟨t, he, ht⟩, hb⟩ => ⟨by rw [he, str_of ht], hb⟩

theorem nums_fold (s : ByteArray) : nums (str (foldR (nums s))) = foldR (nums s) := nums_str _ (fold_small _ (nums_lt s))
theorem fold_size (s : ByteArray) : (str (foldR (nums s))).size = s.size := by rw [← nums_len, nums_fold, foldR_len, nums_len]

theorem fb_fb (p q x : Nat) : fb (fb q p) (fb p x) = fb p x := by
  unfold fb
  by_cases h : (65 ≤ x ∧ x ≤ 90) ∨ (p = 195 ∧ 128 ≤ x ∧ x ≤ 158 ∧ x ≠ 151)
  · rw [if_pos h, if_neg (by omega)]
  · rw [if_neg h]
    by_cases h2 : (65 ≤ p ∧ p ≤ 90) ∨ (q = 195 ∧ 128 ≤ p ∧ p ≤ 158 ∧ p ≠ 151)
    · rw [if_pos h2, if_neg (by omega)]
    · rw [if_neg h2, if_neg h]

theorem foldF_idem : ∀ (l : List Nat) (p q : Nat), foldF (fb q p) (foldF p l) = foldF p l
  | [], _, _ => rfl
  | x :: l, p, q => by
    simp only [foldF]
    rw [fb_fb, foldF_idem l x p]
theorem fold_idem (l : List Nat) : foldR (foldR l) = foldR l := by
  have := foldF_idem l 0 0
  rwa [show fb 0 0 = 0 from rfl] at this

/-- Letters made capital. -/
def ub (x : Nat) : Nat := if 97 ≤ x ∧ x ≤ 122 then x - 32 else x
theorem fb_ub (p x : Nat) : fb (ub p) (ub x) = fb p x := by
  unfold ub fb
  by_cases h : 97 ≤ x ∧ x ≤ 122
  · rw [if_pos h, if_pos (by omega), if_neg (by omega)]; omega
  · rw [if_neg h]
    by_cases h2 : 97 ≤ p ∧ p ≤ 122
    · rw [if_pos h2]
      by_cases h3 : (65 ≤ x ∧ x ≤ 90) ∨ (p = 195 ∧ 128 ≤ x ∧ x ≤ 158 ∧ x ≠ 151)
      · rw [if_pos h3, if_pos (by omega)]
      · rw [if_neg h3, if_neg (by omega)]
    · rw [if_neg h2]
theorem foldF_ub : ∀ (l : List Nat) (p : Nat), foldF (ub p) (l.map ub) = foldF p l
  | [], _ => rfl
  | x :: l, p => by simp only [List.map_cons, foldF, fb_ub, foldF_ub l x]
theorem fold_ub (l : List Nat) : foldR (l.map ub) = foldR l := foldF_ub l 0

theorem nam_fb (p x : Nat) : isNam (fb p x) = isNam x := by
  unfold fb
  split
  · rename_i h
    rcases h with h | h
    · have h1 : isNam x = true := by simp [isNam]; omega
      have h2 : isNam (x + 32) = true := by simp [isNam]; omega
      rw [h1, h2]
    · rw [nam_high x (by omega), nam_high (x + 32) (by omega)]
  · rfl
theorem foldF_nam : ∀ (l : List Nat) (p : Nat), (foldF p l).all isNam = l.all isNam
  | [], _ => rfl
  | x :: l, p => by simp only [foldF, List.all_cons, nam_fb, foldF_nam l x]

/-- A byte's class stays. -/
theorem fb_class (p x : Nat) : (fb p x < 128 ↔ x < 128) ∧ (fb p x / 64 = 2 ↔ x / 64 = 2) ∧ (¬ x < 128 → x / 64 ≠ 2 → fb p x = x) ∧ (p ≠ 195 → ¬ x < 128 → fb p x = x) := by
  unfold fb
  split
  · rename_i h
    rcases h with h | h <;> refine ⟨by omega, by omega, by omega, by omega⟩
  · exact ⟨Iff.rfl, Iff.rfl, fun _ _ => rfl, fun _ _ => rfl⟩

theorem decode_fold (n p b0 b1 b2 b3 c0 c1 c2 c3 : Nat) (hb0 : b0 < 256) (hf : ¬ (p = 195 ∧ 128 ≤ b0 ∧ b0 < 192)) (h0 : c0 = fb p b0) (h1 : 1 < n → c1 = fb b0 b1) (h2 : 2 < n → c2 = fb b1 b2) (h3 : 3 < n → c3 = fb b2 b3) :
    (Lib.decodeN n c0 c1 c2 c3).2 = (Lib.decodeN n b0 b1 b2 b3).2 ∧ (((Lib.decodeN n c0 c1 c2 c3).1 = 65533 ∧ (Lib.decodeN n c0 c1 c2 c3).2 = 1) ↔ ((Lib.decodeN n b0 b1 b2 b3).1 = 65533 ∧ (Lib.decodeN n b0 b1 b2 b3).2 = 1)) := by
  by_cases q1 : b0 < 128
  · have hc : c0 < 128 := by rw [h0]; exact (fb_class p b0).1.2 q1
    unfold Lib.decodeN
    rw [if_pos q1, if_pos hc]
    refine ⟨rfl, ?_⟩
    simp only
    omega
  · have hc : c0 = b0 := by
      rw [h0]
      unfold fb
      rw [if_neg (by omega)]
    subst hc
    clear h0
    by_cases h195 : c0 = 195
    · subst h195
      unfold Lib.decodeN
      by_cases q2 : 1 < n ∧ b1 / 64 = 2
      · have e1 := h1 q2.1
        have k1 := (fb_class 195 b1).2.1.2 q2.2
        rw [← e1] at k1
        rw [if_neg (by omega), if_pos (by omega), if_pos (by omega), if_neg (by omega), if_pos (by omega), if_pos (by omega)]
        refine ⟨rfl, ?_⟩
        simp
      · have k1 : ¬ (1 < n ∧ c1 / 64 = 2) := by
          rintro ⟨k, k'⟩
          rw [h1 k] at k'
          exact q2 ⟨k, (fb_class 195 b1).2.1.1 k'⟩
        rw [if_neg (by omega), if_neg (by omega), if_neg (by omega), if_neg (by omega), if_neg (by omega), if_neg (by omega), if_neg (by omega), if_neg (by omega)]
        exact ⟨rfl, Iff.rfl⟩
    · -- what follows another lead byte stays, as far as it is looked at
      have e1 : 1 < n → (c1 / 64 = 2 ↔ b1 / 64 = 2) ∧ (b1 / 64 = 2 → c1 = b1) := fun hn => by
        rw [h1 hn]
        exact ⟨(fb_class c0 b1).2.1, fun hk => (fb_class c0 b1).2.2.2 h195 (by omega)⟩
      have e2 : 2 < n → b1 / 64 = 2 → (c2 / 64 = 2 ↔ b2 / 64 = 2) ∧ (b2 / 64 = 2 → c2 = b2) := fun hn hk => by
        rw [h2 hn]
        exact ⟨(fb_class b1 b2).2.1, fun hk2 => (fb_class b1 b2).2.2.2 (by omega) (by omega)⟩
      have e3 : 3 < n → b2 / 64 = 2 → (c3 / 64 = 2 ↔ b3 / 64 = 2) ∧ (b3 / 64 = 2 → c3 = b3) := fun hn hk => by
        rw [h3 hn]
        exact ⟨(fb_class b2 b3).2.1, fun hk2 => (fb_class b2 b3).2.2.2 (by omega) (by omega)⟩
      have key : Lib.decodeN n c0 c1 c2 c3 = Lib.decodeN n c0 b1 b2 b3 := by
        by_cases k1 : 1 < n ∧ b1 / 64 = 2
        · obtain ⟨a1, a2⟩ := e1 k1.1
          have a3 := a2 k1.2
          subst a3
          by_cases k2 : 2 < n ∧ b2 / 64 = 2
          · obtain ⟨a4, a5⟩ := e2 k2.1 k1.2
            have a6 := a5 k2.2
            subst a6
            by_cases k3 : 3 < n ∧ b3 / 64 = 2
            · obtain ⟨a7, a8⟩ := e3 k3.1 k2.2
              rw [a8 k3.2]
            · have k3' : ¬ (3 < n ∧ c3 / 64 = 2) := fun hh => k3 ⟨hh.1, ((e3 hh.1 k2.2).1).1 hh.2⟩
              unfold Lib.decodeN
              simp only [k3, k3', and_false, if_false]
          · have k2' : ¬ (2 < n ∧ c2 / 64 = 2) := fun hh => k2 ⟨hh.1, ((e2 hh.1 k1.2).1).1 hh.2⟩
            unfold Lib.decodeN
            simp only [k2, k2', and_false, false_and, if_false]
        · have k1' : ¬ (1 < n ∧ c1 / 64 = 2) := fun hh => k1 ⟨hh.1, ((e1 hh.1).1).1 hh.2⟩
          unfold Lib.decodeN
          simp only [k1, k1', and_false, false_and, if_false]
      rw [key]
      exact ⟨rfl, Iff.rfl⟩

theorem good_fold (s t : ByteArray) (ht : nums t = foldR (nums s)) : ∀ (m pos : Nat) (f : List Nat), s.size - pos ≤ m → FoInv (nums s) pos f → Lib.validD (t.data.toList.drop pos) = Lib.validD (s.data.toList.drop pos)
  | m, pos, f, hm, hf => by
    have hsz : t.size = s.size := by rw [← nums_len, ht, foldR_len, nums_len]
    have hl : s.data.toList.length = s.size := rfl
    have hl2 : t.data.toList.length = t.size := rfl
    by_cases hp : pos < s.size
    · match m with
      | 0 => omega
      | m + 1 =>
        have hne : s.data.toList.drop pos ≠ [] := by intro h; have := congrArg List.length h; rw [List.length_drop, List.length_nil] at this; omega
        have hne2 : t.data.toList.drop pos ≠ [] := by intro h; have := congrArg List.length h; rw [List.length_drop, List.length_nil] at this; omega
        have hd : (Utf8.decode t pos).2 = (Utf8.decode s pos).2 ∧ (((Utf8.decode t pos).1 = 65533 ∧ (Utf8.decode t pos).2 = 1) ↔ ((Utf8.decode s pos).1 = 65533 ∧ (Utf8.decode s pos).2 = 1)) := by
          rw [Lib.decode_at, Lib.decode_at, hsz]
          have hk : ∀ k, k < s.size → (t.get! k).toNat = fb (prv (nums s) k) ((s.get! k).toNat) := fun k hk => by
            rw [← nums_getD t k (by omega), ht, foldR_at _ _ (by rw [nums_len]; exact hk), nums_getD s k hk]
          refine decode_fold (s.size - pos) (prv (nums s) pos) _ _ _ _ _ _ _ _ (s.get! pos).toNat_lt ?_ (hk pos hp) ?_ ?_ ?_
          · rintro ⟨h1, h2, h3⟩
            refine hf.fresh ⟨by rw [nums_len]; exact hp, h1, ?_, ?_⟩
            · rw [nums_getD s pos hp]; exact h2
            · rw [nums_getD s pos hp]; exact h3
          · intro h; rw [hk _ (by omega), prv_succ, nums_getD s _ (by omega)]
          · intro h; rw [hk _ (by omega), show pos + 2 = (pos + 1) + 1 from rfl, prv_succ, nums_getD s _ (by omega)]
          · intro h; rw [hk _ (by omega), show pos + 3 = (pos + 2) + 1 from rfl, prv_succ, nums_getD s _ (by omega)]
        rw [Lib.validD_step _ hne, Lib.validD_step _ hne2, Lib.decodeL_drop, Lib.decodeL_drop, List.drop_drop, List.drop_drop, hd.1]
        by_cases hbad : (Utf8.decode s pos).1 = 65533 ∧ (Utf8.decode s pos).2 = 1
        · have hb2 := hd.2.2 hbad
          rw [hd.1] at hb2
          rw [if_pos hbad, if_pos hb2]
        · have hb2 : ¬ ((Utf8.decode t pos).1 = 65533 ∧ (Utf8.decode s pos).2 = 1) := fun h => hbad (hd.2.1 ⟨h.1, by rw [hd.1]; exact h.2⟩)
          rw [if_neg hbad, if_neg hb2]
          have hdec := dec_text s pos hp
          have hpl : pos < (nums s).length := by rw [nums_len]; exact hp
          have hw1 := Lib.width_pos s pos
          obtain ⟨f2, hf2⟩ : ∃ f2, FoInv (nums s) (pos + (Utf8.decode s pos).2) f2 := by
            by_cases hc : isCap (Utf8.decode s pos).1 = true
            · by_cases h128 : (Utf8.decode s pos).1 < 128
              · obtain ⟨e, _, h⟩ := hf.step_one hpl hdec hc h128
                rw [e]; exact ⟨_, h⟩
              · obtain ⟨e, _, _, _, _, _, h⟩ := hf.step_two hpl hdec hc h128
                rw [e]; exact ⟨_, h⟩
            · exact ⟨f, hf.step_no hpl hdec (by simpa using hc)⟩
          exact good_fold s t ht m _ f2 (by omega) hf2
    · have e1 : s.data.toList.drop pos = [] := List.drop_eq_nil_of_le (by omega)
      have e2 : t.data.toList.drop pos = [] := List.drop_eq_nil_of_le (by omega)
      rw [e1, e2]

theorem chk_fold (s t : ByteArray) (ht : nums t = foldR (nums s)) : chkR t = chkR s := by
  have hg : good t = good s := by
    have := good_fold s t ht s.size 0 _ (by omega) (FoInv.start _)
    simpa [good] using this
  have hsz : t.size = s.size := by rw [← nums_len, ht, foldR_len, nums_len]
  have hn : (nums t).all isNam = (nums s).all isNam := by rw [ht]; exact foldF_nam _ _
  unfold chkR
  rw [hg, hsz, hn]

end Go.Proofs.YtbacgkfmnccheaaDoor
