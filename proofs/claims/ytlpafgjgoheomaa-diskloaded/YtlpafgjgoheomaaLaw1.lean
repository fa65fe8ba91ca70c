import Derived.Test.YtlpafgjgoheomaaSeen
namespace Go.Proofs.Ytlpafgjgoheomaa
open Go.RowKit Go.Maps

set_option maxRecDepth 100000 in
theorem num_any (w : World) (e : Nat) : Calls Try.prog 13 #[.int .i64 (e : Int)] w fun r w' => r = .returned (.int .i64 (e : Int)) ∧ w' = w := by
  go_enter Try.func13, Try.ntmps13
  go_wp2
  go_ret
  exact ⟨rfl, rfl⟩

theorem tmod_twice (n m : Int) (hm : 0 < m) : (n.tmod m + m).tmod m = n % m := by
  have h1 := Int.tmod_lt_of_pos n hm
  have h2 : -m < n.tmod m := Int.lt_tmod_of_pos n hm
  rw [Int.tmod_eq_emod_of_nonneg (by omega)]
  rw [Int.add_emod_right]
  rw [Int.tmod_def, Int.sub_mul_emod_self_left]

set_option maxRecDepth 100000 in
theorem within_any (w : World) (n : Int) (m : Nat) (hm : 0 < m) (hm2 : m ≤ 1000000) :
    Calls Try.prog 29 #[.int .i64 n, .int .i64 (m : Int)] w fun r w' => r = .returned (.int .i64 ((n % (m : Int)).toNat : Int)) ∧ w' = w := by
  have h1 := Int.tmod_lt_of_pos n (show (0 : Int) < (m : Int) by omega)
  have h2 : -(m : Int) < n.tmod m := Int.lt_tmod_of_pos n (by omega)
  have h3 := tmod_twice n m (by omega)
  have h4 := Int.emod_nonneg n (show (m : Int) ≠ 0 by omega)
  have h5 := Int.emod_lt_of_pos n (show (0 : Int) < (m : Int) by omega)
  have h6 : (((n % (m : Int)).toNat : Nat) : Int) = n % (m : Int) := by omega
  rw [h6]
  generalize n % (m : Int) = r at *
  have hm0 : ¬ (m : Int) = 0 := by omega
  go_enter Try.func29, Try.ntmps29
  go_wp2
  go_ret
  exact ⟨rfl, rfl⟩

def imgFind (img : Image) (x : Nm) : Option (List Nat) := (img.find? fun p => p.1 == x).map (·.2)
theorem imgFind_some {img : Image} {x : Nm} {k : Nat} {p : Nm × List Nat} (hp : img[k]? = some p) (hx : p.1 = x) (hb : ∀ q ∈ img.take k, q.1 ≠ x) : imgFind img x = some p.2 := by
  have e : img = img.take k ++ (p :: img.drop (k + 1)) := by
    have h1 := (List.getElem?_eq_some_iff.1 hp)
    rw [← h1.2, List.getElem_cons_drop, List.take_append_drop]
  unfold imgFind
  rw [e, List.find?_append]
  have : (img.take k).find? (fun q => q.1 == x) = none := by
    rw [List.find?_eq_none]
    intro q hq
    simpa using hb q hq
  rw [this, List.find?_cons]
  simp [hx]
theorem imgFind_none {img : Image} {x : Nm} (hb : ∀ q ∈ img, q.1 ≠ x) : imgFind img x = none := by
  unfold imgFind
  rw [List.find?_eq_none.2 (fun q hq => by simpa using hb q hq)]; rfl
/-- What 'find' tells. -/
def tells (r : Option (List Nat)) : List Nat × Bool := match r with | some b => (b, true) | none => ([], false)

set_option maxRecDepth 100000 in
set_option maxHeartbeats 400000 in
theorem lfind_any (w : World) (K : Knd) (v : Value) (img : Image) (h : Im w K v img) (hn : img.length ≤ 1099511627776) (x : Nm) :
    Calls Try.prog 27 #[v, .string ⟨x.toArray⟩] w fun e w' => ∃ a c, e = .returned (.tuple #[.slice a (tells (imgFind img x)).1.length c, .bool (tells (imgFind img x)).2]) ∧ Rk w K (0, 0) 5 1 (.slice a (tells (imgFind img x)).1.length c) (tells (imgFind img x)).1.length (vals (tells (imgFind img x)).1) ∧ w' = w := by
  obtain ⟨a, c, rfl, _, _⟩ := h.form
  have HI := hide h
  obtain ⟨n, hnl⟩ : ∃ n, img.length = n := ⟨_, rfl⟩
  have HN := hide hnl
  rw [hnl] at hn HI ⊢
  clear h hnl
  go_enter Try.func27, Try.ntmps27
  go_wp2
  go_loopw [6] (fun i wr => ∃ k : Nat, k ≤ n ∧ i = .int .i64 k ∧ wr = w ∧ Hid (∀ q ∈ img.take k, q.1 ≠ x)) (fun i _ => n - (intOf i).toNat)
  case atStart => exact ⟨0, Nat.zero_le _, rfl, rfl, fun q hq => by simp at hq⟩
  case round =>
    obtain ⟨k, hk, rfl, rfl, HB⟩ := hrel
    by_cases hlt : k < n
    · obtain ⟨p, hp⟩ : ∃ p, img[k]? = some p := ⟨_, List.getElem?_eq_getElem (by rw [HN.out]; exact hlt)⟩
      obtain ⟨g1, p1, d1, rfl, l1, x1, y1, b1, r1⟩ := HI.out.at hp
      have HR := hide r1
      have HP := hide hp
      have HT := hide (take_snoc' img k p hp)
      have i1 : (0 : Int) ≤ (k : Int) := by omega
      have i2 : (k : Int) < (n : Int) := by omega
      clear hp b1 r1
      by_cases hx : p.1 = x
      · have HF := hide (imgFind_some HP.out hx HB.out)
        have hse : (p.1 == x) = true := by simpa using hx
        clear hx
        go_wp2
        go_ret2
        rw [HF.out]
        exact ⟨p1, d1, rfl, HR.out, rfl⟩
      · have hse : (p.1 == x) = false := by simpa using hx
        have HB2 : Hid (∀ q ∈ img.take (k + 1), q.1 ≠ x) := fun q hq => by
          rw [HT.out] at hq
          rcases List.mem_append.1 hq with e | e
          · exact HB.out q e
          · simp at e; subst e; exact hx
        clear hx
        go_wp2
        go_roundw
        case rel => exact ⟨k + 1, by omega, by go_num, by first | rfl | trivial, HB2⟩
        case measure => simp [intOf]; omega
    · obtain rfl : k = n := by omega
      have HF : Hid (imgFind img x = none) := imgFind_none (by
        have := HB.out
        rwa [List.take_of_length_le (by rw [HN.out]; exact Nat.le_refl _)] at this)
      go_wp2
      go_ret2
      rw [HF.out]
      exact ⟨none, 0, rfl, rk_nil _ _ _ _ _, rfl⟩

end Go.Proofs.Ytlpafgjgoheomaa
