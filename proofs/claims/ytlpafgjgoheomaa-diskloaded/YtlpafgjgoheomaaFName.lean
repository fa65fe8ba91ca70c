import Derived.Test.YtlpafgjgoheomaaNames2
namespace Go.Proofs.Ytlpafgjgoheomaa
open Go.RowKit

/-- What a file name may hold, and be. -/
def fby (c : Nat) : Bool := c == 46 || c == 45 || c == 95 || (97 ≤ c && c ≤ 122) || (48 ≤ c && c ≤ 57)
def isNm (x : Nm) : Bool := decide (1 ≤ x.length) && decide (x.length ≤ 64) && x.all fun c => fby c.toNat

set_option maxRecDepth 100000 in
set_option maxHeartbeats 400000 in
theorem fileByte_any (w : World) (c : Nat) (hc : c < 256) : Calls Try.prog 68 #[.int .u8 (c : Int)] w fun e w' => e = .returned (.bool (fby c)) ∧ w' = w := by
  by_cases h1 : c = 46
  · subst h1
    go_enter Try.func68, Try.ntmps68
    go_wp2
    go_ret
    exact ⟨rfl, rfl⟩
  by_cases h2 : c = 45
  · subst h2
    go_enter Try.func68, Try.ntmps68
    go_wp2
    go_ret
    exact ⟨rfl, rfl⟩
  by_cases h3 : c = 95
  · subst h3
    go_enter Try.func68, Try.ntmps68
    go_wp2
    go_ret
    exact ⟨rfl, rfl⟩
  have e1 : ¬ (c : Int) = 46 := by omega
  have e2 : ¬ (c : Int) = 45 := by omega
  have e3 : ¬ (c : Int) = 95 := by omega
  have hf : fby c = ((97 ≤ c && c ≤ 122) || (48 ≤ c && c ≤ 57)) := by
    have i1 : (c == 46) = false := by simpa using h1
    have i2 : (c == 45) = false := by simpa using h2
    have i3 : (c == 95) = false := by simpa using h3
    unfold fby
    rw [i1, i2, i3]; simp
  by_cases a1 : 97 ≤ c
  · have b1 : (97 : Int) ≤ (c : Int) := by omega
    by_cases a2 : c ≤ 122
    · have b2 : (c : Int) ≤ 122 := by omega
      have hr : fby c = true := by rw [hf]; simp [a1, a2]
      rw [hr]
      clear hf hr h1 h2 h3 a1 a2
      go_enter Try.func68, Try.ntmps68
      go_wp2
      go_ret
      exact ⟨rfl, rfl⟩
    · have b2 : ¬ (c : Int) ≤ 122 := by omega
      have b3 : (48 : Int) ≤ (c : Int) := by omega
      have b4 : ¬ (c : Int) ≤ 57 := by omega
      have hr : fby c = false := by rw [hf]; simp; omega
      rw [hr]
      clear hf hr h1 h2 h3 a1 a2
      go_enter Try.func68, Try.ntmps68
      go_wp2
      go_ret
      exact ⟨rfl, rfl⟩
  · have b1 : ¬ (97 : Int) ≤ (c : Int) := by omega
    by_cases a2 : 48 ≤ c
    · have b2 : (48 : Int) ≤ (c : Int) := by omega
      by_cases a3 : c ≤ 57
      · have b3 : (c : Int) ≤ 57 := by omega
        have hr : fby c = true := by rw [hf]; simp [a2, a3]
        rw [hr]
        clear hf hr h1 h2 h3 a1 a2 a3
        go_enter Try.func68, Try.ntmps68
        go_wp2
        go_ret
        exact ⟨rfl, rfl⟩
      · have b3 : ¬ (c : Int) ≤ 57 := by omega
        have hr : fby c = false := by rw [hf]; simp; omega
        rw [hr]
        clear hf hr h1 h2 h3 a1 a2 a3
        go_enter Try.func68, Try.ntmps68
        go_wp2
        go_ret
        exact ⟨rfl, rfl⟩
    · have b2 : ¬ (48 : Int) ≤ (c : Int) := by omega
      have hr : fby c = false := by rw [hf]; simp; omega
      rw [hr]
      clear hf hr h1 h2 h3 a1 a2
      go_enter Try.func68, Try.ntmps68
      go_wp2
      go_ret
      exact ⟨rfl, rfl⟩

theorem get_at (s : ByteArray) (k : Nat) (h : k < s.size) : s.data.toList[k]? = some (s[k]'h) := by
  have h' : k < s.data.toList.length := h
  rw [List.getElem?_eq_getElem h']
  rfl

set_option maxRecDepth 100000 in
set_option maxHeartbeats 400000 in
theorem fileName_s (w : World) (s : ByteArray) (hs : s.size ≤ 140737488355328) : Calls Try.prog 56 #[.string s] w fun e w' => e = .returned (.bool (isNm s.data.toList)) ∧ w' = w := by
  have hsz : s.data.toList.length = s.size := rfl
  by_cases h0 : s.size < 1
  · have h0' : (s.size : Int) < 1 := by omega
    have hr : isNm s.data.toList = false := by unfold isNm; rw [hsz]; simp; omega
    rw [hr]
    clear hr hsz h0
    go_enter Try.func56, Try.ntmps56
    go_wp2
    go_ret
    exact ⟨rfl, rfl⟩
  by_cases h1 : 64 < s.size
  · have h0' : ¬ (s.size : Int) < 1 := by omega
    have h1' : (64 : Int) < (s.size : Int) := by omega
    have hr : isNm s.data.toList = false := by unfold isNm; rw [hsz]; simp; omega
    rw [hr]
    clear hr hsz h0 h1
    go_enter Try.func56, Try.ntmps56
    go_wp2
    go_ret
    exact ⟨rfl, rfl⟩
  have h0' : ¬ (s.size : Int) < 1 := by omega
  have h1' : ¬ (64 : Int) < (s.size : Int) := by omega
  have HR : Hid (isNm s.data.toList = s.data.toList.all fun c => fby c.toNat) := by
    show _ = _
    unfold isNm
    have a1 : decide (1 ≤ s.data.toList.length) = true := by rw [hsz]; simp; omega
    have a2 : decide (s.data.toList.length ≤ 64) = true := by rw [hsz]; simp; omega
    rw [a1, a2]; simp
  obtain ⟨n, hn⟩ : ∃ n, s.size = n := ⟨_, rfl⟩
  have HN := hide hn
  have hn64 : n ≤ 64 := by omega
  clear hsz h0 h1 hs
  rw [HR.out]
  rw [hn] at h0' h1'
  go_enter Try.func56, Try.ntmps56
  go_wp2
  clear hn
  go_loopw [14] (fun i wr => ∃ k : Nat, k ≤ n ∧ i = .int .i64 k ∧ Hid ((s.data.toList.take k).all (fun c => fby c.toNat) = true) ∧ wr = w) (fun i _ => n - (intOf i).toNat)
  case atStart => exact ⟨0, Nat.zero_le _, rfl, rfl, rfl⟩
  case round =>
    obtain ⟨k, hk, rfl, HA, rfl⟩ := hrel
    by_cases hlt : k < n
    · have hlt' : (k : Int) < (n : Int) := by omega
      have hks : k < s.size := by rw [HN.out]; exact hlt
      have hget := get_at s k hks
      have HG := hide hget
      have HS := hide (take_snoc' s.data.toList k _ hget)
      have hsz : (k : Int) < (s.size : Int) := by rw [HN.out]; exact hlt'
      have hnn : (0 : Int) ≤ (k : Int) := by omega
      have hc := (s[k]'hks).toNat_lt
      clear hget
      have HK := hide (fun w => fileByte_any w (s[k]'hks).toNat hc)
      generalize hgc : (s[k]'hks) = c at *
      by_cases hb : fby c.toNat = true
      · rw [hb] at HK
        have HA2 : Hid ((s.data.toList.take (k + 1)).all (fun c => fby c.toNat) = true) := hide (by rw [HS.out, List.all_append, HA.out]; simp [hb])
        clear HA HS HG
        go_wp2_with fail
        refine (HK.out _).mono ?_
        rintro e w2 ⟨rfl, rfl⟩
        go_wp2
        go_roundw
        case rel => exact ⟨k + 1, by omega, by go_num, HA2, by first | rfl | trivial⟩
        case measure => simp [intOf]; omega
      · have hb' : fby c.toNat = false := by simpa using hb
        rw [hb'] at HK
        have HRes : Hid ((s.data.toList.all fun c => fby c.toNat) = false) := by
          show _ = _
          rw [List.all_eq_false]
          exact ⟨c, List.mem_of_getElem? HG.out, by simp [hb']⟩
        go_wp2_with fail
        refine (HK.out _).mono ?_
        rintro e w2 ⟨rfl, rfl⟩
        go_wp2
        go_ret
        exact ⟨congrArg (fun b => Ending.returned (Value.bool b)) HRes.out.symm, rfl⟩
    · obtain rfl : k = n := by omega
      have HRes : Hid ((s.data.toList.all fun c => fby c.toNat) = true) := by
        show _ = _
        have := HA.out
        rwa [List.take_of_length_le (by show s.size ≤ k; rw [HN.out]; exact Nat.le_refl _)] at this
      go_wp2
      go_ret
      exact ⟨congrArg (fun b => Ending.returned (Value.bool b)) HRes.out.symm, rfl⟩

theorem fileName_any (w : World) (x : Nm) (hs : x.length ≤ 140737488355328) : Calls Try.prog 56 #[.string ⟨x.toArray⟩] w fun e w' => e = .returned (.bool (isNm x)) ∧ w' = w := by
  have := fileName_s w ⟨x.toArray⟩ (by simpa [ByteArray.size] using hs)
  simpa using this

end Go.Proofs.Ytlpafgjgoheomaa
