import Derived.Test.YthgggjdefhgfiaaNNet
import Derived.Lib.SliceRun
import Derived.Deep.RegionLaw
namespace Go.Proofs.Ythgggjdefhgfiaa
open Go.RowKit

theorem block_set {w : World} {g i : Nat} {cs : Array Value} {t : TypeId} {fr : Nat × Nat} (h : w.heap[g]? = some (.cells cs t fr)) (v : Value) : (w.setCell ⟨g, i, none⟩ v).heap[g]? = some (.cells (cs.setIfInBounds i v) t fr) := by
  rw [setCell_eq_setRow w g i cs t fr v h]
  exact setRow_heap w g _ _ t _ h
theorem block_sets (g : Nat) (t : TypeId) (fr : Nat × Nat) : ∀ (vs : List Value) (o : Nat) (w : World) (cs : Array Value), w.heap[g]? = some (.cells cs t fr) → ∃ cs', (w.setCells g o vs).heap[g]? = some (.cells cs' t fr) ∧ cs'.size = cs.size ∧ ∀ j, j < cs.size → cs'[j]? = if o ≤ j ∧ j < o + vs.length then vs[j - o]? else cs[j]?
  | [], o, w, cs, h => ⟨cs, h, rfl, fun j _ => by rw [if_neg (by simp)]⟩
  | v :: vs, o, w, cs, h => by
    obtain ⟨cs', h1, h2, h3⟩ := block_sets g t fr vs (o + 1) (w.setCell ⟨g, o, none⟩ v) (cs.setIfInBounds o v) (block_set h v)
    refine ⟨cs', h1, by rw [h2]; simp, fun j hj => ?_⟩
    rw [h3 j (by simpa using hj), Array.getElem?_setIfInBounds]
    by_cases e : o = j
    · subst e
      rw [if_neg (by omega), if_pos rfl, if_pos hj, if_pos (by simp)]
      simp
    · rw [if_neg e]
      by_cases c : o + 1 ≤ j ∧ j < o + 1 + vs.length
      · rw [if_pos c, if_pos (by simp; omega), show j - o = (j - (o + 1)) + 1 by omega]
        rfl
      · rw [if_neg c, if_neg (by simp; omega)]
theorem size_sets (g : Nat) : ∀ (vs : List Value) (o : Nat) (w : World), (w.setCells g o vs).heap.size = w.heap.size
  | [], _, _ => rfl
  | v :: vs, o, w => by
    show ((w.setCell ⟨g, o, none⟩ v).setCells g (o + 1) vs).heap.size = _
    rw [size_sets g vs]
    simp [World.setCell]
theorem Kp.sets {p : Nat × Nat → Prop} {K K' : Knd} {w : World} {b : Nat} (hb : w.heap.size ≤ b ∨ p (K b)) : ∀ (vs : List Value) (i : Nat) (w' : World), Kp p K K' w w' → Kp p K K' w (w'.setCells b i vs)
  | [], _, _, h => h
  | v :: vs, i, _, h => Kp.sets hb vs (i + 1) _ (h.setCell hb i v)

theorem Try.infoMs : (Try.prog.info? 101).map (fun i => (i.zero, i.size, i.bytes)) = some (some (.agg #[.int .i64 0, .string ⟨#[]⟩]), 2, 24) := by kernel_rfl
theorem zeroMs (w : World) : (zeroValue 101).run Try.prog w = .ok (.agg #[.int .i64 0, .string ⟨#[]⟩]) w := by kernel_rfl
theorem clear_ms (w : World) (b o c : Nat) (ty : TypeId) (h0 : (w.cell? ⟨b, o, none⟩).isSome = true) (h1 : (w.cell? ⟨b, o + 1, none⟩).isSome = true) (f0 : w.frozen? ⟨b, o, none⟩ = false) (f1 : w.frozen? ⟨b, o + 1, none⟩ = false) :
    (Builtin.clear_ #[78] ty #[.slice (some ⟨b, o, none⟩) 1 c]).run Try.prog w = .ok (.tuple #[]) (w.setCells b o [.int .i64 0, .string ⟨#[]⟩]) := by
  have hzc : (Builtin.zeroCells (Value.agg #[.int .i64 0, .string ⟨#[]⟩]).cells 1).toList = [.int .i64 0, .string ⟨#[]⟩] := by kernel_rfl
  have hst := run_storeCells_cells (P := Try.prog) b o [.int .i64 0, .string ⟨#[]⟩] 0 w (fun j hj => by
    have : j = 0 ∨ j = 1 := by simp at hj; omega
    rcases this with e | e <;> subst e
    · exact h0
    · exact h1) (fun j hj => by
    have : j = 0 ∨ j = 1 := by simp at hj; omega
    rcases this with e | e <;> subst e
    · exact f0
    · exact f1) (by simp [Value.oneCell'])
  simp only [Nat.add_zero] at hst
  simp [Builtin.clear_, run_underlying Try.underlying78, zeroMs w, hzc, hst, Sem.run_bind]

set_option maxRecDepth 100000 in
set_option maxHeartbeats 4000000 in
theorem Delete_any (w : World) (g n c i : Nat) (cur : Array Value) (l : List Ms) (hg : w.heap[g]? = some (.cells cur 101 (0, 0))) (hl : l.length = n) (hc : n ≤ c) (hm : c ≤ maxLen) (hs : cur.size = c * 2) (ht : cur.toList.take (n * 2) = msv l) (hi : i < n) :
    Calls Try.prog 51 #[.slice (some ⟨g, 0, none⟩) n c, .int .i64 i, .int .i64 ((i : Int) + 1)] w fun e w' => e = .returned (.slice (some ⟨g, 0, none⟩) (n - 1) c) ∧ ∃ w1 cur', w' = (w1.setCells g ((n - 1) * 2) [.int .i64 0, .string ⟨#[]⟩]) ∧ w1 = w.drew.setCells g (i * 2) (msv (l.drop (i + 1))) ∧ w'.heap[g]? = some (.cells cur' 101 (0, 0)) ∧ cur'.size = c * 2 ∧ cur'.toList.take ((n - 1) * 2) = msv (l.take i ++ l.drop (i + 1)) := by
  obtain ⟨i0, hi0, hz0, hz1, hz2⟩ := info_parts Try.infoMs
  have hm : c ≤ 9223372036854775807 := hm
  have hget : ∀ t, t < n * 2 → w.cell? ⟨g, t, none⟩ = (msv l)[t]? := fun t h => by
    rw [← ht, List.getElem?_take, if_pos h]
    simp [World.cell?, hg]
  have hsome : ∀ t, t < c * 2 → (w.cell? ⟨g, t, none⟩).isSome = true ∧ w.frozen? ⟨g, t, none⟩ = false := fun t h => by
    simp [World.cell?, World.frozen?, hg, hs, h]
  obtain ⟨news, hnews⟩ : ∃ news, news = msv (l.drop (i + 1)) := ⟨_, rfl⟩
  have hlen : news.length = (n - (i + 1)) * 2 := by rw [hnews, msv_len]; simp [hl]
  obtain ⟨A, hA, hsrc⟩ : ∃ A : Addr, (if c = i + 1 then some (⟨g, 0, none⟩ : Addr) else some ⟨g, (i + 1) * 2, none⟩) = some A ∧ Hid (∀ t u, news[t]? = some u → w.drew.cell? (A.add t) = some u) := by
    by_cases h : c = i + 1
    · refine ⟨⟨g, 0, none⟩, by simp [h], fun t u hu => ?_⟩
      have h0 : news.length = 0 := by rw [hlen]; omega
      rw [List.length_eq_zero_iff.1 h0] at hu
      simp at hu
    · refine ⟨⟨g, (i + 1) * 2, none⟩, by simp [h], fun t u hu => ?_⟩
      have ht' : t < (n - (i + 1)) * 2 := by
        have := (List.getElem?_eq_some_iff.1 hu).1
        rwa [hlen] at this
      rw [hnews, msv_drop, List.getElem?_drop] at hu
      have e := hget ((i + 1) * 2 + t) (by omega)
      rw [hu] at e
      have ea : (⟨g, (i + 1) * 2, none⟩ : Addr).add t = ⟨g, (i + 1) * 2 + t, none⟩ := by
        unfold Addr.add
        by_cases h0 : t = 0
        · subst h0; simp
        · simp [h0]
      rw [ea]
      exact e
  have s1 : Hid (news.length = (n - (i + 1)) * 2) := hlen
  have s2 : Hid (∀ u ∈ news, u.oneCell' = true) := by rw [hnews]; exact msv_one _
  have s3 : Hid (∀ t, t < news.length → (w.drew.cell? ⟨g, 0 + i * 2 + t, none⟩).isSome = true ∧ w.drew.frozen? ⟨g, 0 + i * 2 + t, none⟩ = false) := by
    intro t h
    rw [hlen] at h
    rw [Nat.zero_add]
    exact hsome _ (by omega)
  obtain ⟨W1, hW1⟩ : ∃ W1, W1 = w.drew.setCells g (0 + i * 2) news := ⟨_, rfl⟩
  obtain ⟨cs1, k1, k2, k3⟩ := block_sets g 101 (0, 0) news (0 + i * 2) w.drew cur hg
  rw [← hW1] at k1
  have hsome1 : ∀ t, t < c * 2 → (W1.cell? ⟨g, t, none⟩).isSome = true ∧ W1.frozen? ⟨g, t, none⟩ = false := fun t h => by
    simp [World.cell?, World.frozen?, k1, k2, hs, h]
  obtain ⟨n1, hn1⟩ : ∃ n1, n1 = n - 1 := ⟨_, rfl⟩
  have hcl : ∀ ty, (Builtin.clear_ #[78] ty #[.slice (some ⟨g, n1 * 2, none⟩) 1 (c - n1)]).run Try.prog W1 = .ok (.tuple #[]) (W1.setCells g (n1 * 2) [.int .i64 0, .string ⟨#[]⟩]) :=
    fun ty => clear_ms W1 g (n1 * 2) (c - n1) ty (hsome1 _ (by omega)).1 (hsome1 _ (by omega)).1 (hsome1 _ (by omega)).2 (hsome1 _ (by omega)).2
  obtain ⟨cs2, j1, j2, j3⟩ := block_sets g 101 (0, 0) [.int .i64 0, .string ⟨#[]⟩] (n1 * 2) W1 cs1 k1
  have hlast : cs2.toList.take (n1 * 2) = msv (l.take i ++ l.drop (i + 1)) := by
    rw [msv_app, msv_take, ← hnews]
    apply List.ext_getElem?
    intro t
    rw [List.getElem?_take]
    have hml : (msv l).length = n * 2 := by rw [msv_len, hl]
    by_cases h : t < n1 * 2
    · rw [if_pos h, Array.getElem?_toList, j3 t (by omega), if_neg (by omega), k3 t (by omega)]
      by_cases h2 : t < i * 2
      · rw [if_neg (by omega), List.getElem?_append_left (by simp [hml]; omega), List.getElem?_take, if_pos h2, ← hget t (by omega)]
        simp [World.cell?, hg]
      · rw [if_pos (by omega), List.getElem?_append_right (by simp [hml]; omega)]
        congr 1
        simp [hml]; omega
    · rw [if_neg h, List.getElem?_eq_none (by simp [hml, hlen]; omega)]
  have HX : Hid (∃ w1 cur', (W1.setCells g (n1 * 2) [.int .i64 0, .string ⟨#[]⟩]) = (w1.setCells g ((n - 1) * 2) [.int .i64 0, .string ⟨#[]⟩]) ∧ w1 = w.drew.setCells g (i * 2) (msv (l.drop (i + 1))) ∧ (W1.setCells g (n1 * 2) [.int .i64 0, .string ⟨#[]⟩]).heap[g]? = some (.cells cur' 101 (0, 0)) ∧ cur'.size = c * 2 ∧ cur'.toList.take ((n - 1) * 2) = msv (l.take i ++ l.drop (i + 1))) :=
    ⟨W1, cs2, by rw [hn1], by rw [hW1, hnews, Nat.zero_add], j1, by rw [j2, k2, hs], by rw [← hn1]; exact hlast⟩
  have hW : Hid (W1 = w.drew.setCells g (0 + i * 2) news) := hW1
  have HN1 : Hid (n1 = n - 1) := hn1
  have hic : i ≤ c := by omega
  have hjc : i + 1 ≤ c := by omega
  have hi1 : 0 ≤ (i : Int) + 1 := by omega
  have hi2 : (i : Int) + 1 ≤ (n : Int) := by omega
  have hin : i + (n - (i + 1)) = n1 := by omega
  have hn1c : n1 ≤ c := by omega
  have hn1n : n1 ≤ n := by omega
  have hn1e : ¬ c = n1 := by omega
  have hnn : n - n1 = 1 := by omega
  clear hlast j1 j2 j3 k1 k2 k3 hsome1 hget hsome hg hl ht hs hlen hnews hW1 hn1
  go_enter Try.func51, Try.ntmps51
  go_wp2_with fail
  go_region_law (refine step_append_room rfl (.tmp 22) (.tmp 25) 78 rfl 101 i0 2 Try.underlying78 hi0 hz1 g 0 i c (by simp [Act.eval, Act.put]) A (n - (i + 1)) (c - (i + 1)) news (by simp [Act.eval, Act.put]) s1.out hsrc.out s2.out (by omega) s3.out ?_; rw [← hW.out])
  go_wp2
  go_ret
  refine ⟨?_, HX.out⟩
  rw [← HN1.out]; rfl

end Go.Proofs.Ythgggjdefhgfiaa
