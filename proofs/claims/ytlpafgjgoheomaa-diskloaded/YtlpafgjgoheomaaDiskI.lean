import Derived.Test.YtlpafgjgoheomaaDiskH
namespace Go.Proofs.Ytlpafgjgoheomaa
open Go.RowKit Go.Maps

def St.new (r : Nat) : St := ⟨r, 0, 0, 0, 0, 0, false, [], [], [], []⟩
def newK (K : Knd) (b : Nat) (k : Nat × Nat) : Knd := fun c => if c = b then k else K c

set_option maxRecDepth 100000 in
set_option maxHeartbeats 400000 in
theorem New_bad (w : World) (r : Int) (hr : r < 0 ∨ 16777216 < r) (_hi : -9223372036854775808 ≤ r ∧ r ≤ 9223372036854775807) :
    Calls Try.prog 34 #[.int .i64 r] w fun e w' => e = .returned (.tuple #[.pointer none, .int .i64 40]) ∧ w' = w := by
  by_cases h1 : r < 0
  · go_enter Try.func34, Try.ntmps34
    go_wp2
    go_ret2
    exact ⟨rfl, rfl⟩
  · have h2 : 16777216 < r := by omega
    go_enter Try.func34, Try.ntmps34
    go_wp2
    go_ret2
    exact ⟨rfl, rfl⟩

set_option maxRecDepth 100000 in
set_option maxHeartbeats 400000 in
theorem New_ok (w : World) (r : Nat) (hr : r ≤ 16777216) :
    Calls Try.prog 34 #[.int .i64 (r : Int)] w fun e w' => e = .returned (.tuple #[.pointer (some ⟨w.heap.size, 0, none⟩), .int .i64 0]) ∧ w' = w.alloc (.cells (dcells (St.new r) (.map none) (.map none) (.slice none 0 0)) 82) := by
  have h1 : ¬ (r : Int) < 0 := by omega
  have h2 : ¬ 16777216 < (r : Int) := by omega
  go_enter Try.func34, Try.ntmps34
  go_wp2
  go_ret2
  exact ⟨rfl, rfl⟩
theorem new_dk (w : World) (K : Knd) (o r : Nat) : Dk (w.alloc (.cells (dcells (St.new r) (.map none) (.map none) (.slice none 0 0)) 82)) (newK K w.heap.size (o, 1)) o w.heap.size (St.new r) :=
  ⟨fun _ => 0, .map none, .map none, .slice none 0 0, ⟨heap_alloc_new _ _, by simp [newK], ⟨Or.inl ⟨rfl, rfl⟩, fun b hb => by simp [mblk] at hb⟩, ⟨Or.inl ⟨rfl, rfl⟩, fun b hb => by simp [mblk] at hb⟩, rk_nil _ _ _ _ _, fun i f hf => by simp [St.new] at hf⟩⟩
theorem new_inv {r : Nat} (hr : r ≤ 16777216) : Inv (St.new r) :=
  ⟨hr, List.Pairwise.nil, List.Pairwise.nil, fun _ h => by simp [St.new] at h, fun _ h => by simp [St.new] at h, fun _ h => by simp [St.new] at h, List.nodup_nil, Nat.zero_le _, Nat.zero_le _, Nat.zero_le _, rfl⟩
theorem new_sz (r : Nat) : Sz (St.new r) 0 := ⟨Nat.le_refl _, Nat.le_refl _, Nat.le_refl _, fun _ h => by simp [St.new] at h⟩

set_option maxRecDepth 100000 in
theorem Strokes_any (w : World) (K : Knd) (o d : Nat) (S : St) (h : Dk w K o d S) : Calls Try.prog 14 #[.pointer (some ⟨d, 0, none⟩)] w fun e w' => e = .returned (.int .i64 (S.strokes : Int)) ∧ w' = w := by
  obtain ⟨loc, sv, nv, cv, hm⟩ := h
  have hb := hm.blk
  unfold dcells at hb
  obtain ⟨q0, q1, q2, q3, q4, q5, q6, q7, q8, q9, qf⟩ := blk10 hb
  clear hm hb
  go_enter Try.func14, Try.ntmps14
  go_wp2
  go_ret
  exact ⟨rfl, rfl⟩
set_option maxRecDepth 100000 in
theorem Room_any (w : World) (K : Knd) (o d : Nat) (S : St) (h : Dk w K o d S) : Calls Try.prog 15 #[.pointer (some ⟨d, 0, none⟩)] w fun e w' => e = .returned (.int .i64 (S.room : Int)) ∧ w' = w := by
  obtain ⟨loc, sv, nv, cv, hm⟩ := h
  have hb := hm.blk
  unfold dcells at hb
  obtain ⟨q0, q1, q2, q3, q4, q5, q6, q7, q8, q9, qf⟩ := blk10 hb
  clear hm hb
  go_enter Try.func15, Try.ntmps15
  go_wp2
  go_ret
  exact ⟨rfl, rfl⟩

def St.names (S : St) : List Nm := if S.off then [] else S.seen.map (·.1)
def St.offE (S : St) : Nat := if S.off then 45 else 0
set_option maxRecDepth 100000 in
theorem List_any (w : World) (K : Knd) (o d : Nat) (S : St) (h : Dk w K o d S) (hv : Inv S) :
    Calls Try.prog 16 #[.pointer (some ⟨d, 0, none⟩)] w fun e w' => ∃ a c, e = .returned (.tuple #[.slice a S.names.length c, .int .i64 (S.offE : Int)]) ∧ w'.ownsRow w.heap.size 9 1 (.slice a S.names.length c) S.names.length (strs S.names) ∧ Below w.heap.size w w' := by
  obtain ⟨loc, sv, nv, cv, hm⟩ := h
  have hb := hm.blk
  unfold dcells at hb
  obtain ⟨q0, q1, q2, q3, q4, q5, q6, q7, q8, q9, qf⟩ := blk10 hb
  by_cases ho : S.off = true
  · have e1 : S.names = [] := by unfold St.names; rw [if_pos ho]
    have e2 : S.offE = 45 := by unfold St.offE; rw [if_pos ho]
    rw [e1, e2]
    rw [ho] at q9
    clear hm hb e1 e2
    go_enter Try.func16, Try.ntmps16
    go_wp2
    go_ret2
    exact ⟨none, 0, rfl, ⟨rfl, Or.inl ⟨rfl, rfl⟩⟩, Below.refl _ _⟩
  · have e1 : S.names = S.seen.map (·.1) := by unfold St.names; rw [if_neg ho]
    have e2 : S.offE = 0 := by unfold St.offE; rw [if_neg ho]
    have HS := hide (sorted_any w nv (mapN loc S.seen) hm.sn.mp (by unfold mapN Srt; exact List.pairwise_map.2 hv.srt) (by rw [mapN_len]; have := hv.most; omega))
    have e3 : (mapN loc S.seen).map (·.1) = S.seen.map (·.1) := by unfold mapN; simp
    rw [e3, mapN_len] at HS
    rw [e1, e2, List.length_map]
    have ho' : S.off = false := by simpa using ho
    rw [ho'] at q9
    clear hm hb e1 e2 e3
    go_enter Try.func16, Try.ntmps16
    go_wp2_with fail
    refine HS.out.mono ?_
    rintro e w2 ⟨a, c, rfl, hr, hb⟩
    go_wp2
    go_ret2
    exact ⟨a, c, rfl, hr, hb⟩

def St.bytes (S : St) (x : Nm) : List Nat := if S.err x = 0 then (S.file ((lookN S.seen x).getD 0)).all else []
set_option maxRecDepth 100000 in
set_option maxHeartbeats 400000 in
theorem Read_any (w : World) (K : Knd) (o d : Nat) (S : St) (h : Dk w K o d S) (hv : Inv S) (k : Nat) (hz : Sz S k) (hk : k ≤ 549755813888) (x : Nm) (hx : x.length ≤ 140737488355328) :
    Calls Try.prog 17 #[.pointer (some ⟨d, 0, none⟩), .string ⟨x.toArray⟩] w fun e w' => ∃ a c, e = .returned (.tuple #[.slice a (S.bytes x).length c, .int .i64 (S.err x : Int)]) ∧ w'.ownsRow w.heap.size 5 1 (.slice a (S.bytes x).length c) (S.bytes x).length (vals (S.bytes x)) ∧ Below w.heap.size w w' := by
  obtain ⟨loc, sv, nv, cv, hm⟩ := h
  have HF := hide (find_any w K o d loc sv nv cv S hm x hx)
  by_cases he : S.err x = 0
  · obtain ⟨_, _, i, hl⟩ := err_zero he
    have hfs := St.file_some (S.seen_file hv hl)
    have e1 : S.bytes x = (S.file i).all := by unfold St.bytes; rw [if_pos he, hl]; rfl
    rw [he, ptr_some he hl] at HF
    rw [he, e1]
    have hU := (hz.fl _ (List.mem_of_getElem? hfs)).2
    have HL := hide (hm.leftF hfs (S.file i).units.length (Nat.le_refl _) (by omega))
    have e2 : (S.file i).left (S.file i).units.length = (S.file i).all := by unfold Fil.left Fil.all; rw [List.take_of_length_le (Nat.le_refl _)]
    rw [e2] at HL
    obtain ⟨fs, fu, hfl, _, _⟩ := (hm.fl i _ hfs).fl
    obtain ⟨q0, q1, q2, qf⟩ := blk3 hfl.blk
    obtain ⟨ua, uc, hua, _, _⟩ := owns_form hfl.unit
    subst hua
    have hub : (S.file i).units.length ≤ 1099511627776 := by omega
    generalize (S.file i).units.length = U at *
    generalize (S.file i).all = A at *
    clear hm he hl e1 e2 hfs hfl hU q0 q2
    go_enter Try.func17, Try.ntmps17
    go_wp2_with fail
    refine HF.out.mono ?_
    rintro e w2 ⟨rfl, rfl⟩
    go_wp2_with fail
    refine HL.out.mono ?_
    rintro e w3 ⟨a, c, rfl, hr, hb⟩
    go_wp2
    go_ret2
    exact ⟨a, c, rfl, hr, hb⟩
  · have e1 : S.bytes x = [] := by unfold St.bytes; rw [if_neg he]
    rw [e1]
    have he' : ¬ (S.err x : Int) = 0 := by omega
    have hle := err_le S x
    generalize S.err x = er at *
    clear he hm e1
    go_enter Try.func17, Try.ntmps17
    go_wp2_with fail
    refine HF.out.mono ?_
    rintro e w2 ⟨rfl, rfl⟩
    go_wp2
    go_ret2
    exact ⟨none, 0, rfl, ⟨rfl, Or.inl ⟨rfl, rfl⟩⟩, Below.refl _ _⟩
set_option maxRecDepth 100000 in
set_option maxHeartbeats 400000 in
theorem Size_any (w : World) (K : Knd) (o d : Nat) (S : St) (h : Dk w K o d S) (hv : Inv S) (x : Nm) (hx : x.length ≤ 140737488355328) :
    Calls Try.prog 18 #[.pointer (some ⟨d, 0, none⟩), .string ⟨x.toArray⟩] w fun e w' => e = .returned (.tuple #[.int .i64 ((S.bytes x).length : Int), .int .i64 (S.err x : Int)]) ∧ w' = w := by
  obtain ⟨loc, sv, nv, cv, hm⟩ := h
  have HF := hide (find_any w K o d loc sv nv cv S hm x hx)
  by_cases he : S.err x = 0
  · obtain ⟨_, _, i, hl⟩ := err_zero he
    have hfs := St.file_some (S.seen_file hv hl)
    have e1 : S.bytes x = (S.file i).all := by unfold St.bytes; rw [if_pos he, hl]; rfl
    rw [he, ptr_some he hl] at HF
    rw [he, e1]
    obtain ⟨fs, fu, hfl, _, _⟩ := (hm.fl i _ hfs).fl
    obtain ⟨q0, q1, q2, qf⟩ := blk3 hfl.blk
    generalize (S.file i).all.length = A at *
    clear hm he hl e1 hfs hfl
    go_enter Try.func18, Try.ntmps18
    go_wp2_with fail
    refine HF.out.mono ?_
    rintro e w2 ⟨rfl, rfl⟩
    go_wp2
    go_ret2
    exact ⟨rfl, rfl⟩
  · have e1 : S.bytes x = [] := by unfold St.bytes; rw [if_neg he]
    rw [e1]
    have he' : ¬ (S.err x : Int) = 0 := by omega
    have hle := err_le S x
    generalize S.err x = er at *
    clear he hm e1
    go_enter Try.func18, Try.ntmps18
    go_wp2_with fail
    refine HF.out.mono ?_
    rintro e w2 ⟨rfl, rfl⟩
    go_wp2
    go_ret2
    exact ⟨rfl, rfl⟩

def St.planR (S : St) (a b c : Int) : St := if S.off then S else { S with pOff := a, pFrom := b, pTo := c, planned := 0 }
set_option maxRecDepth 100000 in
set_option maxHeartbeats 400000 in
theorem Plan_any (w : World) (K : Knd) (o d : Nat) (S : St) (h : Dk w K o d S) (a b c : Int) :
    Calls Try.prog 30 #[.pointer (some ⟨d, 0, none⟩), .agg #[.int .i64 a, .int .i64 b, .int .i64 c]] w fun e w' => ∃ K', e = .returned (.tuple #[]) ∧ Dk w' K' o d (S.planR a b c) ∧ Kp (Ow o) K K' w w' := by
  obtain ⟨loc, sv, nv, cv, hm⟩ := h
  have HD := hide hm
  have hb := hm.blk
  unfold dcells at hb
  have HB := hide hb
  obtain ⟨q0, q1, q2, q3, q4, q5, q6, q7, q8, q9, qf⟩ := blk10 hb
  have hbl := lt_of_block hb
  have n1 : ¬ d = w.heap.size := by omega
  have n2 : ¬ w.heap.size = d := by omega
  have HKd := hide hm.kd
  by_cases ho : S.off = true
  · have e1 : S.planR a b c = S := by unfold St.planR; rw [if_pos ho]
    rw [e1]
    rw [ho] at q9
    clear hm hb e1
    go_enter Try.func30, Try.ntmps30
    go_wp2
    go_end0
    have kb := kp_below (w := w) (w' := w.alloc (.cells #[.int .i64 a, .int .i64 b, .int .i64 c] 55)) ((Below.refl _ _).alloc (Nat.le_refl _) _) (fun _ => False) K (0, 0)
    exact ⟨_, rfl, ⟨loc, sv, nv, cv, HD.out.kept kb (fun _ h => h)⟩, kb.mono (fun k hk => hk.elim)⟩
  · have e1 : S.planR a b c = { S with pOff := a, pFrom := b, pTo := c, planned := 0 } := by unfold St.planR; rw [if_neg ho]
    rw [e1]
    have ho' : S.off = false := by simpa using ho
    rw [ho'] at q9
    clear hm hb e1
    go_enter Try.func30, Try.ntmps30
    go_wp2
    go_end0
    have hp1 : w.heap.size ≤ d ∨ Own1 o (K d) := Or.inr HKd.out
    have k3 := ((((((Kp.refl (Own1 o) K w).setCell hp1 5 (.int .i64 a)).setCell hp1 6 (.int .i64 b)).setCell hp1 7 (.int .i64 c)).setCell hp1 8 (.int .i64 0))).alloc (.cells #[.int .i64 a, .int .i64 b, .int .i64 c] 55)
    refine ⟨K, rfl, ⟨loc, sv, nv, cv, HD.out.turnD k3 ?_ rfl rfl rfl rfl⟩, k3.mono (fun k hk => by rw [hk])⟩
    rw [Below.heap_alloc _ _ _ (by simp [World.setCell]; exact hbl), block_set (block_set (block_set (block_set HB.out _) _) _) _]
    rfl

end Go.Proofs.Ytlpafgjgoheomaa
