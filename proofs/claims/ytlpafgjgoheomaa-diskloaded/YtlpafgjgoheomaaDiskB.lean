import Derived.Test.YtlpafgjgoheomaaDiskA
import Derived.Laws.IdiomRangeMap
namespace Go.Proofs.Ytlpafgjgoheomaa
open Go.RowKit Go.Maps

/-- What a call with a name answers first. -/
def St.err (S : St) (x : Nm) : Nat := if S.off then 45 else if isNm x then (if lookN S.seen x = none then 42 else 0) else 41
def St.ptr (S : St) (loc : Nat → Nat) (x : Nm) : Value := .pointer (if S.err x = 0 then (lookN S.seen x).map (fun i => ⟨loc i, 0, none⟩) else none)

set_option maxRecDepth 100000 in
set_option maxHeartbeats 1000000 in
theorem find_any (w : World) (K : Knd) (o d : Nat) (loc : Nat → Nat) (sv nv cv : Value) (S : St) (h : Dm w K o d loc sv nv cv S) (x : Nm) (hx : x.length ≤ 140737488355328) :
    Calls Try.prog 43 #[.pointer (some ⟨d, 0, none⟩), .string ⟨x.toArray⟩] w fun e w' => e = .returned (.tuple #[S.ptr loc x, .int .i64 (S.err x : Int)]) ∧ w' = w := by
  have hb := h.blk
  unfold dcells at hb
  obtain ⟨q0, q1, q2, q3, q4, q5, q6, q7, q8, q9, qf⟩ := blk10 hb
  have hbl := lt_of_block hb
  have HN := hide (fileName_any w x hx)
  have HL := hide (h.sn.mp.look x (by unfold maxLen; omega))
  clear hb h
  by_cases ho : S.off = true
  · have e1 : S.err x = 45 := by unfold St.err; rw [if_pos ho]
    have e2 : S.ptr loc x = .pointer none := by unfold St.ptr; rw [e1]; rfl
    rw [e1, e2]
    rw [ho] at q9
    clear HL HN e1 e2
    go_enter Try.func43, Try.ntmps43
    go_wp2
    go_ret2
    exact ⟨rfl, rfl⟩
  have ho' : S.off = false := by simpa using ho
  rw [ho'] at q9
  by_cases hn : isNm x = true
  · rw [hn] at HN
    rw [mapN_look] at HL
    cases hl : lookN S.seen x with
    | none =>
      have e1 : S.err x = 42 := by unfold St.err; rw [if_neg ho, if_pos hn, if_pos hl]
      have e2 : S.ptr loc x = .pointer none := by unfold St.ptr; rw [e1]; rfl
      rw [e1, e2]
      rw [hl] at HL
      have hlk := HL.out
      simp only [Option.map_none] at hlk
      clear HL e1 e2 hl
      go_enter Try.func43, Try.ntmps43
      go_wp2_with fail
      refine HN.out.mono ?_
      rintro e w2 ⟨rfl, rfl⟩
      go_wp2
      go_ret2
      exact ⟨rfl, rfl⟩
    | some i =>
      have e1 : S.err x = 0 := by unfold St.err; rw [if_neg ho, if_pos hn, if_neg (by rw [hl]; simp)]
      have e2 : S.ptr loc x = .pointer (some ⟨loc i, 0, none⟩) := by unfold St.ptr; rw [e1, hl]; rfl
      rw [e1, e2]
      rw [hl] at HL
      have hlk := HL.out
      simp only [Option.map_some] at hlk
      clear HL e1 e2 hl
      go_enter Try.func43, Try.ntmps43
      go_wp2_with fail
      refine HN.out.mono ?_
      rintro e w2 ⟨rfl, rfl⟩
      go_wp2
      go_ret2
      exact ⟨rfl, rfl⟩
  · have hn' : isNm x = false := by simpa using hn
    rw [hn'] at HN
    have e1 : S.err x = 41 := by unfold St.err; rw [if_neg ho, if_neg hn]
    have e2 : S.ptr loc x = .pointer none := by unfold St.ptr; rw [e1]; rfl
    rw [e1, e2]
    clear HL e1 e2
    go_enter Try.func43, Try.ntmps43
    go_wp2_with fail
    refine HN.out.mono ?_
    rintro e w2 ⟨rfl, rfl⟩
    go_wp2
    go_ret2
    exact ⟨rfl, rfl⟩

/-- The sizes of what has come. -/
def sumL (g : Nat → Nat) (left : Lit → Bool) (l : List (Nm × Nat)) : Nat := (l.map fun p => if left (.string p.1) then 0 else g p.2).sum
theorem sumL_all (g : Nat → Nat) {left : Lit → Bool} (l : List (Nm × Nat)) (h : ∀ kl, left kl = false) : sumL g left l = (l.map fun p => g p.2).sum := by
  unfold sumL; congr 1; exact List.map_congr_left fun p _ => by rw [h]; rfl
theorem sumL_none (g : Nat → Nat) {left : Lit → Bool} : ∀ (l : List (Nm × Nat)), (∀ p ∈ l, left (.string p.1) = true) → sumL g left l = 0
  | [], _ => rfl
  | p :: l, h => by
    have ih := sumL_none g l (fun q hq => h q (List.mem_cons_of_mem _ hq))
    unfold sumL at ih ⊢
    rw [List.map_cons, List.sum_cons, ih, h p (List.mem_cons_self ..)]; rfl
theorem sumL_same (g : Nat → Nat) {left : Lit → Bool} (x : Nm) : ∀ (l : List (Nm × Nat)), (∀ p ∈ l, p.1 ≠ x) → sumL g (fun z => left z && !z.sameKey (.string x)) l = sumL g left l := fun l h => by
  unfold sumL; congr 1; exact List.map_congr_left fun p hp => by
    have : (Lit.string p.1).sameKey (.string x) = false := by simpa [Lit.sameKey] using h p hp
    simp only [this]; simp
theorem sumL_step (g : Nat → Nat) {left : Lit → Bool} {x : Nm} {i : Nat} (hx : left (.string x) = true) : ∀ (l : List (Nm × Nat)), l.Pairwise (fun p q => p.1 ≠ q.1) → (x, i) ∈ l → sumL g (fun z => left z && !z.sameKey (.string x)) l = sumL g left l + g i
  | [], _, h => by cases h
  | p :: l, hp, h => by
    obtain ⟨h1, h2⟩ := List.pairwise_cons.1 hp
    rcases List.mem_cons.1 h with rfl | h
    · have e := sumL_same g (left := left) x l (fun q hq => (h1 q hq).symm)
      unfold sumL at e ⊢
      rw [List.map_cons, List.sum_cons, e, List.map_cons, List.sum_cons, hx]
      simp [Lit.sameKey]; omega
    · have ih := sumL_step g hx l h2 h
      have : (Lit.string p.1).sameKey (.string x) = false := by simpa [Lit.sameKey] using h1 _ h
      unfold sumL at ih ⊢
      rw [List.map_cons, List.sum_cons, ih, List.map_cons, List.sum_cons]
      simp only [this]
      simp; omega
theorem sumL_le (g : Nat → Nat) (left : Lit → Bool) : ∀ l : List (Nm × Nat), sumL g left l ≤ (l.map fun p => g p.2).sum
  | [] => Nat.le_refl _
  | p :: l => by
    have ih := sumL_le g left l
    unfold sumL at ih ⊢
    rw [List.map_cons, List.sum_cons, List.map_cons, List.sum_cons]
    split <;> omega

theorem St.file_of {S : St} {i : Nat} {f : Fil} (h : S.files[i]? = some f) : S.file i = f := by unfold St.file; rw [h]; rfl
theorem St.file_some {S : St} {i : Nat} (h : i < S.files.length) : S.files[i]? = some (S.file i) := by
  unfold St.file; rw [List.getElem?_eq_getElem h]; rfl

theorem has_seen {loc : Nat → Nat} {l : List (Nm × Nat)} {p : Nm × Nat} (hp : p ∈ l) : Maps.has (toD (mapN loc l)) (.string p.1) = true := by
  refine List.any_eq_true.2 ⟨(Lit.string p.1, .lit (.int .i64 (loc p.2))), ?_, by simp [Lit.sameKey]⟩
  simp only [mapN, List.map_map, List.mem_map]
  exact ⟨p, hp, rfl⟩
theorem below_drewN {B : Nat} {w w' : World} (h : Below B w w') (n : Nat) : Below B w (w'.drewN n) := ⟨h.os, h.tape, h.output, h.size, h.block⟩

set_option maxRecDepth 100000 in
set_option maxHeartbeats 2000000 in
theorem full_any (w : World) (K : Knd) (o d : Nat) (loc : Nat → Nat) (sv nv cv : Value) (S : St) (h : Dm w K o d loc sv nv cv S) (more : Nat) (hsr : Srt S.seen) (hin : ∀ p ∈ S.seen, p.2 < S.files.length) (hm : more + S.used ≤ 1099511627776) :
    Calls Try.prog 63 #[.pointer (some ⟨d, 0, none⟩), .int .i64 (more : Int)] w fun e w' => e = .returned (.bool (S.full more)) ∧ Below w.heap.size w w' := by
  have HD := hide h
  have hb := h.blk
  unfold dcells at hb
  have HB := hide hb
  obtain ⟨q0, q1, q2, q3, q4, q5, q6, q7, q8, q9, qf⟩ := blk10 hb
  have hbl := lt_of_block hb
  clear hb
  have HI := hide hin
  have HS := hide hsr
  have HM := hide hm
  have HU : Hid (S.used = (S.seen.map fun p => (S.file p.2).all.length).sum) := rfl
  obtain ⟨R, hR⟩ : ∃ R, S.room = R := ⟨_, rfl⟩
  obtain ⟨P, hP⟩ : ∃ P, S.planned = P := ⟨_, rfl⟩
  obtain ⟨F, hF⟩ : ∃ F, S.pFrom = F := ⟨_, rfl⟩
  obtain ⟨T, hT⟩ : ∃ T, S.pTo = T := ⟨_, rfl⟩
  rw [hR] at q0
  rw [hP] at q8
  rw [hF] at q6
  rw [hT] at q7
  have HFull : Hid (S.full more = ((decide (1 ≤ F) && decide (F ≤ P) && decide ((P : Int) ≤ T)) || decide (R < more + S.used))) := by
    show _ = _
    unfold St.full St.fullP
    rw [hR, hP, hF, hT]
  have HRm := hide hR
  clear hin hsr hm hR hP hF hT
  have HEnd : Hid (¬ (1 ≤ F ∧ F ≤ P ∧ (P : Int) ≤ T) → S.full more = decide (R < more + S.used)) := hide (fun hn => by
    rw [HFull.out]
    have : (decide (1 ≤ F) && decide (F ≤ P) && decide ((P : Int) ≤ T)) = false := by
      simp only [Bool.and_eq_false_iff, decide_eq_false_iff_not]
      by_cases a : 1 ≤ F
      · by_cases b : F ≤ P
        · exact Or.inr (fun c => hn ⟨a, b, c⟩)
        · exact Or.inl (Or.inr b)
      · exact Or.inl (Or.inl a)
    rw [this]; simp)
  -- the ways
  rcases h.sn.mp with ⟨e, hl⟩ | ⟨b, e, ho⟩
  · subst e
    have hl0 : S.seen = [] := by
      have := congrArg List.length hl
      rw [mapN_len] at this
      exact List.eq_nil_of_length_eq_zero this
    have hu0 : S.used = 0 := by unfold St.used; rw [hl0]; rfl
    have HU0 := hide hu0
    clear h hl hl0 hu0
    by_cases c1 : 1 ≤ F
    · by_cases c2 : F ≤ (P : Int)
      · by_cases c3 : (P : Int) ≤ T
        · have er : S.full more = true := by rw [HFull.out]; simp [c1, c2, c3]
          rw [er]
          go_enter Try.func63, Try.ntmps63
          go_wp2
          go_quiet (fail)
          go_wp2
          go_ret
          exact ⟨rfl, below_drewN (Below.refl _ _) _⟩
        · have er : S.full more = decide (R < more) := by rw [HEnd.out (by omega), HU0.out]; rfl
          rw [er]
          have hrg := run_range_nilMap (P := Try.prog) w.drew 79 _ _ Try.underlying79
          go_enter Try.func63, Try.ntmps63
          go_wp2
          go_quiet (fail)
          have hrg2 := run_range_nilMap (P := Try.prog) (w.drewN nq) 79 _ _ Try.underlying79
          have hnx : ∀ ty, (Instr.next (.pointer (some ⟨w.heap.size, 0, none⟩)) false ty).run Try.prog ((w.drewN nq).alloc (.mapIter none 0 #[] 0)) = _ := fun ty => run_next_nilMap (w.drewN nq) ty 0 0 #[]
          clear hrg
          have hdd : (w.drewN nq).heap.size = w.heap.size := rfl
          rw [hdd] at hrg2
          clear hdd
          have y0 : ((w.drewN nq).alloc (.mapIter none 0 #[] 0)).cell? ⟨d, 0, none⟩ = some (.int .i64 (R : Int)) := (World.cell?_of_block (w := w.drewN nq) (Below.heap_alloc _ _ _ hbl)).trans q0
          go_wp2
          refine wp_loop_rounds 1 ?_
          rw [rounds_succ]
          go_wp2
          go_ret
          exact ⟨by first | rfl | simp [decide_eq_decide] | (congr 2; simp; omega), (below_drewN (Below.refl _ w) nq).alloc (Nat.le_refl _) _⟩
      · have er : S.full more = decide (R < more) := by rw [HEnd.out (by omega), HU0.out]; rfl
        rw [er]
        have hrg := run_range_nilMap (P := Try.prog) w.drew 79 _ _ Try.underlying79
        go_enter Try.func63, Try.ntmps63
        go_wp2
        go_quiet (fail)
        have hrg2 := run_range_nilMap (P := Try.prog) (w.drewN nq) 79 _ _ Try.underlying79
        have hnx : ∀ ty, (Instr.next (.pointer (some ⟨w.heap.size, 0, none⟩)) false ty).run Try.prog ((w.drewN nq).alloc (.mapIter none 0 #[] 0)) = _ := fun ty => run_next_nilMap (w.drewN nq) ty 0 0 #[]
        clear hrg
        have hdd : (w.drewN nq).heap.size = w.heap.size := rfl
        rw [hdd] at hrg2
        clear hdd
        have y0 : ((w.drewN nq).alloc (.mapIter none 0 #[] 0)).cell? ⟨d, 0, none⟩ = some (.int .i64 (R : Int)) := (World.cell?_of_block (w := w.drewN nq) (Below.heap_alloc _ _ _ hbl)).trans q0
        go_wp2
        refine wp_loop_rounds 1 ?_
        rw [rounds_succ]
        go_wp2
        go_ret
        exact ⟨by first | rfl | simp [decide_eq_decide] | (congr 2; simp; omega), (below_drewN (Below.refl _ w) nq).alloc (Nat.le_refl _) _⟩
    · have er : S.full more = decide (R < more) := by rw [HEnd.out (by omega), HU0.out]; rfl
      rw [er]
      have hrg := run_range_nilMap (P := Try.prog) w.drew 79 _ _ Try.underlying79
      go_enter Try.func63, Try.ntmps63
      go_wp2
      go_quiet (fail)
      have hrg2 := run_range_nilMap (P := Try.prog) (w.drewN nq) 79 _ _ Try.underlying79
      have hnx : ∀ ty, (Instr.next (.pointer (some ⟨w.heap.size, 0, none⟩)) false ty).run Try.prog ((w.drewN nq).alloc (.mapIter none 0 #[] 0)) = _ := fun ty => run_next_nilMap (w.drewN nq) ty 0 0 #[]
      clear hrg
      have hdd : (w.drewN nq).heap.size = w.heap.size := rfl
      rw [hdd] at hrg2
      clear hdd
      have y0 : ((w.drewN nq).alloc (.mapIter none 0 #[] 0)).cell? ⟨d, 0, none⟩ = some (.int .i64 (R : Int)) := (World.cell?_of_block (w := w.drewN nq) (Below.heap_alloc _ _ _ hbl)).trans q0
      go_wp2
      refine wp_loop_rounds 1 ?_
      rw [rounds_succ]
      go_wp2
      go_ret
      exact ⟨by first | rfl | simp [decide_eq_decide] | (congr 2; simp; omega), (below_drewN (Below.refl _ w) nq).alloc (Nat.le_refl _) _⟩
  · subst e
    have HO := hide ho
    clear h ho
    by_cases c1 : 1 ≤ F
    · by_cases c2 : F ≤ (P : Int)
      · by_cases c3 : (P : Int) ≤ T
        · have er : S.full more = true := by rw [HFull.out]; simp [c1, c2, c3]
          rw [er]
          go_enter Try.func63, Try.ntmps63
          go_wp2
          go_quiet (fail)
          go_wp2
          go_ret
          exact ⟨rfl, below_drewN (Below.refl _ _) _⟩
        · have HEr : Hid (S.full more = decide (R < more + S.used)) := hide (HEnd.out (by omega))
          rw [HEr.out]
          go_enter Try.func63, Try.ntmps63
          go_wp2
          go_quiet (fail)
          have HO2 : Hid ((w.drewN nq).ownsMap Try.prog 9 fel b (mapN loc S.seen).length (toD (mapN loc S.seen))) := HO.out
          go_wp2_with (first
            | (at_range; refine wpList_range_own _ rfl _ 79 rfl 9 74 kS Try.underlying79 fel b _ _ rfl HO2.out ?_; intro w0 hrg0 hg0 hs0)
            | go_in)
          try go_frame
          have HR0 := hide hrg0
          have HB0 : Hid (Below w.heap.size w w0) := (below_drewN (Below.refl _ w) nq).grown hg0 (Nat.le_refl _) (fun _ e => by cases e)
          clear hrg0 hg0 hs0
          go_loopw [1] (fun mv wr => ∃ (left : Lit → Bool) (cnt m : Nat), mv = .int .i64 (m : Int) ∧ Hid (wr.ranges Try.prog 9 fel b w.heap.size (mapN loc S.seen).length (toD (mapN loc S.seen)) left cnt) ∧ Hid (m = more + sumL (fun i => (S.file i).all.length) left S.seen) ∧ Hid (Below w.heap.size w wr)) (fun _ wr => wr.rangeLeft b w.heap.size)
          case atStart =>
            refine ⟨_, _, more, rfl, HR0, ?_, HB0⟩
            show _ = _
            rw [sumL_none _ _ (fun p hp => has_seen hp)]; rfl
          case round =>
            obtain ⟨left, cnt, m, rfl, HR, HSum, HB2⟩ := hrel
            have hmb : m ≤ 1099511627776 := by
              have e1 := HSum.out
              have e2 := sumL_le (fun i => (S.file i).all.length) left S.seen
              have e3 := HM.out
              rw [HU.out] at e3
              omega
            go_wp2_with (first
              | (at_next; refine wpList_next_ranges _ rfl _ rfl 9 kS fel Go.Proofs.encStr (fun q : Option Nat => Value.pointer (q.map fun b => ⟨b, 0, none⟩)) (fun key kl hk => by obtain ⟨x, hx, _⟩ := Maps.keyOf_str Try.underlying9 hk; exact ⟨x, hx⟩) (fun v y hv => by rcases fel_inv hv with ⟨q, rfl, _⟩ | ⟨rfl, _⟩; exact ⟨some q, rfl⟩; exact ⟨none, rfl⟩) b w.heap.size _ _ _ _ rfl HR.out ?_ ?_)
              | go_in)
            · intro hc0 hl0
              have HE : Hid (more + S.used = m) := by
                show _ = _
                rw [HSum.out, sumL_all _ _ hl0]; rfl
              obtain ⟨s0, s1, s2, s3, s4, s5, s6, s7, s8, s9, sf⟩ := blk10 ((HB2.out.block d hbl).trans HB.out)
              rw [HRm.out] at s0
              go_wp2
              go_ret
              refine ⟨?_, HB2.out⟩
              rw [HE.out]
              first | rfl | simp [decide_eq_decide] | (congr 2; simp; omega)
            · intro x q kl yd yp w2 cnt2 hkey hlk hv hat hrg2 hlt hg2 hs2 hen
              clear hs2
              obtain ⟨x', ex, rfl, _⟩ := Maps.keyOf_str Try.underlying9 hkey
              obtain rfl : x = x' := encStr_inj ex
              obtain ⟨i, hi, rfl⟩ : ∃ i, lookN S.seen x = some i ∧ q = some (loc i) := by
                have h1 := hat (.lit (.int .i64 (-2)))
                rw [toD_at, mapN_look] at h1
                cases hlo : lookN S.seen x with
                | none => rw [hlo] at h1; rcases fel_inv hv with ⟨c, _, h2⟩ | ⟨_, h2⟩ <;> (rw [← h1] at h2; simp at h2; try omega)
                | some i =>
                  rw [hlo] at h1
                  refine ⟨i, rfl, ?_⟩
                  rcases fel_inv hv with ⟨c, h3, h2⟩ | ⟨_, h2⟩
                  · rw [← h1] at h2
                    simp at h2
                    cases q with
                    | none => simp at h3
                    | some q => simp at h3; rw [h3]; congr 1; omega
                  · rw [← h1] at h2; simp at h2
              have hmem := (look_mem HS.out).1 hi
              have HF := hide (HD.out.fl i _ (S.file_some (HI.out _ hmem)))
              have hll := HF.out.lt
              obtain ⟨fs, fu, hfl, _, _⟩ := HF.out.fl
              have HB3 : Hid (Below w.heap.size w w2) := HB2.out.grown hg2 HB2.out.size (fun j e => by cases e; exact Nat.le_refl _)
              obtain ⟨z0, z1, z2, zf⟩ := blk3 ((HB3.out.block (loc i) hll).trans hfl.blk)
              have HS2 := hide (sumL_step (fun i => (S.file i).all.length) hlk S.seen HS.out.nodup hmem)
              have HLe := hide (sumL_le (fun i => (S.file i).all.length) (fun z => left z && !z.sameKey (.string x)) S.seen)
              have hsz2 : m + (S.file i).all.length ≤ 1099511627776 := by
                have e1 := HS2.out
                have e2 := HLe.out
                have e3 := HM.out
                have e4 := HSum.out
                rw [HU.out] at e3
                omega
              have HSum2 : Hid (m + (S.file i).all.length = more + sumL (fun i => (S.file i).all.length) (fun z => left z && !z.sameKey (.string x)) S.seen) := by
                show _ = _
                have e1 := HS2.out
                have e4 := HSum.out
                omega
              have HRn := hide hrg2
              have HLt := hide hlt
              clear hat hv hkey hlk hrg2 hlt hg2 hmem hfl z0 z1
              generalize (S.file i).all.length = n at *
              have hll2 := Nat.lt_of_lt_of_le hll HB3.out.size
              go_wp2
              go_roundw
              case rel =>
                first
                  | exact ⟨_, cnt2, m + n, by go_num, HRn, HSum2, HB3⟩
                  | exact ⟨_, cnt2, m + n, by omega, HRn, HSum2⟩
              case measure => rw [HRn.out.left_eq, HR.out.left_eq]; exact HLt.out
      · have HEr : Hid (S.full more = decide (R < more + S.used)) := hide (HEnd.out (by omega))
        rw [HEr.out]
        go_enter Try.func63, Try.ntmps63
        go_wp2
        go_quiet (fail)
        have HO2 : Hid ((w.drewN nq).ownsMap Try.prog 9 fel b (mapN loc S.seen).length (toD (mapN loc S.seen))) := HO.out
        go_wp2_with (first
          | (at_range; refine wpList_range_own _ rfl _ 79 rfl 9 74 kS Try.underlying79 fel b _ _ rfl HO2.out ?_; intro w0 hrg0 hg0 hs0)
          | go_in)
        try go_frame
        have HR0 := hide hrg0
        have HB0 : Hid (Below w.heap.size w w0) := (below_drewN (Below.refl _ w) nq).grown hg0 (Nat.le_refl _) (fun _ e => by cases e)
        clear hrg0 hg0 hs0
        go_loopw [1] (fun mv wr => ∃ (left : Lit → Bool) (cnt m : Nat), mv = .int .i64 (m : Int) ∧ Hid (wr.ranges Try.prog 9 fel b w.heap.size (mapN loc S.seen).length (toD (mapN loc S.seen)) left cnt) ∧ Hid (m = more + sumL (fun i => (S.file i).all.length) left S.seen) ∧ Hid (Below w.heap.size w wr)) (fun _ wr => wr.rangeLeft b w.heap.size)
        case atStart =>
          refine ⟨_, _, more, rfl, HR0, ?_, HB0⟩
          show _ = _
          rw [sumL_none _ _ (fun p hp => has_seen hp)]; rfl
        case round =>
          obtain ⟨left, cnt, m, rfl, HR, HSum, HB2⟩ := hrel
          have hmb : m ≤ 1099511627776 := by
            have e1 := HSum.out
            have e2 := sumL_le (fun i => (S.file i).all.length) left S.seen
            have e3 := HM.out
            rw [HU.out] at e3
            omega
          go_wp2_with (first
            | (at_next; refine wpList_next_ranges _ rfl _ rfl 9 kS fel Go.Proofs.encStr (fun q : Option Nat => Value.pointer (q.map fun b => ⟨b, 0, none⟩)) (fun key kl hk => by obtain ⟨x, hx, _⟩ := Maps.keyOf_str Try.underlying9 hk; exact ⟨x, hx⟩) (fun v y hv => by rcases fel_inv hv with ⟨q, rfl, _⟩ | ⟨rfl, _⟩; exact ⟨some q, rfl⟩; exact ⟨none, rfl⟩) b w.heap.size _ _ _ _ rfl HR.out ?_ ?_)
            | go_in)
          · intro hc0 hl0
            have HE : Hid (more + S.used = m) := by
              show _ = _
              rw [HSum.out, sumL_all _ _ hl0]; rfl
            obtain ⟨s0, s1, s2, s3, s4, s5, s6, s7, s8, s9, sf⟩ := blk10 ((HB2.out.block d hbl).trans HB.out)
            rw [HRm.out] at s0
            go_wp2
            go_ret
            refine ⟨?_, HB2.out⟩
            rw [HE.out]
            first | rfl | simp [decide_eq_decide] | (congr 2; simp; omega)
          · intro x q kl yd yp w2 cnt2 hkey hlk hv hat hrg2 hlt hg2 hs2 hen
            clear hs2
            obtain ⟨x', ex, rfl, _⟩ := Maps.keyOf_str Try.underlying9 hkey
            obtain rfl : x = x' := encStr_inj ex
            obtain ⟨i, hi, rfl⟩ : ∃ i, lookN S.seen x = some i ∧ q = some (loc i) := by
              have h1 := hat (.lit (.int .i64 (-2)))
              rw [toD_at, mapN_look] at h1
              cases hlo : lookN S.seen x with
              | none => rw [hlo] at h1; rcases fel_inv hv with ⟨c, _, h2⟩ | ⟨_, h2⟩ <;> (rw [← h1] at h2; simp at h2; try omega)
              | some i =>
                rw [hlo] at h1
                refine ⟨i, rfl, ?_⟩
                rcases fel_inv hv with ⟨c, h3, h2⟩ | ⟨_, h2⟩
                · rw [← h1] at h2
                  simp at h2
                  cases q with
                  | none => simp at h3
                  | some q => simp at h3; rw [h3]; congr 1; omega
                · rw [← h1] at h2; simp at h2
            have hmem := (look_mem HS.out).1 hi
            have HF := hide (HD.out.fl i _ (S.file_some (HI.out _ hmem)))
            have hll := HF.out.lt
            obtain ⟨fs, fu, hfl, _, _⟩ := HF.out.fl
            have HB3 : Hid (Below w.heap.size w w2) := HB2.out.grown hg2 HB2.out.size (fun j e => by cases e; exact Nat.le_refl _)
            obtain ⟨z0, z1, z2, zf⟩ := blk3 ((HB3.out.block (loc i) hll).trans hfl.blk)
            have HS2 := hide (sumL_step (fun i => (S.file i).all.length) hlk S.seen HS.out.nodup hmem)
            have HLe := hide (sumL_le (fun i => (S.file i).all.length) (fun z => left z && !z.sameKey (.string x)) S.seen)
            have hsz2 : m + (S.file i).all.length ≤ 1099511627776 := by
              have e1 := HS2.out
              have e2 := HLe.out
              have e3 := HM.out
              have e4 := HSum.out
              rw [HU.out] at e3
              omega
            have HSum2 : Hid (m + (S.file i).all.length = more + sumL (fun i => (S.file i).all.length) (fun z => left z && !z.sameKey (.string x)) S.seen) := by
              show _ = _
              have e1 := HS2.out
              have e4 := HSum.out
              omega
            have HRn := hide hrg2
            have HLt := hide hlt
            clear hat hv hkey hlk hrg2 hlt hg2 hmem hfl z0 z1
            generalize (S.file i).all.length = n at *
            have hll2 := Nat.lt_of_lt_of_le hll HB3.out.size
            go_wp2
            go_roundw
            case rel =>
              first
                | exact ⟨_, cnt2, m + n, by go_num, HRn, HSum2, HB3⟩
                | exact ⟨_, cnt2, m + n, by omega, HRn, HSum2⟩
            case measure => rw [HRn.out.left_eq, HR.out.left_eq]; exact HLt.out
    · have HEr : Hid (S.full more = decide (R < more + S.used)) := hide (HEnd.out (by omega))
      rw [HEr.out]
      go_enter Try.func63, Try.ntmps63
      go_wp2
      go_quiet (fail)
      have HO2 : Hid ((w.drewN nq).ownsMap Try.prog 9 fel b (mapN loc S.seen).length (toD (mapN loc S.seen))) := HO.out
      go_wp2_with (first
        | (at_range; refine wpList_range_own _ rfl _ 79 rfl 9 74 kS Try.underlying79 fel b _ _ rfl HO2.out ?_; intro w0 hrg0 hg0 hs0)
        | go_in)
      try go_frame
      have HR0 := hide hrg0
      have HB0 : Hid (Below w.heap.size w w0) := (below_drewN (Below.refl _ w) nq).grown hg0 (Nat.le_refl _) (fun _ e => by cases e)
      clear hrg0 hg0 hs0
      go_loopw [1] (fun mv wr => ∃ (left : Lit → Bool) (cnt m : Nat), mv = .int .i64 (m : Int) ∧ Hid (wr.ranges Try.prog 9 fel b w.heap.size (mapN loc S.seen).length (toD (mapN loc S.seen)) left cnt) ∧ Hid (m = more + sumL (fun i => (S.file i).all.length) left S.seen) ∧ Hid (Below w.heap.size w wr)) (fun _ wr => wr.rangeLeft b w.heap.size)
      case atStart =>
        refine ⟨_, _, more, rfl, HR0, ?_, HB0⟩
        show _ = _
        rw [sumL_none _ _ (fun p hp => has_seen hp)]; rfl
      case round =>
        obtain ⟨left, cnt, m, rfl, HR, HSum, HB2⟩ := hrel
        have hmb : m ≤ 1099511627776 := by
          have e1 := HSum.out
          have e2 := sumL_le (fun i => (S.file i).all.length) left S.seen
          have e3 := HM.out
          rw [HU.out] at e3
          omega
        go_wp2_with (first
          | (at_next; refine wpList_next_ranges _ rfl _ rfl 9 kS fel Go.Proofs.encStr (fun q : Option Nat => Value.pointer (q.map fun b => ⟨b, 0, none⟩)) (fun key kl hk => by obtain ⟨x, hx, _⟩ := Maps.keyOf_str Try.underlying9 hk; exact ⟨x, hx⟩) (fun v y hv => by rcases fel_inv hv with ⟨q, rfl, _⟩ | ⟨rfl, _⟩; exact ⟨some q, rfl⟩; exact ⟨none, rfl⟩) b w.heap.size _ _ _ _ rfl HR.out ?_ ?_)
          | go_in)
        · intro hc0 hl0
          have HE : Hid (more + S.used = m) := by
            show _ = _
            rw [HSum.out, sumL_all _ _ hl0]; rfl
          obtain ⟨s0, s1, s2, s3, s4, s5, s6, s7, s8, s9, sf⟩ := blk10 ((HB2.out.block d hbl).trans HB.out)
          rw [HRm.out] at s0
          go_wp2
          go_ret
          refine ⟨?_, HB2.out⟩
          rw [HE.out]
          first | rfl | simp [decide_eq_decide] | (congr 2; simp; omega)
        · intro x q kl yd yp w2 cnt2 hkey hlk hv hat hrg2 hlt hg2 hs2 hen
          clear hs2
          obtain ⟨x', ex, rfl, _⟩ := Maps.keyOf_str Try.underlying9 hkey
          obtain rfl : x = x' := encStr_inj ex
          obtain ⟨i, hi, rfl⟩ : ∃ i, lookN S.seen x = some i ∧ q = some (loc i) := by
            have h1 := hat (.lit (.int .i64 (-2)))
            rw [toD_at, mapN_look] at h1
            cases hlo : lookN S.seen x with
            | none => rw [hlo] at h1; rcases fel_inv hv with ⟨c, _, h2⟩ | ⟨_, h2⟩ <;> (rw [← h1] at h2; simp at h2; try omega)
            | some i =>
              rw [hlo] at h1
              refine ⟨i, rfl, ?_⟩
              rcases fel_inv hv with ⟨c, h3, h2⟩ | ⟨_, h2⟩
              · rw [← h1] at h2
                simp at h2
                cases q with
                | none => simp at h3
                | some q => simp at h3; rw [h3]; congr 1; omega
              · rw [← h1] at h2; simp at h2
          have hmem := (look_mem HS.out).1 hi
          have HF := hide (HD.out.fl i _ (S.file_some (HI.out _ hmem)))
          have hll := HF.out.lt
          obtain ⟨fs, fu, hfl, _, _⟩ := HF.out.fl
          have HB3 : Hid (Below w.heap.size w w2) := HB2.out.grown hg2 HB2.out.size (fun j e => by cases e; exact Nat.le_refl _)
          obtain ⟨z0, z1, z2, zf⟩ := blk3 ((HB3.out.block (loc i) hll).trans hfl.blk)
          have HS2 := hide (sumL_step (fun i => (S.file i).all.length) hlk S.seen HS.out.nodup hmem)
          have HLe := hide (sumL_le (fun i => (S.file i).all.length) (fun z => left z && !z.sameKey (.string x)) S.seen)
          have hsz2 : m + (S.file i).all.length ≤ 1099511627776 := by
            have e1 := HS2.out
            have e2 := HLe.out
            have e3 := HM.out
            have e4 := HSum.out
            rw [HU.out] at e3
            omega
          have HSum2 : Hid (m + (S.file i).all.length = more + sumL (fun i => (S.file i).all.length) (fun z => left z && !z.sameKey (.string x)) S.seen) := by
            show _ = _
            have e1 := HS2.out
            have e4 := HSum.out
            omega
          have HRn := hide hrg2
          have HLt := hide hlt
          clear hat hv hkey hlk hrg2 hlt hg2 hmem hfl z0 z1
          generalize (S.file i).all.length = n at *
          have hll2 := Nat.lt_of_lt_of_le hll HB3.out.size
          go_wp2
          go_roundw
          case rel =>
            first
              | exact ⟨_, cnt2, m + n, by go_num, HRn, HSum2, HB3⟩
              | exact ⟨_, cnt2, m + n, by omega, HRn, HSum2⟩
          case measure => rw [HRn.out.left_eq, HR.out.left_eq]; exact HLt.out

end Go.Proofs.Ytlpafgjgoheomaa
