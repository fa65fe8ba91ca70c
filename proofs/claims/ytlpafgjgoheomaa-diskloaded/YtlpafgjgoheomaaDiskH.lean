import Derived.Test.YtlpafgjgoheomaaDiskG
namespace Go.Proofs.Ytlpafgjgoheomaa
open Go.RowKit Go.Maps

def St.appendR (S : St) (x : Nm) (b : List Nat) : Nat × St :=
  if S.off then (45, S) else if isNm x = false ∨ (lookN S.seen x = none ∧ 64 ≤ S.seen.length) then (41, S) else
  if S.stroked.full b.length then (if S.power = 0 then 44 else S.power, S.stroked) else
  match lookN S.seen x with
  | some i => (S.power, S.stroked.turn i ((S.file i).add b))
  | none => (S.power, ((S.stroked.made ⟨[], []⟩).ren ⟨[], x, S.files.length⟩).turn S.files.length ((⟨[], []⟩ : Fil).add b))

theorem used_stroked (S : St) : S.stroked.used = S.used := rfl
theorem alien_below {K K' : Knd} {o : Nat} {w w' : World} {p : Nat × Nat → Prop} {sp : Option Addr} {xs : List Nat} (h : Alien K o sp xs) (hk : Kp p K K' w w') (hl : xs = [] ∨ ∀ g q, sp = some ⟨g, q, none⟩ → g < w.heap.size) : Alien K' o sp xs := by
  rcases hl with h0 | hl
  · exact Or.inl h0
  · exact h.imp id (fun h g q e => by rw [hk.same g (hl g q e)]; exact h g q e)
theorem bytes_ow {w w' : World} {K K' : Knd} {o : Nat} {sp : Option Addr} {xs : List Nat} (h : Bytes w sp xs) (ha : Alien K o sp xs) (hk : Kp (Ow o) K K' w w') : Bytes w' sp xs := by
  rcases ha with h0 | ha
  · exact ⟨h.small, Or.inl h0⟩
  · exact bytes_kept h hk.size (fun g q e hg => hk.block g hg (ha g q e))
theorem fk_new {w : World} {K : Knd} {o i b : Nat} (hb : w.heap[b]? = some (.cells #[.slice none 0 0, .slice none 0 0, .int .i64 0] 90 (0, 0))) (hk : K b = (o, 5 + 3 * i)) : Fk w K o i b ⟨[], []⟩ :=
  ⟨hk, _, _, ⟨hb, ⟨rfl, Or.inl ⟨rfl, rfl⟩⟩, ⟨rfl, Or.inl ⟨rfl, rfl⟩⟩, ⟨fun x hx => (by cases hx), fun k u hu => by simp at hu⟩⟩, fun g hg => by simp [Value.ownBlock] at hg, fun g hg => by simp [Value.ownBlock] at hg⟩

/-- What the calls behind the look-up are given. -/
structure Ap (w : World) (K : Knd) (o d : Nat) (S : St) (sp : Option Addr) (xs : List Nat) (k : Nat) : Prop where
  inv : Inv S
  sz : Sz S k
  kb : k + xs.length ≤ 549755813888
  by_ : Bytes w sp xs
  al : Alien K o sp xs
  lt : xs = [] ∨ ∀ g q, sp = some ⟨g, q, none⟩ → g < w.heap.size

set_option maxRecDepth 100000 in
set_option maxHeartbeats 2000000 in
theorem Append_any (w : World) (K : Knd) (o d : Nat) (S : St) (h : Dk w K o d S) (k : Nat) (x : Nm) (hx : x.length ≤ 140737488355328) (sp : Option Addr) (m cap : Nat) (xs : List Nat) (hxm : xs.length = m) (ha : Ap w K o d S sp xs k) :
    Calls Try.prog 49 #[.pointer (some ⟨d, 0, none⟩), .string ⟨x.toArray⟩, .slice sp m cap] w fun e w' => ∃ K', e = .returned (.int .i64 ((S.appendR x xs).1 : Int)) ∧ Dk w' K' o d (S.appendR x xs).2 ∧ Kp (Ow o) K K' w w' := by
  obtain ⟨loc, sv, nv, cv, hm⟩ := h
  have HD := hide hm
  have HA := hide ha
  have hb := hm.blk
  unfold dcells at hb
  obtain ⟨q0, q1, q2, q3, q4, q5, q6, q7, q8, q9, qf⟩ := blk10 hb
  have HNm := hide (fileName_any w x hx)
  have hlen := fun ty => hm.sn.mp.len ty
  rw [mapN_len] at hlen
  have hlk := hm.sn.mp.look x (by unfold maxLen; omega)
  rw [mapN_look] at hlk
  have HX := hide hxm
  by_cases ho : S.off = true
  · have e0 : S.appendR x xs = (45, S) := by unfold St.appendR; rw [if_pos ho]
    rw [e0]
    rw [ho] at q9
    clear e0 hlk hlen hm hb
    go_enter Try.func49, Try.ntmps49
    go_wp2
    go_ret
    exact ⟨K, rfl, ⟨loc, sv, nv, cv, HD.out⟩, Kp.refl _ _ _⟩
  have ho' : S.off = false := by simpa using ho
  rw [ho'] at q9
  by_cases hn : isNm x = true
  case neg =>
    have hn' : isNm x = false := by simpa using hn
    rw [hn'] at HNm
    have e0 : S.appendR x xs = (41, S) := by unfold St.appendR; rw [if_neg ho, if_pos (Or.inl hn')]
    rw [e0]
    generalize (lookN S.seen x).map loc = lo at *
    clear e0 hlen hm hb
    go_enter Try.func49, Try.ntmps49
    go_wp2_with fail
    refine HNm.out.mono ?_
    rintro e w2 ⟨rfl, rfl⟩
    go_wp2
    go_ret
    exact ⟨K, rfl, ⟨loc, sv, nv, cv, HD.out⟩, Kp.refl _ _ _⟩
  rw [hn] at HNm
  by_cases hfull : lookN S.seen x = none ∧ 64 ≤ S.seen.length
  · have e0 : S.appendR x xs = (41, S) := by unfold St.appendR; rw [if_neg ho, if_pos (Or.inr hfull)]
    rw [e0]
    obtain ⟨f1, f2⟩ := hfull
    rw [f1] at hlk
    simp only [Option.map_none] at hlk
    have f2' : (64 : Int) ≤ (S.seen.length : Int) := by omega
    clear e0 hm hb
    go_enter Try.func49, Try.ntmps49
    go_wp2_with fail
    refine HNm.out.mono ?_
    rintro e w2 ⟨rfl, rfl⟩
    go_wp2
    go_ret
    exact ⟨K, rfl, ⟨loc, sv, nv, cv, HD.out⟩, Kp.refl _ _ _⟩
  have e0 : S.appendR x xs = if S.stroked.full m then (if S.power = 0 then 44 else S.power, S.stroked) else
      match lookN S.seen x with
      | some i => (S.power, S.stroked.turn i ((S.file i).add xs))
      | none => (S.power, ((S.stroked.made ⟨[], []⟩).ren ⟨[], x, S.files.length⟩).turn S.files.length ((⟨[], []⟩ : Fil).add xs)) := by
    unfold St.appendR; rw [if_neg ho, if_neg (by rintro (h | h); rw [hn] at h; cases h; exact hfull h), hxm]
  rw [e0]
  have HSk := hide (stroke_any w K o d loc sv nv cv S hm (by have := ha.sz.st; have := ha.kb; omega) (by have := ha.sz.pl; have := ha.kb; omega))
  have HPw := hide (power_or S)
  have HFu := hide (fun (w3 : World) (h3 : Dm w3 K o d loc sv nv cv S.stroked) => full_any w3 K o d loc sv nv cv S.stroked h3 m ha.inv.srt (fun p hp => (ha.inv.ins p hp).1) (by have h1 := ha.inv.used; have h2 := ha.inv.room; have h3 := ha.kb; rw [used_stroked]; omega))
  have HN2 := hide (nm_len hn)
  clear e0 hb hm
  cases hl : lookN S.seen x with
  | some i =>
    rw [hl] at hlk
    simp only [Option.map_some] at hlk
    have hfi := St.seen_file ha.inv hl
    have HFs := hide (St.file_some hfi)
    have HLe := hide (St.file_le ha.inv hl)
    have HU := hide (ha.sz.fl _ (List.mem_of_getElem? (St.file_some hfi))).2.2
    clear hfull ha hlen hl
    by_cases hfu : S.stroked.full m = true
    · simp only [hfu] at HFu
      rw [if_pos hfu]
      generalize S.power = pw at *
      have HOr := hide (fun (w : World) (g : Nat) c0 c1 => or_any w g pw HPw.out c0 c1)
      obtain ⟨rr, hrr⟩ : ∃ rr : Nat, (if pw = 0 then 44 else pw) = rr := ⟨_, rfl⟩
      simp only [hrr] at HOr ⊢
      clear hrr
      all_goals
        go_enter Try.func49, Try.ntmps49
        go_wp2_with fail
        refine HNm.out.mono ?_
        rintro e w2 ⟨rfl, rfl⟩
        go_wp2_with fail
        refine HSk.out.mono ?_
        rintro e w3 ⟨rfl, hd3, hk3⟩
        have HD3 := hide hd3
        have HK3 := hide hk3
        clear hd3 hk3
        go_wp2_with fail
        refine (HFu.out _ HD3.out).mono ?_
        rintro e w4 ⟨rfl, hb4⟩
        have HB4 := hide hb4
        clear hb4
        go_wp2_with fail
        refine (HOr.out _ w4.heap.size (by simp) (by simp)).mono ?_
        rintro e w5 ⟨rfl, rfl⟩
        go_wp2
        go_ret
        exact ⟨_, rfl, ⟨loc, sv, nv, cv, HD3.out.kept (kp_below (HB4.out.alloc HB4.out.size _) (fun _ => False) K (0, 0)) (fun _ h => h)⟩, (HK3.out.mono (fun k hk => by rw [hk])).trans ((kp_below (HB4.out.alloc HB4.out.size _) (fun _ => False) K (0, 0)).mono (fun k hk => hk.elim))⟩
    · have hfu' : S.stroked.full m = false := by simpa using hfu
      simp only [hfu'] at HFu
      rw [if_neg hfu]
      simp only
      generalize S.power = pw at *
      go_enter Try.func49, Try.ntmps49
      go_wp2_with fail
      refine HNm.out.mono ?_
      rintro e w2 ⟨rfl, rfl⟩
      go_wp2_with fail
      refine HSk.out.mono ?_
      rintro e w3 ⟨rfl, hd3, hk3⟩
      have HD3 := hide hd3
      have HK3 := hide hk3
      clear hd3 hk3
      go_wp2_with fail
      refine (HFu.out _ HD3.out).mono ?_
      rintro e w4 ⟨rfl, hb4⟩
      have HB4 := hide hb4
      clear hb4
      have HK4 := hide (kp_below HB4.out (fun _ => False) K (0, 0))
      have HD4 := hide (HD3.out.kept HK4.out (fun _ h => h))
      have HKa := hide ((HK3.out.mono (q := Ow o) (fun k hk => by rw [hk])).trans (HK4.out.mono (fun k hk => hk.elim)))
      go_wp2_with fail
      refine (HD4.out.addF (f := S.file i) HFs.out sp m cap xs HX.out (bytes_ow HA.out.by_ HA.out.al HKa.out) (alien_below HA.out.al HKa.out HA.out.lt) (by have := HLe.out; have := HU.out; have := HA.out.kb; have := HX.out; omega)).mono ?_
      rintro e w5 ⟨K5, rfl, hd5, hk5⟩
      have HD5 := hide hd5
      have HK5 := hide hk5
      clear hd5 hk5
      go_wp2
      go_ret
      exact ⟨K5, rfl, ⟨loc, sv, nv, cv, HD5.out⟩, HKa.out.trans HK5.out⟩
  | none =>
    rw [hl] at hlk
    simp only [Option.map_none] at hlk
    have hm64 : ¬ (64 : Int) ≤ (S.seen.length : Int) := by intro h; exact hfull ⟨hl, by omega⟩
    clear hfull ha hl
    have HXn : Hid (x ≠ []) := hide (by rintro rfl; have := HN2.out.1; simp at this)
    by_cases hfu : S.stroked.full m = true
    · simp only [hfu] at HFu
      rw [if_pos hfu]
      generalize S.power = pw at *
      have HOr := hide (fun (w : World) (g : Nat) c0 c1 => or_any w g pw HPw.out c0 c1)
      obtain ⟨rr, hrr⟩ : ∃ rr : Nat, (if pw = 0 then 44 else pw) = rr := ⟨_, rfl⟩
      simp only [hrr] at HOr ⊢
      clear hrr
      all_goals
        go_enter Try.func49, Try.ntmps49
        go_wp2_with fail
        refine HNm.out.mono ?_
        rintro e w2 ⟨rfl, rfl⟩
        go_wp2_with fail
        refine HSk.out.mono ?_
        rintro e w3 ⟨rfl, hd3, hk3⟩
        have HD3 := hide hd3
        have HK3 := hide hk3
        clear hd3 hk3
        go_wp2_with fail
        refine (HFu.out _ HD3.out).mono ?_
        rintro e w4 ⟨rfl, hb4⟩
        have HB4 := hide hb4
        clear hb4
        go_wp2_with fail
        refine (HOr.out _ w4.heap.size (by simp) (by simp)).mono ?_
        rintro e w5 ⟨rfl, rfl⟩
        go_wp2
        go_ret
        exact ⟨_, rfl, ⟨loc, sv, nv, cv, HD3.out.kept (kp_below (HB4.out.alloc HB4.out.size _) (fun _ => False) K (0, 0)) (fun _ h => h)⟩, (HK3.out.mono (fun k hk => by rw [hk])).trans ((kp_below (HB4.out.alloc HB4.out.size _) (fun _ => False) K (0, 0)).mono (fun k hk => hk.elim))⟩
    · have hfu' : S.stroked.full m = false := by simpa using hfu
      simp only [hfu'] at HFu
      rw [if_neg hfu]
      simp only
      generalize S.power = pw at *
      go_enter Try.func49, Try.ntmps49
      go_wp2_with fail
      refine HNm.out.mono ?_
      rintro e w2 ⟨rfl, rfl⟩
      go_wp2_with fail
      refine HSk.out.mono ?_
      rintro e w3 ⟨rfl, hd3, hk3⟩
      have HD3 := hide hd3
      have HK3 := hide hk3
      clear hd3 hk3
      go_wp2_with fail
      refine (HFu.out _ HD3.out).mono ?_
      rintro e w4 ⟨rfl, hb4⟩
      have HB4 := hide hb4
      clear hb4
      have HK4 := hide (kp_below HB4.out (fun _ => False) K (0, 0))
      have HD4 := hide (HD3.out.kept HK4.out (fun _ h => h))
      have HKa := hide ((HK3.out.mono (q := Ow o) (fun k hk => by rw [hk])).trans (HK4.out.mono (fun k hk => hk.elim)))
      have HMd := hide (HD4.out.madeF (f := ⟨[], []⟩) (b := w4.heap.size) (w' := w4.alloc (.cells #[.slice none 0 0, .slice none 0 0, .int .i64 0] 90)) ((Below.refl _ _).alloc (Nat.le_refl _) _) (fk_new (heap_alloc_new _ _) (by simp)) (fun p hp => (HA.out.inv.inf p hp).1) (fun p hp => (HA.out.inv.ins p hp).1) (fun c hc hne => by
        rcases (HA.out.inv.chg c hc).2 with e | e
        · exact absurd e hne
        · exact e.2))
      have HKb := hide (HKa.out.trans HMd.out.2)
      go_wp2_with fail
      refine (rename_any _ _ _ _ _ _ _ _ _ HMd.out.1 ⟨[], x, S.files.length⟩ (some ⟨w4.heap.size, 0, none⟩) (by rw [if_neg HXn.out]; simp only; rw [show S.files.length = S.stroked.files.length from rfl, upd_same]) (by simp) HN2.out.2 (by have := HA.out.inv.most; show S.seen.length < _; omega) (by have := HA.out.sz.ch; have := HA.out.kb; show S.chg.length < _; omega)).mono ?_
      rintro e w5 ⟨nv5, cv5, K5, rfl, hd5, hk5⟩
      have HD5 := hide hd5
      have HKc := hide (HKb.out.trans hk5)
      clear hd5 hk5
      have HFn : Hid (((S.stroked.made ⟨[], []⟩).ren ⟨[], x, S.files.length⟩).files[S.files.length]? = some ⟨[], []⟩) := by
        show (S.files ++ [_])[S.files.length]? = _
        simp
      have HAd := hide (HD5.out.addF (f := ⟨[], []⟩) HFn.out sp m cap xs HX.out (bytes_ow HA.out.by_ HA.out.al HKc.out) (alien_below HA.out.al HKc.out HA.out.lt) (by have := HA.out.kb; have := HX.out; simp [Fil.all, carryL]; omega))
      rw [show upd loc S.stroked.files.length w4.heap.size S.files.length = w4.heap.size from upd_same _ _ _] at HAd
      go_wp2_with fail
      refine HAd.out.mono ?_
      rintro e w6 ⟨K6, rfl, hd6, hk6⟩
      have HD6 := hide hd6
      have HK6 := hide hk6
      clear hd6 hk6
      go_wp2
      go_ret
      exact ⟨K6, rfl, ⟨_, sv, nv5, cv5, HD6.out⟩, HKc.out.trans HK6.out⟩

end Go.Proofs.Ytlpafgjgoheomaa
