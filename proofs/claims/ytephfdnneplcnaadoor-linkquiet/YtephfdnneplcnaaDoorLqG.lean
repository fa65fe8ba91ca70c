import Derived.Test.YtephfdnneplcnaaDoorLqF
namespace Go.Proofs.YtephfdnneplcnaaDoor
open Go.RowKit

def tB1 (A B : Lk) : Lk := if saysN A = true then hearW B 1 A.known else B
def tA2 (A B : Lk) : Lk := if saysN (tB1 A B) = true then hearW (tickN A) 1 (tB1 A B).known else tickN A
def said (L : Lk) (me other : Int) (l : List Fe) : Prop := (saysN L = false ∧ l = []) ∨ (saysN L = true ∧ ∃ sq, l = [⟨wfr me other L.known, sq, 0⟩])
theorem said_len {L : Lk} {me other : Int} {l : List Fe} (h : said L me other l) : l.length ≤ 1 := by
  rcases h with ⟨_, rfl⟩ | ⟨_, sq, rfl⟩
  · exact Nat.zero_le _
  · exact Nat.le_refl _
/-- The frame that was said last. -/
theorem Qs.last {w wr : World} {pb b0 b1 W M : Nat} {A B : Lk} {sv : Value} {es : List Fe} {e : Fe} (h : Qs w wr pb b0 b1 W M A B sv (es ++ [e])) : ∃ g c, sv = .slice (some ⟨g, 0, none⟩) (es.length + 1) c ∧ es.length + 1 ≤ c ∧ (∀ j v, (feC e)[j]? = some v → wr.cell? ⟨g, es.length * 7 + j, none⟩ = some v) := by
  have hs := h.sent
  rw [List.length_append] at hs
  rcases hs.2 with ⟨_, h1⟩ | ⟨g, c, cur, h1, h2, h3, h4, h5, h6, h7⟩
  · simp at h1
  · refine ⟨g, c, h1, h4, fun j v hv => ?_⟩
    have hj : j < 7 := by
      have := (List.getElem?_eq_some_iff.1 hv).1
      simpa [feC] using this
    have e1 : (sentC (es ++ [e]))[es.length * 7 + j]? = some v := by
      rw [sentC_snoc, List.getElem?_append_right (by rw [sentC_len]; omega), sentC_len]
      simpa using hv
    rw [← h7, List.getElem?_take, if_pos (by simp; omega)] at e1
    simp only [World.cell?, h3]
    simpa using e1
theorem wd_known {L : Lk} {me other : Int} (h : Wd L me other) : L.known ≤ 1 := h.known
set_option maxRecDepth 100000 in
set_option maxHeartbeats 4000000 in
theorem turn_any (w wr : World) (pb b0 b1 W M : Nat) (A B : Lk) (sv : Value) (es : List Fe) (h : Qs w wr pb b0 b1 W M A B sv es) (hes : es.length ≤ 900) :
    Calls Tryd.prog 15 #[.pointer (some ⟨pb, 0, none⟩)] wr fun e w' => e = .returned (.bool true) ∧ ∃ sv' k0 k1, Qs w w' pb b0 b1 W M (tA2 A B) (tickN (tB1 A B)) sv' ((es ++ k0) ++ k1) ∧ said A 0 5 k0 ∧ said (tB1 A B) 5 0 k1 := by
  have HQ := hide h
  clear h
  go_enter Tryd.func15, Tryd.ntmps15
  go_wp2
  go_loopw [3] (fun iv w' => (iv = .int .i64 0 ∧ Hid (w' = wr)) ∨ (iv = .int .i64 1 ∧ Hid (∃ sv1 k0, Qs w w' pb b0 b1 W M (tickN A) (tB1 A B) sv1 (es ++ k0) ∧ said A 0 5 k0)) ∨ (iv = .int .i64 2 ∧ Hid (∃ sv' k0 k1, Qs w w' pb b0 b1 W M (tA2 A B) (tickN (tB1 A B)) sv' ((es ++ k0) ++ k1) ∧ said A 0 5 k0 ∧ said (tB1 A B) 5 0 k1))) (fun iv _ => 2 - (intOf iv).toNat)
  case atStart => exact Or.inl ⟨rfl, rfl⟩
  case round =>
  rcases hrel with ⟨rfl, hwr⟩ | ⟨rfl, HR⟩ | ⟨rfl, HR⟩
  · rename World => wq
    have hwq : wr = wq := Eq.symm hwr
    subst hwq
    clear hwr
    obtain ⟨sa, sc, rfl, hsl, hsc⟩ := HQ.out.form
    obtain ⟨p0, p2, p3, p4, p5, p6, pf, hpb⟩ := HQ.out.cells
    have HTk := hide (tick0 w _ pb b0 b1 W M A B _ _ HQ.out (by first | omega | (simp only [List.length_append]; omega)))
    obtain ⟨el, hel⟩ : ∃ el, es.length = el := ⟨_, rfl⟩
    rw [hel] at p6 hsl
    have HEl := hide hel
    have hel9 : el ≤ 901 := by rw [← hel]; first | omega | (simp only [List.length_append]; omega)
    clear hel
    go_wp2_with fail
    refine HTk.out.mono ?_
    rintro e w2 ⟨rfl, hor⟩
    clear p0 p2 p3 p4 p5 p6 pf hpb HTk
    rcases hor with ⟨hs, hq2⟩ | ⟨hs, sv', sq, hq2⟩
    · have HS := hide hs
      have HT1 : Hid (tB1 A B = B) := by show _ = _; unfold tB1; rw [hs]; rfl
      have HQ2 := hide hq2
      obtain ⟨p0, p2, p3, p4, p5, p6, pf, hpb⟩ := hq2.cells
      rw [HEl.out] at p6
      clear hs hq2
      go_wp2
      refine wp_loop_rounds 1 ?_
      rw [rounds_succ]
      go_wp2
      exact ⟨Or.inr (Or.inl ⟨by go_num, hide ⟨_, [], by rw [List.append_nil, HT1.out]; exact HQ2.out, Or.inl ⟨HS.out, rfl⟩⟩⟩), by simp [intOf]⟩
    · have HS := hide hs
      obtain ⟨kn, hkn⟩ : ∃ kn, A.known = kn := ⟨_, rfl⟩
      have HT1 : Hid (tB1 A B = hearW B 1 kn) := by show _ = _; unfold tB1; rw [if_pos hs, hkn]
      have hk1 : kn ≤ 1 := by rw [← hkn]; exact HQ.out.a.known
      have HKn := hide hkn
      rw [hkn] at hq2
      have HQ2 := hide hq2
      obtain ⟨g, c2, hsv, hc2, hcell⟩ := hq2.last
      subst hsv
      rw [HEl.out] at hc2 hcell
      have HCl := hide hcell
      obtain ⟨p0, p2, p3, p4, p5, p6, pf, hpb⟩ := hq2.cells
      rw [HEl.out] at p6
      clear hs hq2 hkn hcell
      go_wp2
      clear p0 p2 p3 p4 p5 p6 pf hpb
      go_loopw [6] (fun kv w' => (kv = .int .i64 (el : Int) ∧ Hid (w' = w2)) ∨ (kv = .int .i64 ((el : Int) + 1) ∧ Hid (∃ sv', Qs w w' pb b0 b1 W M (tickN A) (hearW B 1 kn) sv' (es ++ [⟨wfr 0 5 kn, sq, 0⟩])))) (fun kv _ => el + 1 - (intOf kv).toNat)
      case atStart => exact Or.inl ⟨rfl, rfl⟩
      case round =>
      rcases hrel with ⟨rfl, hw2⟩ | ⟨rfl, HR2⟩
      · rename World => wz
        have hwz : w2 = wz := Eq.symm hw2
        subst hwz
        clear hw2
        obtain ⟨p0, p2, p3, p4, p5, p6, pf, hpb⟩ := HQ2.out.cells
        rw [HEl.out] at p6
        have c0 : w2.cell? ⟨g, el * 7, none⟩ = some (.int .i64 0) := HCl.out 0 _ rfl
        have c1 : w2.cell? ⟨g, el * 7 + 1, none⟩ = some (.int .i64 5) := HCl.out 1 _ rfl
        have c2' : w2.cell? ⟨g, el * 7 + 2, none⟩ = some (.int .u64 1) := HCl.out 2 _ rfl
        have c3 : w2.cell? ⟨g, el * 7 + 3, none⟩ = some (.int .u64 (kn : Int)) := HCl.out 3 _ rfl
        have c4 : w2.cell? ⟨g, el * 7 + 4, none⟩ = some (.int .u64 0) := HCl.out 4 _ rfl
        have c5 : w2.cell? ⟨g, el * 7 + 5, none⟩ = some (.int .u64 0) := HCl.out 5 _ rfl
        have c6 : w2.cell? ⟨g, el * 7 + 6, none⟩ = some (.slice sq 0 0) := HCl.out 6 _ rfl
        have j0 : (0 : Int) ≤ (el : Int) := by omega
        have j1 : (el : Int) < (el : Int) + 1 := by omega
        have HH := hide (phear1 w w2 pb b0 b1 W M _ _ _ _ HQ2.out kn hk1 sq 0)
        go_wp2_with fail
        refine HH.out.mono ?_
        rintro e w4 ⟨rfl, hq4⟩
        have HQ4 := hide hq4
        clear hq4 HH
        go_wp2
        exact ⟨Or.inr ⟨rfl, hide ⟨_, HQ4.out⟩⟩, by simp [intOf]⟩
      · obtain ⟨sv', hq5⟩ := HR2.out
        have HQ5 := hide hq5
        clear hq5 HR2
        have j1 : ¬ (el : Int) + 1 < (el : Int) + 1 := by omega
        go_wp2
        exact ⟨Or.inr (Or.inl ⟨by go_num, hide ⟨_, [⟨wfr 0 5 kn, sq, 0⟩], by rw [HT1.out]; exact HQ5.out, Or.inr ⟨HS.out, sq, by rw [HKn.out]⟩⟩⟩), by simp [intOf]⟩
  · obtain ⟨sv1, k0, hq1, hk0⟩ := HR.out
    have HQ := hide hq1
    have HK0 := hide hk0
    have hl0 := said_len hk0
    clear hq1 hk0 HR
    obtain ⟨sa, sc, rfl, hsl, hsc⟩ := HQ.out.form
    obtain ⟨p0, p2, p3, p4, p5, p6, pf, hpb⟩ := HQ.out.cells
    have HTk := hide (tick1 w _ pb b0 b1 W M (tickN A) (tB1 A B) _ _ HQ.out (by first | omega | (simp only [List.length_append]; omega)))
    obtain ⟨el, hel⟩ : ∃ el, (es ++ k0).length = el := ⟨_, rfl⟩
    rw [hel] at p6 hsl
    have HEl := hide hel
    have hel9 : el ≤ 901 := by rw [← hel]; first | omega | (simp only [List.length_append]; omega)
    clear hel
    go_wp2_with fail
    refine HTk.out.mono ?_
    rintro e w2 ⟨rfl, hor⟩
    clear p0 p2 p3 p4 p5 p6 pf hpb HTk
    rcases hor with ⟨hs, hq2⟩ | ⟨hs, sv', sq, hq2⟩
    · have HS := hide hs
      have HT1 : Hid (tA2 A B = tickN A) := by show _ = _; unfold tA2; rw [hs]; rfl
      have HQ2 := hide hq2
      obtain ⟨p0, p2, p3, p4, p5, p6, pf, hpb⟩ := hq2.cells
      rw [HEl.out] at p6
      clear hs hq2
      go_wp2
      refine wp_loop_rounds 1 ?_
      rw [rounds_succ]
      go_wp2
      exact ⟨Or.inr (Or.inr ⟨by go_num, hide ⟨_, k0, [], by rw [List.append_nil, HT1.out]; exact HQ2.out, HK0.out, Or.inl ⟨HS.out, rfl⟩⟩⟩), by simp [intOf]⟩
    · have HS := hide hs
      obtain ⟨kn, hkn⟩ : ∃ kn, (tB1 A B).known = kn := ⟨_, rfl⟩
      have HT1 : Hid (tA2 A B = hearW (tickN A) 1 kn) := by show _ = _; unfold tA2; rw [if_pos hs, hkn]
      have hk1 : kn ≤ 1 := by rw [← hkn]; exact HQ.out.b.known
      have HKn := hide hkn
      rw [hkn] at hq2
      have HQ2 := hide hq2
      obtain ⟨g, c2, hsv, hc2, hcell⟩ := hq2.last
      subst hsv
      rw [HEl.out] at hc2 hcell
      have HCl := hide hcell
      obtain ⟨p0, p2, p3, p4, p5, p6, pf, hpb⟩ := hq2.cells
      rw [HEl.out] at p6
      clear hs hq2 hkn hcell
      go_wp2
      clear p0 p2 p3 p4 p5 p6 pf hpb
      go_loopw [6] (fun kv w' => (kv = .int .i64 (el : Int) ∧ Hid (w' = w2)) ∨ (kv = .int .i64 ((el : Int) + 1) ∧ Hid (∃ sv', Qs w w' pb b0 b1 W M (hearW (tickN A) 1 kn) (tickN (tB1 A B)) sv' ((es ++ k0) ++ [⟨wfr 5 0 kn, sq, 0⟩])))) (fun kv _ => el + 1 - (intOf kv).toNat)
      case atStart => exact Or.inl ⟨rfl, rfl⟩
      case round =>
      rcases hrel with ⟨rfl, hw2⟩ | ⟨rfl, HR2⟩
      · rename World => wz
        have hwz : w2 = wz := Eq.symm hw2
        subst hwz
        clear hw2
        obtain ⟨p0, p2, p3, p4, p5, p6, pf, hpb⟩ := HQ2.out.cells
        rw [HEl.out] at p6
        have c0 : w2.cell? ⟨g, el * 7, none⟩ = some (.int .i64 5) := HCl.out 0 _ rfl
        have c1 : w2.cell? ⟨g, el * 7 + 1, none⟩ = some (.int .i64 0) := HCl.out 1 _ rfl
        have c2' : w2.cell? ⟨g, el * 7 + 2, none⟩ = some (.int .u64 1) := HCl.out 2 _ rfl
        have c3 : w2.cell? ⟨g, el * 7 + 3, none⟩ = some (.int .u64 (kn : Int)) := HCl.out 3 _ rfl
        have c4 : w2.cell? ⟨g, el * 7 + 4, none⟩ = some (.int .u64 0) := HCl.out 4 _ rfl
        have c5 : w2.cell? ⟨g, el * 7 + 5, none⟩ = some (.int .u64 0) := HCl.out 5 _ rfl
        have c6 : w2.cell? ⟨g, el * 7 + 6, none⟩ = some (.slice sq 0 0) := HCl.out 6 _ rfl
        have j0 : (0 : Int) ≤ (el : Int) := by omega
        have j1 : (el : Int) < (el : Int) + 1 := by omega
        have HH := hide (phear0 w w2 pb b0 b1 W M _ _ _ _ HQ2.out kn hk1 sq 0)
        go_wp2_with fail
        refine HH.out.mono ?_
        rintro e w4 ⟨rfl, hq4⟩
        have HQ4 := hide hq4
        clear hq4 HH
        go_wp2
        exact ⟨Or.inr ⟨rfl, hide ⟨_, HQ4.out⟩⟩, by simp [intOf]⟩
      · obtain ⟨sv', hq5⟩ := HR2.out
        have HQ5 := hide hq5
        clear hq5 HR2
        have j1 : ¬ (el : Int) + 1 < (el : Int) + 1 := by omega
        go_wp2
        exact ⟨Or.inr (Or.inr ⟨by go_num, hide ⟨_, k0, [⟨wfr 5 0 kn, sq, 0⟩], by rw [HT1.out]; exact HQ5.out, HK0.out, Or.inr ⟨HS.out, sq, by rw [HKn.out]⟩⟩⟩), by simp [intOf]⟩
  · have HR' := hide HR.out
    clear HR
    go_wp2
    go_ret
    exact ⟨rfl, HR'.out⟩
end Go.Proofs.YtephfdnneplcnaaDoor
