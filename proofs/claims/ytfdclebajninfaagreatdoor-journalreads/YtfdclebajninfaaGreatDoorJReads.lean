import Derived.Test.YtfdclebajninfaaGreatDoorJRefC
import Derived.Test.YtfdclebajninfaaGreatDoorJWake
import Derived.Test.YtfdclebajninfaaGreatDoorJDec
namespace Go.Proofs.YtfdclebajninfaaGreatDoor
open Go.RowKit Go.Maps

def jx1 : Nm := [106]
theorem jx1_ok : isNm jx1 = true ∧ isNm (jx1 ++ newE) = true := ⟨by kernel_rfl, by kernel_rfl⟩
theorem goB_facts : ∀ (f : Nat) (xs : List Nat) (recs : List (List Nat)) (last : Nat), (∀ r ∈ recs, 25 ≤ r.length ∧ r.length ≤ 4194304) → last ≤ 1099511627776 →
    ((goB f xs recs last).2.2.2 = 0 ∨ (goB f xs recs last).2.2.2 = 53) ∧ (∀ r ∈ (goB f xs recs last).1, 25 ≤ r.length ∧ r.length ≤ 4194304) ∧ (goB f xs recs last).1.length ≤ recs.length + xs.length ∧ (goB f xs recs last).2.1 ≤ 1099511627776
  | 0, xs, recs, last, h, hl => ⟨Or.inl rfl, h, Nat.le_add_right _ _, hl⟩
  | f + 1, xs, recs, last, h, hl => by
    unfold goB
    split
    · exact ⟨Or.inl rfl, h, Nat.le_add_right _ _, hl⟩
    split
    · exact ⟨Or.inl rfl, h, Nat.le_add_right _ _, hl⟩
    split
    · exact ⟨Or.inr rfl, h, Nat.le_add_right _ _, hl⟩
    rename_i h0 h9 hok
    split
    · exact ⟨Or.inl rfl, h, Nat.le_add_right _ _, hl⟩
    rename_i hsh
    have hbd := hdOk_bounds (xs := xs) (by simpa using hok)
    split
    · exact ⟨Or.inr rfl, h, Nat.le_add_right _ _, hl⟩
    · rename_i num ps hrr
      split
      · exact ⟨Or.inr rfl, h, Nat.le_add_right _ _, hl⟩
      · have hlen : (xs.take (hdN xs + 13)).length = hdN xs + 13 := by rw [List.length_take]; omega
        obtain ⟨i1, i2, i3, i4⟩ := goB_facts f (xs.drop (hdN xs + 13)) (recs ++ [xs.take (hdN xs + 13)]) num (fun r hr => by
          rcases List.mem_append.1 hr with q | q
          · exact h r q
          · simp at q; subst q; omega) (readR_num hrr).2
        refine ⟨i1, i2, ?_, i4⟩
        rw [List.length_append, List.length_drop] at i3
        simp at i3
        omega
theorem one1_im {w : World} {K : Knd} {g : Nat} {a : Option Addr} {n c : Nat} {Y : List Nat} (hs : ∀ x ∈ Y, x < 256) (hl : Y.length = n) (hn : n ≤ 1099511627776) (hg : w.heap[g]? = some (.cells #[.string ⟨#[106]⟩, .slice a n c] 28 (0, 0))) (hk : K g = (0, 0)) (hr : Rk w K (0, 0) 5 1 (.slice a n c) n (vals Y)) : Im w K (.slice (some ⟨g, 0, none⟩) 1 1) [(jx1, Y)] := by
  subst hl
  refine ⟨fun p hp => by simp at hp; subst hp; exact ⟨hs, hn⟩, [(a, c)], rfl, ⟨⟨rfl, Or.inr ⟨g, 1, _, rfl, Nat.zero_le _, hg, Nat.le_refl _, by unfold maxLen; omega, rfl, rfl⟩⟩, fun g' e => by simp [Value.ownBlock] at e; rw [← e]; exact hk⟩, fun j p d hj hd => ?_⟩
  have hj0 : j = 0 := by have := (List.getElem?_eq_some_iff.1 hj).1; simpa using this
  subst hj0
  simp at hj hd
  subst hj hd
  exact hr
theorem one1_ok {Y : List Nat} {r : Nat} (h : Y.length ≤ r) : okB [(jx1, Y)] r = true := by
  have e : chn [] [(jx1, Y)] = true := by simp [chn]; exact ⟨by kernel_rfl, by kernel_rfl⟩
  unfold okB
  rw [e]
  simp [sumI, h]
theorem one1_v (r : Nat) (Y : List Nat) : (St.laid r [(jx1, Y)]).v jx1 = some Y := by
  simp [St.v, St.laid, imgN, lookN, St.file, Fil.all, carryL]
theorem one1_bytes (r : Nat) (Y : List Nat) : (St.laid r [(jx1, Y)]).bytes jx1 = Y ∧ (St.laid r [(jx1, Y)]).err jx1 = 0 := by
  constructor
  · rw [bytes_view rfl jx1_ok.1, one1_v]; rfl
  · rw [err_view rfl jx1_ok.1, one1_v]; simp
theorem all_small (recs : List (List Nat)) (h : ∀ r ∈ recs, 25 ≤ r.length ∧ r.length ≤ 4194304) : ∀ ps ∈ allOf recs, ps.length ≤ 4096 ∧ ∀ p ∈ ps, p.length ≤ 140737488351232 := fun ps hp => by
  unfold allOf at hp
  obtain ⟨r, hr, rfl⟩ := List.mem_map.1 hp
  have h1 := partsOf_small r
  exact ⟨h1.1, fun p hp2 => by have := h1.2 p hp2; have := h r hr; omega⟩
/-- What lies beside: the argument's box, what came in. -/
structure Jx (W w1 w : World) (K : Knd) (sp : Option Addr) (l c : Nat) (N : Int) (xs : List Nat) : Prop where
  cell : w.cell? ⟨W.heap.size, 0, none⟩ = some (.slice sp l c)
  by' : Bytes w sp xs
  tab : C.Tab w
  bel : Below W.heap.size W w
  k0 : K 0 = (0, 0)
  kp : Kp (fun k => k.1 ≠ 0) (fun _ => (0, 0)) K w1 w
theorem Jx.go {W w1 w w' : World} {K K' : Knd} {sp : Option Addr} {l c : Nat} {N : Int} {xs : List Nat} (h : Jx W w1 w1 (fun _ => (0, 0)) sp l c N xs) (hk : Kp (fun k => k.1 ≠ 0) (fun _ => (0, 0)) K w1 w) (hk2 : Kp (fun k => k.1 ≠ 0) K K' w w') : Jx W w1 w' K' sp l c N xs := by
  have hkk := hk.trans hk2
  have hbl : ∀ b, b < w1.heap.size → w'.heap[b]? = w1.heap[b]? := fun b hb => hkk.block b hb (fun e => e rfl)
  have hb1 : Below w1.heap.size w1 w' := ⟨hkk.os, hkk.tape, hkk.output, hkk.size, hbl⟩
  refine ⟨?_, h.by'.below hb1, h.tab.below hb1 h.tab.pos, h.bel.trans (hb1.mono h.bel.size), hkk.same 0 h.tab.pos, hkk⟩
  rw [hb1.cell (p := ⟨W.heap.size, 0, none⟩) (C.cell_block h.cell)]
  exact h.cell

set_option maxRecDepth 100000 in
set_option maxHeartbeats 4000000 in
theorem jreads_all (W : World) (hT : C.Tab W) (sp : Option Addr) (l c : Nat) (N : Int) (xs : List Nat) (hl : xs.length = l) (hlc : l ≤ c) (hc : c ≤ 9223372036854775807) (hbig : l ≤ 140737488351232) (hx : Bytes W sp xs) :
    Calls Tryz.prog 3 #[.agg #[.slice sp l c, .int .i64 N]] W fun e W' => e = .returned (.bool true) ∧ Below W.heap.size W W' := by
  have hB0 : Below W.heap.size W (W.alloc (.cells #[.slice sp l c, .int .i64 N] 24)) := (Below.refl _ _).alloc (Nat.le_refl _) _
  have hX0 : (W.alloc (.cells #[.slice sp l c, .int .i64 N] 24)).heap[W.heap.size]? = some (.cells #[.slice sp l c, .int .i64 N] 24 (0, 0)) := heap_alloc_new _ _
  have HX := hide hx
  have HL := hide hl
  have HB0 := hide hB0
  have HX0 := hide hX0
  have HT := hide hT
  clear hx hl hB0 hX0 hT
  go_enter Tryz.func3, Tryz.ntmps3
  go_wp2_with fail
  generalize W.alloc (.cells #[.slice sp l c, .int .i64 N] 24) = w0 at *
  refine (wakes_any w0 (HT.out.below HB0.out HT.out.pos)).mono ?_
  rintro e w1 ⟨rfl, hb1⟩
  have HJ1 : Hid (Jx W w1 w1 (fun _ => (0, 0)) sp l c N xs) := by
    have hbw : Below W.heap.size W w1 := HB0.out.trans (hb1.mono HB0.out.size)
    have hblk : w1.heap[W.heap.size]? = _ := (hb1.block _ (lt_of_block HX0.out)).trans HX0.out
    exact ⟨by simp [World.cell?, hblk], HX.out.below hbw, HT.out.below hbw HT.out.pos, hbw, rfl, Kp.refl _ _ _⟩
  have hc1 := HJ1.out.cell
  clear hb1 HX HB0 HX0 HT
  by_cases hlong : 4194304 < l
  · have hlong' : (4194304 : Int) < (l : Int) := by omega
    have HBe := hide HJ1.out.bel
    go_wp2
    go_ret
    exact ⟨rfl, HBe.out⟩
  have hlong' : ¬ (4194304 : Int) < (l : Int) := by omega
  have hw100 : (l : Int) + 100 = ((l + 100 : Nat) : Int) := by omega
  have HCp := hide (copy_any w1 sp l c xs HL.out HJ1.out.by' (by omega))
  clear hw100
  go_wp2_with fail
  refine HCp.out.mono ?_
  rintro e w2 ⟨a2, c2, rfl, ho2, hb2⟩
  obtain ⟨K2, hK2⟩ : ∃ K2, ext (fun _ => (0, 0)) w1.heap.size (0, 0) = K2 := ⟨_, rfl⟩
  have hkp2 := kp_below hb2 (fun k : Nat × Nat => k.1 ≠ 0) (fun _ => (0, 0)) (0, 0)
  rw [hK2] at hkp2
  have HJ2 := hide (HJ1.out.go (Kp.refl _ _ _) hkp2)
  have HR2 : Hid (Rk w2 K2 (0, 0) 5 1 (.slice a2 l c2) l (vals xs)) := ⟨by
    obtain ⟨h1, h2⟩ := ho2
    exact ⟨h1, h2.imp id (fun ⟨g', cap', cur, e1, _, r⟩ => ⟨g', cap', cur, e1, Nat.zero_le _, r⟩)⟩, fun g' e => by
    rcases ho2.2 with ⟨e1, _⟩ | ⟨g3, _, _, e1, e2, _⟩
    · rw [e1] at e; simp [Value.ownBlock] at e
    · rw [e1] at e; simp [Value.ownBlock] at e; subst e; rw [← hK2]; exact ext_new _ _ e2⟩
  clear ho2 hb2 HCp hkp2 hK2 hc1
  go_wp2_with fail
  have hbA : Below w2.heap.size w2 (w2.alloc (.cells #[.string ⟨#[106]⟩, .slice a2 l c2] 28)) := (Below.refl _ _).alloc (Nat.le_refl _) _
  have hIm : Im (w2.alloc (.cells #[.string ⟨#[106]⟩, .slice a2 l c2] 28)) (ext K2 w2.heap.size (0, 0)) (.slice (some ⟨w2.heap.size, 0, none⟩) 1 1) [(jx1, xs)] := one1_im HJ2.out.by'.small HL.out (by omega) (heap_alloc_new _ _) (ext_new _ _ (Nat.le_refl _)) (HR2.out.kept (kp_below hbA (fun _ => False) K2 (0, 0)) (fun h => h))
  have hok1 : okB [(jx1, xs)] (l + 100) = true := one1_ok (by rw [HL.out]; omega)
  have hLd := Load_any _ (ext K2 w2.heap.size (0, 0)) 3 (by decide) (.slice (some ⟨w2.heap.size, 0, none⟩) 1 1) [(jx1, xs)] (l + 100) hIm (fun p hp => by simp at hp; subst hp; show jx1.length ≤ 140737488355328; decide) (by omega) hok1
  rw [show ((l + 100 : Nat) : Int) = (l : Int) + 100 by omega] at hLd
  have HLd := hide hLd
  have HIv := hide (laid_inv (by omega : l + 100 ≤ 16777216) hok1)
  have HSz := hide (laid_sz (by omega : l + 100 ≤ 16777216) hok1 (fun p hp => by simp at hp; subst hp; exact HJ2.out.by'.small))
  have HKA := hide (kp_below hbA (fun k : Nat × Nat => k.1 ≠ 0) K2 (0, 0))
  clear hbA hIm hok1 hLd
  refine HLd.out.mono ?_
  rintro e w3 ⟨d, K3, rfl, hd3, hk3⟩
  have HJ3 := hide (HJ1.out.go HJ2.out.kp (HKA.out.trans (hk3.mono (q := fun k : Nat × Nat => k.1 ≠ 0) (fun k h => by have h' : k.1 = 3 := h; rw [h']; decide))))
  have HD3 := hide hd3
  obtain ⟨S, hS⟩ : ∃ S, St.laid (l + 100) [(jx1, xs)] = S := ⟨_, rfl⟩
  obtain ⟨R, hR⟩ : ∃ R, goB (l + 1) xs [] 0 = R := ⟨_, rfl⟩
  have HFd : Hid (S.found jx1 = R) := by
    show _ = _
    unfold St.found
    rw [← hS, (one1_bytes _ _).1, HL.out]
    exact hR
  have HBy : Hid (S.bytes jx1 = xs ∧ S.err jx1 = 0) := by rw [← hS]; exact one1_bytes _ _
  have HSt : Hid (S.strokes = 0 ∧ S.off = false) := by rw [← hS]; exact ⟨rfl, rfl⟩
  have HFa := hide (goB_facts (l + 1) xs [] 0 (by simp) (by omega))
  rw [hR] at HFa
  rw [hS] at HD3 HIv HSz
  have HR := hide hR
  clear hd3 hk3 HLd HKA HR2 HJ2 hS hR
  have hOp := Open_any w3 K3 3 4 d (by decide) (by decide) S HD3.out HIv.out 0 HSz.out (by omega) HSt.out.2 jx1 jx1_ok.1 jx1_ok.2 HJ3.out.tab HJ3.out.k0
  rw [HFd.out] at hOp
  have HOp : Hid (Calls Tryz.prog 8 #[.pointer (some ⟨d, 0, none⟩), .string ⟨#[106]⟩] w3 fun e w' => ∃ K', Kp (Ow 4) K3 K' w3 w' ∧ ((R.2.2.2 = 0 ∧ ∃ jb, e = .returned (.tuple #[.pointer (some ⟨jb, 0, none⟩), .int .i64 0]) ∧ Jk w' K' 4 d jb (jnew jx1 R)) ∨ (R.2.2.2 ≠ 0 ∧ e = .returned (.tuple #[.pointer none, .int .i64 (R.2.2.2 : Int)])))) := hOp
  clear hOp
  go_wp2_with fail
  refine HOp.out.mono ?_
  rintro e w4 ⟨K4, hk4, hcase⟩
  have HJ4 := hide (HJ1.out.go HJ3.out.kp (hk4.mono (q := fun k : Nat × Nat => k.1 ≠ 0) (fun k h => by have h' : k.1 = 4 := h; rw [h']; decide)))
  have HD4 := hide (HD3.out.kept hk4 (fun n h => by have h' : 3 = 4 := h; omega))
  clear hk4 HOp HJ3 HD3
  have hRd := Read_any w4 K4 3 d S HD4.out HIv.out 0 HSz.out (by omega) jx1 (by decide)
  rw [HBy.out.1, HBy.out.2, HL.out] at hRd
  have HRd : Hid (Calls Tryz.prog 9 #[.pointer (some ⟨d, 0, none⟩), .string ⟨#[106]⟩] w4 fun e w' => ∃ a c, e = .returned (.tuple #[.slice a l c, .int .i64 0]) ∧ w'.ownsRow w4.heap.size 5 1 (.slice a l c) l (vals xs) ∧ Below w4.heap.size w4 w') := hRd
  have HWk := hide (fun w hw => rwalk_any w sp l c xs HL.out hlc hc (by omega) hw)
  rw [HR.out] at HWk
  clear hRd
  obtain ⟨recs, last, tn, er⟩ := R
  obtain ⟨f1, f2, f3, f4⟩ := HFa.out
  simp only at f1 f2 f3 f4
  have HF2 := hide f2
  have HF3 : Hid (recs.length ≤ 4194304) := by show _ ≤ _; simp at f3; have := HL.out; omega
  have hlast : last ≤ 1099511627776 := f4
  clear f2 f3 f4 HFa HFd HR
  rcases hcase with ⟨her, jb, rfl, hj⟩ | ⟨her, rfl⟩
  · obtain rfl : er = 0 := her
    have HJk := hide hj
    clear f1 hj
    go_wp2_with fail
    refine HRd.out.mono ?_
    rintro e w5 ⟨a5, c5, rfl, ho5, hb5⟩
    have hkp5 := kp_below hb5 (fun k : Nat × Nat => k.1 ≠ 0) K4 (0, 0)
    have HJ5 := hide (HJ1.out.go HJ4.out.kp hkp5)
    have HD5 := hide (HD4.out.kept (kp_below hb5 (fun _ => False) K4 (0, 0)) (fun _ h => h))
    have hc5 := HJ5.out.cell
    have HJk5 := hide (HJk.out.kept (kp_below hb5 (fun _ => False) K4 (0, 0)) (fun _ h => h))
    have HEq := hide (eq_same w5 a5 sp l c5 c xs HL.out (by omega) (owns_bytes ho5 HJ5.out.by'.small) HJ5.out.by')
    clear ho5 hb5 hkp5 HRd HJ4 HD4
    go_wp2_with fail
    refine HEq.out.mono ?_
    rintro e w6 ⟨rfl, qq, hw6⟩
    have hstill : Kp (fun _ => False) (ext K4 w4.heap.size (0, 0)) (ext K4 w4.heap.size (0, 0)) w5 w6 := by rw [hw6]; exact (Kp.refl _ _ _).drewN qq
    have hSt := Strokes_any w6 _ 3 d _ (HD5.out.kept hstill (fun _ h => h))
    rw [HSt.out.1] at hSt
    have HStr := hide hSt
    have HJ6 := hide (HJ1.out.go HJ5.out.kp (hstill.mono (q := fun k : Nat × Nat => k.1 ≠ 0) fun _ h => h.elim))
    have HJk6 := hide (HJk5.out.kept hstill (fun _ h => h))
    clear HJk HJk5 hw6 hstill HEq HD5 HJ5 hc5 hSt
    go_wp2_with fail
    refine HStr.out.mono ?_
    rintro e w7 ⟨rfl, h7⟩
    obtain rfl := h7.symm
    clear h7 HStr
    have hc6 := HJ6.out.cell
    have HW6 := hide (HWk.out w6 HJ6.out.by')
    obtain ⟨K6, hK6⟩ : ∃ K6, ext K4 w4.heap.size (0, 0) = K6 := ⟨_, rfl⟩
    rw [hK6] at HJk6 HJ6
    obtain ⟨hw, hhw⟩ : ∃ hw : Nat, how (recs, last, tn, 0) = hw := ⟨_, rfl⟩
    have hhw2 : (tn = true ∧ hw = 1) ∨ (tn = false ∧ hw = 0) := by
      cases tn
      · right; exact ⟨rfl, hhw.symm⟩
      · left; exact ⟨rfl, hhw.symm⟩
    rw [hhw] at HW6
    have HAm := hide (all_small recs HF2.out)
    have HAl : Hid ((allOf recs).length = recs.length) := by show _ = _; simp [allOf]
    have hrl := HF3.out
    clear hK6 hhw HWk
    go_wp2_with fail
    refine HW6.out.mono ?_
    rintro e w8 ⟨rp, c8, a8, rfl, ht8, hb8⟩
    have HB8 := hide (HJ6.out.bel.trans (hb8.mono HJ6.out.bel.size))
    have HT8 := hide (HJ6.out.tab.below hb8 HJ6.out.tab.pos)
    have HJk8 := hide (HJk6.out.kept (kp_below hb8 (fun _ => False) K6 (0, 0)) (fun _ h => h))
    have HTr8 := hide ht8
    obtain ⟨K8, hK8⟩ : ∃ K8, ext K6 w6.heap.size (0, 0) = K8 := ⟨_, rfl⟩
    rw [hK8] at HJk8
    clear ht8 hb8 HW6 hc6 hK8 HJk6 HJ6
    have HAll := hide (All_any w8 K8 4 d jb (jnew jx1 (recs, last, tn, 0)) HJk8.out HF2.out (by show recs.length ≤ _; omega) HT8.out)
    have HAll2 : Hid (Calls Tryz.prog 14 #[.pointer (some ⟨jb, 0, none⟩)] w8 fun e w' => ∃ a c, e = .returned (.slice a recs.length c) ∧ Tro w8.heap.size w' a recs.length c (allOf recs) ∧ Below w8.heap.size w8 w') := HAll.out
    have HLn := hide (fun w K' h => jlen_any w K' 4 d jb (jnew jx1 (recs, last, tn, 0)) h)
    have HNx := hide (fun w K' h => next_any w K' 4 d jb (jnew jx1 (recs, last, tn, 0)) h (by show last < _; omega))
    have HTn := hide (fun w K' h => jtorn_any w K' 4 d jb (jnew jx1 (recs, last, tn, 0)) h)
    have HLn2 : Hid (∀ w K', Jk w K' 4 d jb (jnew jx1 (recs, last, tn, 0)) → Calls Tryz.prog 15 #[.pointer (some ⟨jb, 0, none⟩)] w fun e w' => e = .returned (.int .i64 (recs.length : Int)) ∧ w' = w) := HLn.out
    have HNx2 : Hid (∀ w K', Jk w K' 4 d jb (jnew jx1 (recs, last, tn, 0)) → Calls Tryz.prog 16 #[.pointer (some ⟨jb, 0, none⟩)] w fun e w' => e = .returned (.int .u64 ((last : Int) + 1)) ∧ w' = w) := fun w K' h => (HNx.out w K' h).mono fun e w' ⟨e1, e2⟩ => ⟨by rw [e1]; show Ending.returned (.int .u64 ((last + 1 : Nat) : Int)) = _; rw [show ((last + 1 : Nat) : Int) = (last : Int) + 1 by omega], e2⟩
    have HTn2 : Hid (∀ w K', Jk w K' 4 d jb (jnew jx1 (recs, last, tn, 0)) → Calls Tryz.prog 17 #[.pointer (some ⟨jb, 0, none⟩)] w fun e w' => e = .returned (.bool tn) ∧ w' = w) := HTn.out
    obtain ⟨rl, hrle⟩ : ∃ rl, recs.length = rl := ⟨_, rfl⟩
    rw [hrle] at HAll2 HLn2 HTr8 HAl hrl
    rw [hrle]
    have hz2 : ((hw : Int) == 2) = false := by rcases hhw2 with ⟨_, h⟩ | ⟨_, h⟩ <;> rw [h] <;> rfl
    have hz3 : ¬ (hw : Int) = 2 := by rcases hhw2 with ⟨_, h⟩ | ⟨_, h⟩ <;> rw [h] <;> decide
    clear HAll HLn HNx HTn hrle
    go_wp2_with fail
    refine HAll2.out.mono ?_
    rintro e w9 ⟨a9, c9, rfl, ht9, hb9⟩
    have HTv := hide (trans_val w9 a9 rp rl rl c9 c8 (allOf recs) (allOf recs) HAl.out HAl.out (by omega) (by omega) (ht9.trs HAm.out) ((HTr8.out.below hb9).trs (fun ps hp => (HAm.out ps hp).1)))
    rw [decide_eq_true rfl] at HTv
    have HJk9 := hide (HJk8.out.kept (kp_below hb9 (fun _ => False) K8 (0, 0)) (fun _ h => h))
    have HB9 := hide (HB8.out.trans (hb9.mono HB8.out.size))
    obtain ⟨K9, hK9⟩ : ∃ K9, ext K8 w8.heap.size (0, 0) = K9 := ⟨_, rfl⟩
    rw [hK9] at HJk9
    clear ht9 hb9 hK9 HJk8 HB8 HT8 HTr8 HAll2
    go_wp2_with fail
    refine HTv.out.mono ?_
    rintro e w10 ⟨rfl, q10, hw10⟩
    have hst10 : Kp (fun _ => False) K9 K9 w9 w10 := by rw [hw10]; exact (Kp.refl _ _ _).drewN q10
    have HJk10 := hide (HJk9.out.kept hst10 (fun _ h => h))
    have HB10 : Hid (Below W.heap.size W w10) := by show Below _ _ _; rw [hw10]; exact below_drewN HB9.out q10
    clear hw10 hst10 HTv HJk9 HB9
    go_wp2_with fail
    refine (HLn2.out w10 K9 HJk10.out).mono ?_
    rintro e w11 ⟨rfl, h⟩
    subst h
    go_wp2_with fail
    refine (HNx2.out _ K9 HJk10.out).mono ?_
    rintro e w12 ⟨rfl, h⟩
    subst h
    go_wp2_with fail
    refine (HTn2.out _ K9 HJk10.out).mono ?_
    rintro e w13 ⟨rfl, h⟩
    subst h
    rcases hhw2 with ⟨rfl, rfl⟩ | ⟨rfl, rfl⟩
    · go_wp2
      go_ret
      exact ⟨rfl, HB10.out⟩
    · go_wp2
      go_ret
      exact ⟨rfl, HB10.out⟩
  · obtain rfl : er = 53 := by rcases f1 with h | h; exact absurd h her; exact h
    clear f1 her
    go_wp2_with fail
    refine HRd.out.mono ?_
    rintro e w5 ⟨a5, c5, rfl, ho5, hb5⟩
    have hkp5 := kp_below hb5 (fun k : Nat × Nat => k.1 ≠ 0) K4 (0, 0)
    have HJ5 := hide (HJ1.out.go HJ4.out.kp hkp5)
    have HD5 := hide (HD4.out.kept (kp_below hb5 (fun _ => False) K4 (0, 0)) (fun _ h => h))
    have hc5 := HJ5.out.cell
    have HEq := hide (eq_same w5 a5 sp l c5 c xs HL.out (by omega) (owns_bytes ho5 HJ5.out.by'.small) HJ5.out.by')
    clear ho5 hb5 hkp5 HRd HJ4 HD4
    go_wp2_with fail
    refine HEq.out.mono ?_
    rintro e w6 ⟨rfl, qq, hw6⟩
    have hstill : Kp (fun _ => False) (ext K4 w4.heap.size (0, 0)) (ext K4 w4.heap.size (0, 0)) w5 w6 := by rw [hw6]; exact (Kp.refl _ _ _).drewN qq
    have hSt := Strokes_any w6 _ 3 d _ (HD5.out.kept hstill (fun _ h => h))
    rw [HSt.out.1] at hSt
    have HStr := hide hSt
    have HJ6 := hide (HJ1.out.go HJ5.out.kp (hstill.mono (q := fun k : Nat × Nat => k.1 ≠ 0) fun _ h => h.elim))
    clear hw6 hstill HEq HD5 HJ5 hc5 hSt
    go_wp2_with fail
    refine HStr.out.mono ?_
    rintro e w7 ⟨rfl, h7⟩
    obtain rfl := h7.symm
    clear h7 HStr
    have hc6 := HJ6.out.cell
    have HW6 := hide (HWk.out w6 HJ6.out.by')
    go_wp2_with fail
    refine HW6.out.mono ?_
    rintro e w8 ⟨rp, c8, a8, rfl, ht8, hb8⟩
    have HB8 := hide (HJ6.out.bel.trans (hb8.mono HJ6.out.bel.size))
    clear ht8 hb8 HW6 hc6
    go_wp2
    go_ret
    exact ⟨rfl, HB8.out⟩

end Go.Proofs.YtfdclebajninfaaGreatDoor
