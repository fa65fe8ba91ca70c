import Derived.Test.YtlpafgjgoheomaaAppB
namespace Go.Proofs.Ytlpafgjgoheomaa
open Go.RowKit Go.Maps

abbrev K0 : Knd := fun _ => (0, 0)
theorem sum_take {img : Image} {k : Nat} {p : Nm × List Nat} (hp : img[k]? = some p) : ((img.take (k + 1)).map fun p => p.2.length).sum = ((img.take k).map fun p => p.2.length).sum + p.2.length := by
  rw [take_snoc' img k p hp]; simp
theorem sum_take_le (img : Image) (k : Nat) : ((img.take k).map fun p => p.2.length).sum ≤ (img.map fun p => p.2.length).sum := by
  have h : img.map (fun p => p.2.length) = (img.take k).map (fun p => p.2.length) ++ (img.drop k).map (fun p => p.2.length) := by rw [← List.map_append, List.take_append_drop]
  rw [h, List.sum_append]; omega

/-- A row of steps of a kind. -/
structure Opk (w : World) (K : Knd) (a : Option Addr) (n c : Nat) (ops : List Opm) : Prop where
  row : Rk w K (0, 0) 57 10 (.slice a n c) n (opvs ops)
  len : ops.length = n
  ok : ∀ q ∈ ops, OpOk w K q
theorem Opk.kept {p : Nat × Nat → Prop} {K K' : Knd} {w w' : World} {a : Option Addr} {n c : Nat} {ops : List Opm} (h : Opk w K a n c ops) (hk : Kp p K K' w w') (hp : ¬ p (0, 0)) : Opk w' K' a n c ops :=
  ⟨h.row.kept hk hp, h.len, fun q hq => (h.ok q hq).kept hk hp⟩
/-- Over steps: a disk, the steps, what lay before. -/
structure Lp (W w : World) (K : Knd) (d : Nat) (S : St) (k : Nat) (a : Option Addr) (n c : Nat) (ops : List Opm) : Prop where
  dk : Dk w K 1 d S
  inv : Inv S
  sz : Sz S k
  ops : Opk w K a n c ops
  old : ∀ b, b < W.heap.size → K b = (0, 0)
  bel : Below W.heap.size W w
/-- Behind a call that lays new blocks alone. -/
theorem Lp.below {W w w' : World} {K : Knd} {d : Nat} {S : St} {k : Nat} {a : Option Addr} {n c : Nat} {ops : List Opm} (h : Lp W w K d S k a n c ops) (hb : Below w.heap.size w w') : Lp W w' (ext K w.heap.size (0, 0)) d S k a n c ops :=
  have kb := kp_below hb (fun _ => False) K (0, 0)
  ⟨h.dk.kept kb (fun _ h => h), h.inv, h.sz, h.ops.kept kb (fun h => h), fun b hb' => (ext_old K _ (Nat.lt_of_lt_of_le hb' h.bel.size)).trans (h.old b hb'), h.bel.trans (hb.mono h.bel.size)⟩
theorem Lp.played {W w w' : World} {K K' : Knd} {d : Nat} {S S' : St} {k k' : Nat} {a : Option Addr} {n c : Nat} {ops : List Opm} (h : Lp W w K d S k a n c ops) (hd : Dk w' K' 1 d S') (hv : Inv S') (hz : Sz S' k') (hk : Kp (Ow 1) K K' w w') : Lp W w' K' d S' k' a n c ops :=
  ⟨hd, hv, hz, h.ops.kept hk (by simp), fun b hb => (hk.same b (Nat.lt_of_lt_of_le hb h.bel.size)).trans (h.old b hb), hk.below h.bel (fun b hb => by rw [h.old b hb]; simp)⟩

/-- What is told and what is put together, both there. -/
theorem eq_ready {w w10 w11 : World} {ca a11 na : Option Addr} {L0 cc L c11 : Nat} {xs ys : List Nat} {zs : List Nat} (hb : Below w.drew.heap.size w.drew w10) (hr : w10.ownsRow w.drew.heap.size 5 1 (.slice ca L0 cc) L0 (vals xs)) (ho : w11.ownsRow 0 5 1 (.slice a11 L c11) L (vals xs ++ vals ys))
    (hg : w10.grownBy w11 (Value.slice ca L0 cc).ownBlock) (hn : Bytes w na zs) (hs : ∀ x ∈ xs ++ ys, x < 256) : Bytes w11 na zs ∧ Bytes w11 a11 (xs ++ ys) ∧ (∀ b, b < w.heap.size → w11.cell? ⟨b, 5, none⟩ = w10.cell? ⟨b, 5, none⟩) ∧ Below w.heap.size w w11 := by
  have hne : ∀ g, g < w.heap.size → some g ≠ (Value.slice ca L0 cc).ownBlock := fun g hg2 e => by
    rcases hr.2 with ⟨e1, _⟩ | ⟨g2, _, _, e1, e2, _⟩
    · rw [e1] at e; simp [Value.ownBlock] at e
    · rw [e1] at e; simp [Value.ownBlock] at e
      have : w.drew.heap.size = w.heap.size := rfl
      omega
  refine ⟨?_, owns_bytes (by rw [vals_app]; exact ho) hs, fun b hb2 => World.cell?_of_block (hg.block b (Nat.lt_of_lt_of_le hb2 hb.size) (hne b hb2)), ⟨hg.os.trans hb.os, hg.tape.trans hb.tape, hg.output.trans hb.output, Nat.le_trans hb.size hg.size, fun g hg2 => (hg.block g (Nat.lt_of_lt_of_le hg2 hb.size) (hne g hg2)).trans (hb.block g hg2)⟩⟩
  exact bytes_kept hn (Nat.le_trans hb.size hg.size) (fun g o _ hg2 => (hg.block g (Nat.lt_of_lt_of_le hg2 hb.size) (hne g hg2)).trans (hb.block g hg2))

theorem lfind_len (w : World) (K : Knd) (v : Value) (img : Image) (h : Im w K v img) (hn : img.length ≤ 1099511627776) (x : Nm) {B : List Nat} {n : Nat} {t : Bool} (ht : tells (imgFind img x) = (B, t)) (hl : B.length = n) :
    Calls Try.prog 27 #[v, .string ⟨x.toArray⟩] w fun e w' => ∃ a c, e = .returned (.tuple #[.slice a n c, .bool t]) ∧ Rk w K (0, 0) 5 1 (.slice a n c) n (vals B) ∧ w' = w := by
  have := lfind_any w K v img h hn x
  rw [ht] at this
  simp only [hl] at this
  exact this

set_option maxRecDepth 100000 in
set_option maxHeartbeats 4000000 in
theorem room_all (W : World) (r : Int) (sp : Option Addr) (m cap : Nat) (ops : List Opm) (hm : ops.length = m) (hml : m ≤ 140737488355328) (hI : Opi W sp ops) (hok : ∀ q ∈ ops, OpOk W K0 q ∧ q.bc ≤ 9223372036854775807) :
    Calls Try.prog 8 #[.agg #[.int .i64 r, .slice sp m cap]] W fun e w' => e = .returned (.bool true) ∧ Below W.heap.size W w' := by
  have HI := hide hI
  have HM := hide hm
  have HOk := hide hok
  have hr5 := Int.emod_lt_of_pos r (show (0 : Int) < 400 by omega)
  have hr4 := Int.emod_nonneg r (show (400 : Int) ≠ 0 by omega)
  have HWi : Hid (∀ w, Calls Try.prog 29 #[.int .i64 r, .int .i64 400] w fun e w' => e = .returned (.int .i64 ((r % 400).toNat : Int)) ∧ w' = w) := hide (fun w => within_any w r 400 (by omega) (by omega))
  obtain ⟨ρ, hρ⟩ : ∃ ρ : Nat, (r % 400).toNat = ρ := ⟨_, rfl⟩
  have hρ4 : ρ < 400 := by omega
  rw [hρ] at HWi
  have HNw := hide (fun w => New_ok w ρ (by omega))
  clear hI hm hok hr4 hr5 hρ
  go_enter Try.func8, Try.ntmps8
  go_wp2_with fail
  refine (HWi.out _).mono ?_
  rintro e w1 ⟨rfl, rfl⟩
  go_wp2_with fail
  refine (HNw.out _).mono ?_
  rintro e w2 ⟨rfl, hw2⟩
  have HD2 : Hid (Dk w2 (newK K0 (W.heap.size + 1) (1, 1)) 1 (W.heap.size + 1) (St.new ρ)) := by
    show Dk _ _ _ _ _
    rw [hw2]
    have := new_dk (W.alloc (.cells #[.int .i64 r, .slice sp m cap] 68)) K0 1 ρ
    rw [show (W.alloc (.cells #[.int .i64 r, .slice sp m cap] 68)).heap.size = W.heap.size + 1 by simp] at this
    exact this
  have HB2 : Hid (Below W.heap.size W w2) := by
    show Below _ _ _
    rw [hw2]
    exact ((Below.refl _ _).alloc (Nat.le_refl _) _).alloc (by simp) _
  have HK2 : Hid (Kp (fun _ => False) K0 (newK K0 (W.heap.size + 1) (1, 1)) W w2) := ⟨HB2.out.os, HB2.out.tape, HB2.out.output, HB2.out.size, fun b hb => by unfold newK; rw [if_neg (by omega)], fun b hb _ => HB2.out.block b hb⟩
  have hbx : w2.heap[W.heap.size]? = some (.cells #[.int .i64 r, .slice sp m cap] 68 (0, 0)) := by
    rw [hw2, Below.heap_alloc _ _ _ (by simp)]; exact heap_alloc_new _ _
  have x0 : w2.cell? ⟨W.heap.size, 0, none⟩ = some (.int .i64 r) := by simp [World.cell?, hbx]
  have x1 : w2.cell? ⟨W.heap.size, 1, none⟩ = some (.slice sp m cap) := by simp [World.cell?, hbx]
  have hsz2 : (W.alloc (.cells #[.int .i64 r, .slice sp m cap] 68)).heap.size = W.heap.size + 1 := by simp
  have HRm := hide (Room_any w2 _ 1 _ _ HD2.out)
  have HFw := hide (few_any w2 sp m cap ops HM.out hml (HI.out.below HB2.out) (fun q hq => ⟨(HOk.out q hq).1.cap, (HOk.out q hq).2⟩))
  have HRr : Hid ((St.new ρ).room = ρ) := rfl
  rw [HRr.out] at HRm
  clear hw2 hbx
  clear hsz2
  go_wp2_with fail
  refine (num_any _ 0).mono ?_
  rintro e w3 ⟨rfl, rfl⟩
  go_wp2_with fail
  refine HRm.out.mono ?_
  rintro e w3 ⟨rfl, rfl⟩
  go_wp2_with fail
  refine HFw.out.mono ?_
  rintro e w4 ⟨oa, oc, rfl, hr4, hb4⟩
  have HB4 := hide hb4
  have HR4 := hide hr4
  obtain ⟨fo, hfo⟩ : ∃ fo, fewO ops = fo := ⟨_, rfl⟩
  have HFk : Hid (∀ q ∈ fo, 1 ≤ q.x.kind ∧ q.x.kind ≤ 6 ∧ q.x.b.length ≤ 4096) := by rw [← hfo]; exact few_kind ops
  have HFm : Hid (fo.length ≤ 200) := by rw [← hfo]; exact few_most ops
  have HFo : Hid (∀ q ∈ fo, OpOk W K0 q) := by rw [← hfo]; exact few_ok (fun q hq => (HOk.out q hq).1)
  rw [hfo] at HR4
  rw [hfo]
  obtain ⟨N, hN⟩ : ∃ N, fo.length = N := ⟨_, rfl⟩
  have HN := hide hN
  have hN2 : N ≤ 200 := by rw [← hN]; exact HFm.out
  rw [hN] at HR4
  rw [hN]
  have HLp : Hid (Lp W w4 (ext (newK K0 (W.heap.size + 1) (1, 1)) w3.heap.size (0, 0)) (W.heap.size + 1) (St.new ρ) 0 oa N oc fo) := by
    have kb := kp_below HB4.out (fun _ => False) (newK K0 (W.heap.size + 1) (1, 1)) (0, 0)
    refine ⟨HD2.out.kept kb (fun _ h => h), new_inv (by omega), new_sz ρ, ⟨⟨⟨HR4.out.1, HR4.out.2.imp id ?_⟩, fun g e => ?_⟩, HN.out, fun q hq => ((HFo.out q hq).kept (p := fun _ => False) HK2.out (fun h => h)).kept (p := fun _ => False) kb (fun h => h)⟩, fun b hb => ?_, HB2.out.trans (HB4.out.mono HB2.out.size)⟩
    · rintro ⟨g, cap, cur, h1, _, r⟩
      exact ⟨g, cap, cur, h1, Nat.zero_le _, r⟩
    · refine ext_new _ _ ?_
      rcases HR4.out.2 with ⟨e1, _⟩ | ⟨g2, _, _, e1, e2, _⟩
      · rw [e1] at e; simp [Value.ownBlock] at e
      · rw [e1] at e; simp [Value.ownBlock] at e; omega
    · rw [ext_old _ _ (Nat.lt_of_lt_of_le hb HB2.out.size)]; unfold newK; rw [if_neg (by omega)]
  clear hb4 hr4 hfo hN HD2 HB2 HK2 x0 x1 HFo HR4 HB4 HOk HI HM HFw HNw HWi
  generalize (ext (newK K0 (W.heap.size + 1) (1, 1)) w3.heap.size (0, 0)) = K4 at *
  generalize W.heap.size + 1 = d at *
  go_wp2
  go_loopw [7] (fun i wr => ∃ (k kk : Nat) (K : Knd) (S : St), k ≤ N ∧ i = .int .i64 k ∧ Hid (Lp W wr K d S kk oa N oc fo) ∧ Hid (kk ≤ k * 4097) ∧ Hid (Free S) ∧ Hid (S.room = ρ)) (fun i _ => N - (intOf i).toNat)
  case atStart => exact ⟨0, 0, K4, St.new ρ, Nat.zero_le _, rfl, HLp, Nat.zero_le _, free_new ρ, rfl⟩
  case round =>
    obtain ⟨k, kk, K, S, hk, rfl, HL, HKk, HFr, HRo⟩ := hrel
    clear HLp
    by_cases hlt : k < N
    · have hlt' : (k : Int) < (N : Int) := by omega
      have HSn := hide (seen_any wr K 1 d S HL.out.dk HL.out.inv kk HL.out.sz (by have := HKk.out; omega))
      go_wp2_with fail
      refine HSn.out.mono ?_
      rintro e w5 ⟨v5, rfl, hi5, hb5⟩
      have HL5 := hide (HL.out.below hb5)
      have HI5 := hide hi5
      clear hi5 hb5
      generalize ext K wr.heap.size (0, 0) = K5 at *
      obtain ⟨ia, ic, rfl, _, _⟩ := HI5.out.form
      obtain ⟨n5, hn5⟩ : ∃ n5, S.image.length = n5 := ⟨_, rfl⟩
      have HN5 := hide hn5
      have hn64 : n5 ≤ 64 := by rw [← hn5]; exact image_len HL.out.inv
      rw [hn5] at HI5 ⊢
      have HUs := hide (image_used (S := S) HFr.out.off)
      have HUr : Hid (S.used ≤ ρ) := by have := HL.out.inv.used; rw [HRo.out] at this; exact this
      clear hn5
      go_wp2
      go_loopw [9, 10] (fun u i wr => ∃ (j us : Nat), j ≤ n5 ∧ u = .int .i64 (us : Int) ∧ i = .int .i64 (j : Int) ∧ wr = w5 ∧ us ≤ 400 ∧ Hid (us = ((S.image.take j).map fun p => p.2.length).sum)) (fun _ i _ => n5 - (intOf i).toNat)
      case atStart => exact ⟨0, 0, Nat.zero_le _, rfl, rfl, rfl, by omega, rfl⟩
      case round =>
        obtain ⟨j, us, hj, rfl, rfl, rfl, hus, HU⟩ := hrel
        by_cases hjl : j < n5
        · have hjl' : (j : Int) < (n5 : Int) := by omega
          obtain ⟨p, hp⟩ : ∃ p, S.image[j]? = some p := ⟨_, List.getElem?_eq_getElem (by rw [HN5.out]; exact hjl)⟩
          obtain ⟨g, ap, cp, rfl, hg, c0, c1, _, _⟩ := HI5.out.at hp
          have HU2 : Hid (us + p.2.length = ((S.image.take (j + 1)).map fun p => p.2.length).sum) := hide (by rw [sum_take hp, HU.out])
          have hub : us + p.2.length ≤ 400 := by
            have e1 := HU2.out
            have e2 := sum_take_le S.image (j + 1)
            have e3 := HUs.out
            have e4 := HUr.out
            omega
          have hj0 : (0 : Int) ≤ (j : Int) := by omega
          clear hp c0
          generalize p.2.length = pl at *
          go_wp2
          go_roundw
          case rel => exact ⟨j + 1, us + pl, by omega, by go_num, by go_num, by first | rfl | trivial, hub, HU2⟩
          case measure => simp [intOf]; omega
        · obtain rfl : j = n5 := by omega
          have husd : us = S.used := by
            rw [HU.out, ← HUs.out, List.take_of_length_le (by rw [HN5.out]; exact Nat.le_refl _)]
          have hur : us ≤ ρ := by rw [husd]; exact HUr.out
          have HUe := hide husd
          have hur' : ¬ (ρ : Int) < (us : Int) := by omega
          clear husd HU
          obtain ⟨q, hq⟩ : ∃ q, fo[k]? = some q := ⟨_, List.getElem?_eq_getElem (by rw [HN.out]; exact hlt)⟩
          have hqm := List.mem_of_getElem? hq
          obtain ⟨g, o, hoa, hg, c0, c1, c2, c3, c4, c5, c6, c7, c8, c9⟩ := (owns_ops HL5.out.ops.row.own).at hq
          have HQk := hide (HFk.out q hqm)
          have HQo := hide (HL5.out.ops.ok q hqm)
          have hk0 : (0 : Int) ≤ (k : Int) := by omega
          subst hoa
          have HBx := hide (HL5.out.below ((Below.refl _ wr).alloc (Nat.le_refl _) (.cells (opc q).toArray 57)))
          have HPl := hide (play_any _ _ 1 d (by omega) S HBx.out.dk HBx.out.inv kk HBx.out.sz q (HBx.out.ops.ok q hqm) (by have := HKk.out; have := HQk.out.2.2; omega))
          have HIx := hide (HI5.out.kept (kp_below ((Below.refl _ wr).alloc (Nat.le_refl _) (.cells (opc q).toArray 57)) (fun _ => False) K5 (0, 0)) (fun h => h))
          have HGd := hide (good_play HL.out.inv HL.out.sz q.x HQo.out.by_.small)
          have HFp := hide (HFr.out.play q.x)
          have HOb : Hid ((wr.alloc (.cells (opc q).toArray 57)).heap[wr.heap.size]? = some (.cells (opc q).toArray 57 (0, 0))) := heap_alloc_new _ _
          have HKb : Hid (ext K5 wr.heap.size (0, 0) wr.heap.size = (0, 0)) := ext_new _ _ (Nat.le_refl _)
          clear hq
          unfold opc at HBx HPl HIx HOb
          go_wp2_with fail
          refine HPl.out.mono ?_
          rintro e w6 ⟨K6, rfl, hd6, hk6⟩
          have HL6 := hide (HBx.out.played hd6 HGd.out.inv HGd.out.sz hk6)
          have HI6 := hide (HIx.out.kept hk6 (by simp))
          have HO6 : Hid (w6.heap[wr.heap.size]? = _) := (hk6.block wr.heap.size (by simp) (by rw [HKb.out]; simp)).trans HOb.out
          have HKb6 : Hid (K6 wr.heap.size = (0, 0)) := (hk6.same wr.heap.size (by simp)).trans HKb.out
          have hbx6 := lt_of_block HO6.out
          obtain ⟨o0, o2, o3, o4, o5⟩ := opblk (q := q) HO6.out
          have HRo6 : Hid ((S.play q.x).2.room = ρ) := HGd.out.room.trans HRo.out
          have HKk6 : Hid (kk + q.x.b.length + 1 ≤ (k + 1) * 4097) := by
            show _ ≤ _
            have := HKk.out
            have := HQk.out.2.2
            omega
          clear hd6 hk6 HL5 HBx HPl HIx HGd HOb HKb HI5 HSn c0 c1 c2 c3 c4 c5 c6 c7 c8 c9 HQo
          by_cases hk1 : q.x.kind = 1
          · have eP : S.play q.x = S.appendR q.x.name q.x.b := by unfold St.play; rw [if_pos hk1]
            rw [eP] at HL6 HFp HRo6 ⊢
            have HAp := hide (app_tells HL.out.inv HFr.out q.x.name q.x.b)
            generalize hA : S.appendR q.x.name q.x.b = A at *
            obtain ⟨f, S6⟩ := A
            simp only at HL6 HFp HRo6 HAp ⊢
            rw [hk1] at o0
            clear eP hA
            have hbl := HQk.out.2.2
            rcases HAp.out.2.2 with hf | hf | hf
            · subst hf
              obtain ⟨hroom, hfind⟩ := HAp.out.1 rfl
              have hru : us + q.x.b.length ≤ ρ := by rw [HUe.out]; have := HRo.out; omega
              have HFi := hide hfind
              have hru' : (us : Int) + (q.x.b.length : Int) ≤ (ρ : Int) := by omega
              have HFn := hide (lfind_any w6 K6 _ S.image HI6.out (by rw [HN5.out]; omega) q.x.name)
              have HBn : Hid (∀ x ∈ q.x.b, x < 256) := (HL6.out.ops.ok q hqm).by_.small
              clear hroom hfind
              obtain ⟨B0, hB0⟩ : ∃ B0, (tells (imgFind S.image q.x.name)).1 = B0 := ⟨_, rfl⟩
              have HB0 : Hid (B0.length ≤ 1099511627776 ∧ ∀ x ∈ B0, x < 256) := by
                rw [← hB0]
                show _ ∧ _
                rw [image_find HFr.out.off]
                cases hl : lookN S.seen q.x.name with
                | none => exact ⟨Nat.zero_le _, fun x hx => (by cases hx)⟩
                | some i => exact ⟨by have := S.file_le HL.out.inv hl; show (S.file i).all.length ≤ _; omega, (HL.out.sz.file (S.seen_file HL.out.inv hl)).1.allSmall⟩
              rw [hB0] at HFn HFi
              generalize (tells (imgFind S.image q.x.name)).2 = T0 at *
              clear hB0
              have HSn6 := hide (seen_any w6.drew K6 1 d S6 (HL6.out.dk.kept (p := fun _ => False) (Kp.refl _ _ w6).drew (fun _ h => h)) HL6.out.inv _ HL6.out.sz (by have := HKk6.out; omega))
              have HLen6 := hide (image_len HL6.out.inv)
              have HTl : Hid (tells (imgFind S6.image q.x.name) = (B0 ++ q.x.b, true)) := hide (by rw [HFi.out]; rfl)
              have HBL : Hid ((B0 ++ q.x.b).length = B0.length + q.x.b.length) := List.length_append
              go_wp2_with fail
              refine HFn.out.mono ?_
              rintro e w7 ⟨ba, bcc, rfl, hrk, rfl⟩
              have HRk := hide hrk
              clear hrk
              generalize hbl0 : B0.length = L0 at *
              have HL0 := hide hbl0
              clear hbl0
              generalize hblq : q.x.b.length = LQ at *
              have HLQ := hide hblq
              clear hblq
              have HLn : Hid ((B0 ++ q.x.b).length = L0 + LQ) := hide (by rw [List.length_append, HL0.out, HLQ.out])
              go_wp2
              go_region_held3 (fun w' => w'.cell? ⟨wr.heap.size, 3, none⟩ = some (.string ⟨q.x.name.toArray⟩)) (go_keep) (first | (go_at_call 26; refine HSn6.out.mono ?_; rintro e w8 ⟨v8, rfl, hi8, hb8⟩; have HI8 := hide hi8; have HB8 := hide hb8; have hc8 : w8.cell? ⟨wr.heap.size, 3, none⟩ = _ := (hb8.cell (p := ⟨wr.heap.size, 3, none⟩) hbx6).trans o3; have hc85 : w8.cell? ⟨wr.heap.size, 5, none⟩ = _ := (hb8.cell (p := ⟨wr.heap.size, 5, none⟩) hbx6).trans o5; obtain ⟨sa8, sc8, hv8, _, _⟩ := hi8.form; subst hv8; have HFn8 := hide (lfind_len w8 _ _ S6.image hi8 (by have := HLen6.out; omega) q.x.name HTl.out HLn.out); clear hi8 hb8) | (go_at_call 27; refine HFn8.out.mono ?_; rintro e w9 ⟨na, nc, rfl, hrk9, hw9⟩; subst hw9; have HRk9 := hide hrk9; clear hrk9))
              all_goals
                have HBb : Hid (Below w7.heap.size w7 w9) := ⟨HB8.out.os, HB8.out.tape, HB8.out.output, HB8.out.size, HB8.out.block⟩
                have HL8 := hide (HL6.out.below HBb.out)
                have HRk8 := hide (HRk.out.kept (kp_below HBb.out (fun _ => False) K6 (0, 0)) (fun h => h))
                have HBy0 : Hid (Bytes w9.drew ba B0) := ⟨HB0.out.2, (owns_bytes HRk8.out.own HB0.out.2).lie⟩
                have HByq : Hid (Bytes w9 q.bp q.x.b) := (HL8.out.ops.ok q hqm).by_
                have HByn : Hid (Bytes w9 na (B0 ++ q.x.b)) := owns_bytes HRk9.out.own (fun x hx => by
                  rcases List.mem_append.1 hx with e | e
                  · exact HB0.out.2 x e
                  · exact HBn.out x e)
                have HBx2 : Hid (∀ x ∈ B0 ++ q.x.b, x < 256) := HByn.out.small
                have HCp := hide (copy_any w9.drew ba L0 bcc B0 HL0.out HBy0.out (by have := HB0.out.1; omega))
                have hbx8 : wr.heap.size < w9.heap.size := Nat.lt_of_lt_of_le hbx6 HBb.out.size
                have HLs : Hid (L0 ≤ 1099511627776) := by have := HB0.out.1; show _ ≤ _; omega
              all_goals go_wp2
              all_goals go_region_held3 (fun w' => w'.cell? ⟨wr.heap.size, 5, none⟩ = some (.slice q.bp LQ q.bc)) (go_keep) (first | (go_at_call 35; refine HCp.out.mono ?_; rintro e w10 ⟨ca, cc, rfl, hr10, hb10⟩; have hc10 : w10.cell? ⟨wr.heap.size, 5, none⟩ = _ := (hb10.cell (p := ⟨wr.heap.size, 5, none⟩) hbx8).trans hc85; obtain ⟨a11, c11, w11, hrun0, ho11, hg11, hl11⟩ := run_app_bytes (w := w10) (v := .slice ca L0 cc) (n := L0) (ys := vals B0) ⟨hr10.1, hr10.2.imp id (fun ⟨g, cap, cur, h1, _, r⟩ => ⟨g, cap, cur, h1, Nat.zero_le _, r⟩)⟩ (c := q.bc) HLQ.out (bytes_kept HByq.out hb10.size (fun g o e hg => hb10.block g hg)) (by have := HLs.out; omega) 26; have hrun := hrun0; have HEs := hide (eq_ready (w := w9) hb10 hr10 ho11 hg11 HByn.out (fun x hx => HBx2.out x hx)); have hc11 : w11.cell? ⟨wr.heap.size, 5, none⟩ = _ := (HEs.out.2.2.1 wr.heap.size hbx8).trans hc10; clear hb10 ho11 hg11 hl11 hr10 hrun0) | (go_at_call 19; refine (eq_same _ na a11 (L0 + LQ) nc c11 (B0 ++ q.x.b) HLn.out (by have := HLs.out; omega) HEs.out.1 HEs.out.2.1).mono ?_; rintro e w12 ⟨rfl, nq, rfl⟩) | (have _hr := hrun; refine ite_wanted (by kernel_rfl) ?_; refine wp_app_run (.tmp 127) (.tmp 129) 26 26 rfl (.slice ca L0 cc) (.slice q.bp LQ q.bc) (.slice a11 (L0 + LQ) c11) w11 rfl rfl _hr ?_))
              all_goals go_wp2
              all_goals
                have HLe := hide (HL8.out.below (below_drewN HEs.out.2.2.2 nq))
                go_roundw
                case rel => exact ⟨k + 1, _, _, S6, by omega, by go_num, HLe, HKk6, HFp, HRo6⟩
                case measure => simp [intOf]; omega
            · subst hf
              obtain ⟨hroom, himg⟩ := HAp.out.2.1 rfl
              have hru : ¬ us + q.x.b.length ≤ ρ := by rw [HUe.out]; have := HRo.out; omega
              have hru' : ¬ (us : Int) + (q.x.b.length : Int) ≤ (ρ : Int) := by omega
              have HSn6 := hide (seen_any w6 K6 1 d S6 HL6.out.dk HL6.out.inv _ HL6.out.sz (by have := HKk6.out; omega))
              rw [himg] at HSn6
              clear hroom himg
              go_wp2_with fail
              refine HSn6.out.mono ?_
              rintro e w7 ⟨v7, rfl, hi7, hb7⟩
              have HL7 := hide (HL6.out.below hb7)
              have HI7 := hide hi7
              have HIw := hide (HI6.out.kept (kp_below hb7 (fun _ => False) K6 (0, 0)) (fun h => h))
              have HIm := hide (image_same w7 _ _ _ S.image HI7.out HIw.out (by rw [HN5.out]; omega))
              obtain ⟨sa7, sc7, rfl, _, _⟩ := HI7.out.form
              have HO7 : Hid (w7.heap[wr.heap.size]? = _) := (hb7.block wr.heap.size hbx6).trans HO6.out
              clear hi7 hb7
              go_wp2_with fail
              refine HIm.out.mono ?_
              rintro e w8 ⟨rfl, nq, rfl⟩
              have HL8 := hide (HL7.out.played (w' := w7.drewN nq) (HL7.out.dk.kept (p := fun _ => False) ((Kp.refl _ _ w7).drewN nq) (fun _ h => h)) HL7.out.inv HL7.out.sz ((Kp.refl _ _ w7).drewN nq))
              go_wp2
              go_roundw
              case rel => exact ⟨k + 1, kk + q.x.b.length + 1, _, S6, by omega, by go_num, HL8, HKk6, HFp, HRo6⟩
              case measure => simp [intOf]; omega
            · subst hf
              go_wp2
              go_roundw
              case rel => exact ⟨k + 1, kk + q.x.b.length + 1, K6, S6, by omega, by go_num, HL6, HKk6, HFp, HRo6⟩
              case measure => simp [intOf]; omega
          · have hk1' : ¬ q.x.kind = 1 := hk1
            generalize (S.play q.x).1 = f at *
            go_wp2
            go_roundw
            case rel => exact ⟨k + 1, kk + q.x.b.length + 1, K6, (S.play q.x).2, by omega, by go_num, HL6, HKk6, HFp, HRo6⟩
            case measure => simp [intOf]; omega
    · obtain rfl : k = N := by omega
      have HB := hide HL.out.bel
      have hρ0 : (0 : Int) ≤ (ρ : Int) := by omega
      go_wp2
      go_ret
      exact ⟨rfl, HB.out⟩

end Go.Proofs.Ytlpafgjgoheomaa
