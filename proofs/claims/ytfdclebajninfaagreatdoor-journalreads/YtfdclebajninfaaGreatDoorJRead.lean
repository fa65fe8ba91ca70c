import Derived.Test.YtfdclebajninfaaGreatDoorJRec2
import Derived.Laws.BytesArg
import Derived.Lib.JoinLaws
namespace Go.Proofs.YtfdclebajninfaaGreatDoor
open Go.RowKit

/-- The bytes as a string. -/
def str (xs : List Nat) : ByteArray := strOfNums (xs.map fun (x : Nat) => (x : Int))
theorem conv_str {w : World} {sp : Option Addr} {xs : List Nat} {m : Nat} (h : Bytes w sp xs) (hm : xs.length = m) (c : Nat) :
    (convert 22 9 (.slice sp m c)).run Tryz.prog w = .ok (.string (str xs)) w := by
  subst hm
  have hz : ∀ a : Option Addr, (convert 22 9 (.slice a 0 c)).run Tryz.prog w = .ok (.string (str [])) w := fun a => by
    rw [run_convert_bytes_string w 22 9 5 a 0 c Tryz.underlying22 Tryz.underlying5 Tryz.underlying9]
    cases a with
    | none => simp [Conv.bytesToString]; rfl
    | some a =>
      rw [run_bytesToString w a 0 c [] (by simpa using run_loadCells_list (P := Tryz.prog) w a [] (by simp))]
      rfl
  rcases h.lie with h0 | ⟨g, o, rfl, hg, hc⟩
  · subst h0; exact hz sp
  · refine run_convert_bytes_arg w 22 5 Tryz.underlying22 Tryz.underlying5 g o _ c _ (by simp) (fun i hi => ?_) 9 Tryz.underlying9
    rw [hc i hi]
    simp [List.getD, hi]
theorem str_eq {xs ys : List Nat} (hx : ∀ x ∈ xs, x < 256) (hy : ∀ x ∈ ys, x < 256) : ((str xs).toList == (str ys).toList) = decide (xs = ys) := by
  have e : ∀ zs : List Nat, (str zs).toList = zs.map fun x => UInt8.ofNat x := fun zs => by
    rw [ByteArray.toList_eq]
    show (strOfNums _).data.toList = _
    rw [strOfNums_data, List.map_map]
    exact List.map_congr_left fun x _ => by simp
  rw [e, e]
  have inj : ∀ (aa bs : List Nat), (∀ x ∈ aa, x < 256) → (∀ x ∈ bs, x < 256) → (aa.map (fun x => UInt8.ofNat x) = bs.map fun x => UInt8.ofNat x) → aa = bs := by
    intro aa
    induction aa with
    | nil => intro bs _ _ h; cases bs with
      | nil => rfl
      | cons b bs => simp at h
    | cons a aa ih =>
      intro bs ha hb h
      cases bs with
      | nil => simp at h
      | cons b bs =>
        simp only [List.map_cons, List.cons.injEq] at h
        have h1 : a = b := by
          have := congrArg UInt8.toNat h.1
          have ha' := ha a (List.mem_cons_self ..)
          have hb' := hb b (List.mem_cons_self ..)
          simp only [UInt8.toNat_ofNat'] at this
          omega
        rw [h1, ih bs (fun x hx => ha x (List.mem_cons_of_mem _ hx)) (fun x hx => hb x (List.mem_cons_of_mem _ hx)) h.2]
  by_cases h : xs = ys
  · subst h; simp
  · rw [decide_eq_false h]
    cases hb : (xs.map (fun x => UInt8.ofNat x) == ys.map fun x => UInt8.ofNat x) with
    | false => rfl
    | true => exact absurd (inj xs ys hx hy (by simpa using hb)) h

set_option maxRecDepth 100000 in
set_option maxHeartbeats 400000 in
theorem equal_any (w : World) (s1 s2 : Option Addr) (n m c1 c2 : Nat) (xs ys : List Nat) (h1 : xs.length = n) (h2 : ys.length = m) (hx : Bytes w s1 xs) (hy : Bytes w s2 ys) :
    Calls Tryz.prog 86 #[.slice s1 n c1, .slice s2 m c2] w fun e w' => e = .returned (.bool (decide (xs = ys))) ∧ w' = w := by
  have v1 := conv_str hx h1 c1
  have v2 := conv_str hy h2 c2
  have he := str_eq hx.small hy.small
  generalize str xs = S1 at *
  generalize str ys = S2 at *
  generalize decide (xs = ys) = d at *
  clear hx hy
  go_enter Tryz.func86, Tryz.ntmps86
  go_wp2
  go_ret
  exact ⟨rfl, rfl⟩

/-! The head of a record -/
def hdN (xs : List Nat) : Nat := C.be ((xs.drop 1).take 4)
def hdOk (xs : List Nat) : Bool := decide (12 ≤ hdN xs) && decide (hdN xs ≤ 4194291) && decide (xs.take 9 = headB (hdN xs))
def hdRes (xs : List Nat) : Value := .tuple #[.int .i64 ((if hdOk xs then hdN xs + 13 else 0 : Nat) : Int), .bool (hdOk xs)]
theorem hdRes_no {xs : List Nat} (h : hdOk xs = false) : hdRes xs = .tuple #[.int .i64 0, .bool false] := by unfold hdRes; rw [h]; rfl
theorem hdRes_ok {xs : List Nat} (h : hdOk xs = true) : hdRes xs = .tuple #[.int .i64 ((hdN xs + 13 : Nat) : Int), .bool true] := by unfold hdRes; rw [h]; rfl
theorem rn_first {ys : List Nat} (h : ys.length = 9) : C.rNext 0 0 ys 0 0 = (⟨C.be (ys.take 1), 0, 0, 1, 0⟩, 1, 0) := by
  have e : C.pFind 0 0 (ys.drop 0) = ⟨C.be (ys.take 1), 0, 0, 1, 0⟩ := by
    simp only [C.pFind, List.drop_zero, C.pFixed, C.width]
    simp [h]
  unfold C.rNext
  rw [e]; simp
theorem rn_second {ys : List Nat} (h : ys.length = 9) : C.rNext 1 0 ys 1 0 = (⟨C.be ((ys.drop 1).take 4), 0, 0, 4, 0⟩, 5, 0) := by
  have e : C.pFind 1 0 (ys.drop 1) = ⟨C.be ((ys.drop 1).take 4), 0, 0, 4, 0⟩ := by
    simp only [C.pFind, C.pFixed, C.width]
    simp [h]
  unfold C.rNext
  rw [e]; simp
theorem but_below {B b : Nat} {w0 w w' : World} (h : C.But b w w') (k : Below B w0 w) (hb : B ≤ b) (hB : B ≤ w.heap.size) : Below B w0 w' :=
  ⟨h.os.trans k.os, h.tape.trans k.tape, h.output.trans k.output, Nat.le_trans k.size h.size, fun i hi => by
    exact (h.block i (Nat.lt_of_lt_of_le hi hB) (by omega)).trans (k.block i hi)⟩

set_option maxRecDepth 100000 in
set_option maxHeartbeats 400000 in
theorem recordSize_any (w : World) (sp : Option Addr) (n cap : Nat) (xs : List Nat) (hn : xs.length = n) (h9 : 9 ≤ n) (hcap : n ≤ cap) (hc2 : cap ≤ 9223372036854775807) (hx : Bytes w sp xs) (hT : C.Tab w) :
    Calls Tryz.prog 53 #[.slice sp n cap] w fun e w' => e = .returned (hdRes xs) ∧ Below w.heap.size w w' := by
  have HT := hide hT
  have HX := hide hx
  have HN := hide hn
  have hc9 : 9 ≤ cap := by omega
  have HYl : Hid ((xs.take 9).length = 9) := by show _ = _; rw [List.length_take, hn]; omega
  have HY := hide (bytes_take hx 9)
  have HRd := hide (C.read_any w sp 9 9 (xs.take 9) HYl.out (by omega) HY.out.c)
  clear hT hx hn
  go_enter Tryz.func53, Tryz.ntmps53
  go_wp2_with fail
  refine HRd.out.mono ?_
  rintro e w1 ⟨rfl, hr1, hb1⟩
  have HU := hide (C.u8_any w1 _ _ _ _ _ hr1)
  rw [rn_first HYl.out] at HU
  have HB1 := hide hb1
  clear hr1 hb1 HRd
  go_wp2_with fail
  refine HU.out.mono ?_
  rintro e w2 ⟨rfl, hr2, hb2⟩
  have HB2 := hide (but_below hb2 HB1.out (by omega) HB1.out.size)
  have HU := hide (C.u32_any w2 _ _ _ _ _ hr2)
  rw [rn_second HYl.out, show ((xs.take 9).drop 1).take 4 = (xs.drop 1).take 4 by rw [List.drop_take, List.take_take]; rfl] at HU
  clear hr2 hb2
  go_wp2_with fail
  refine HU.out.mono ?_
  rintro e w3 ⟨rfl, hr3, hb3⟩
  have HB3 := hide (but_below hb3 HB2.out (by omega) HB2.out.size)
  have HNn : Hid (C.be ((xs.drop 1).take 4) = hdN xs) := rfl
  have hlt : hdN xs < 4294967296 := by
    have h1 := C.be_lt ((xs.drop 1).take 4) (fun x hx => HX.out.small x (List.mem_of_mem_drop (List.mem_of_mem_take hx)))
    have h2 : ((xs.drop 1).take 4).length ≤ 4 := by rw [List.length_take]; omega
    have h3 : 256 ^ ((xs.drop 1).take 4).length ≤ 256 ^ 4 := Nat.pow_le_pow_right (by omega) h2
    unfold hdN
    omega
  simp only [HNn.out]
  clear hr3 hb3 HU
  by_cases q1 : hdN xs < 12
  · have q1' : ((hdN xs : Nat) : Int) < 12 := by omega
    have e0 : Hid (hdOk xs = false) := by show _ = _; unfold hdOk; rw [decide_eq_false (by omega)]; rfl
    generalize hdN xs = N at *
    go_wp2
    go_ret2
    exact ⟨by rw [hdRes_no e0.out]; rfl, HB3.out⟩
  have q1' : ¬ ((hdN xs : Nat) : Int) < 12 := by omega
  by_cases q2 : 4194291 < hdN xs
  · have q2' : (4194291 : Int) < ((hdN xs : Nat) : Int) := by omega
    have e0 : Hid (hdOk xs = false) := by show _ = _; unfold hdOk; rw [decide_eq_false (p := hdN xs ≤ 4194291) (by omega)]; simp
    generalize hdN xs = N at *
    go_wp2
    go_ret2
    exact ⟨by rw [hdRes_no e0.out]; rfl, HB3.out⟩
  have q2' : ¬ (4194291 : Int) < ((hdN xs : Nat) : Int) := by omega
  have HOk : Hid (hdOk xs = decide (xs.take 9 = headB (hdN xs))) := by show _ = _; unfold hdOk; rw [decide_eq_true (p := 12 ≤ hdN xs) (by omega), decide_eq_true (p := hdN xs ≤ 4194291) (by omega)]; rfl
  have HH := hide (head_any w3 (hdN xs) hlt (HT.out.below HB3.out HT.out.pos))
  obtain ⟨N, hN⟩ : ∃ N, hdN xs = N := ⟨_, rfl⟩
  have HNe := hide hN
  rw [hN] at HH HOk hlt q1 q2 q1' q2' ⊢
  clear hN
  go_wp2_with fail
  refine HH.out.mono ?_
  rintro e w4 ⟨g4, rfl, hf4, hb4⟩
  have HB4 := hide (HB3.out.trans (hb4.mono HB3.out.size))
  have HE := hide (equal_any w4 sp (some ⟨g4, 0, none⟩) 9 9 9 9 (xs.take 9) (headB N) HYl.out (headB_len N) (HY.out.below HB4.out) hf4.bytes)
  rw [← HOk.out] at HE
  clear hf4 hb4 HH
  obtain ⟨d, hd⟩ : ∃ d, hdOk xs = d := ⟨_, rfl⟩
  rw [hd] at HE
  have HD := hide hd
  clear hd
  cases d with
  | false =>
    go_wp2_with fail
    refine HE.out.mono ?_
    rintro e w5 ⟨rfl, rfl⟩
    go_wp2
    go_ret2
    exact ⟨by rw [hdRes_no HD.out]; rfl, HB4.out⟩
  | true =>
    go_wp2_with fail
    refine HE.out.mono ?_
    rintro e w5 ⟨rfl, rfl⟩
    go_wp2
    go_ret2
    exact ⟨by rw [hdRes_ok HD.out, HNe.out]; simp; omega, HB4.out⟩

end Go.Proofs.YtfdclebajninfaaGreatDoor
