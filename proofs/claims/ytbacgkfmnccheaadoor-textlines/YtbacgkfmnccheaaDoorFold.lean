import Derived.Test.YtbacgkfmnccheaaDoorFoldP
import Derived.Laws.IdiomCopy
import Derived.Laws.IdiomStrings
namespace Go.Proofs.YtbacgkfmnccheaaDoor
open Go.RowKit

/-- A row of bytes of the call's own lies in block B. -/
def RowB (W : World) (B : Nat) (f : List Nat) : Prop := ∀ j, j < f.length → W.cell? ⟨B, j, none⟩ = some (.int .u8 (f.getD j 0 : Nat)) ∧ W.frozen? ⟨B, j, none⟩ = false

theorem RowB.below {W W' : World} {B n : Nat} {f : List Nat} (h : RowB W B f) (hb : Below n W W') (hB : B < n) : RowB W' B f := fun j hj => by
  obtain ⟨h1, h2⟩ := h j hj
  have hh := hb.block B hB
  exact ⟨by rw [hb.cell (p := ⟨B, j, none⟩) hB]; exact h1, by rw [← h2]; unfold World.frozen?; simp only [hh]⟩

theorem RowB.iterAt {W : World} {B k : Nat} {f : List Nat} {s : ByteArray} (h : RowB W B f) (pos : Nat) (hk : B ≠ k) : RowB (W.iterAt k s pos) B f := fun j hj => by
  obtain ⟨h1, h2⟩ := h j hj
  have hh := Lib.iterAt_other W k B s pos hk
  exact ⟨by rw [← h1]; unfold World.cell?; simp only [hh], by rw [← h2]; unfold World.frozen?; simp only [hh]⟩

theorem setCells_heap (b : Nat) : ∀ (vs : List Value) (o : Nat) (w : World) (k : Nat), k ≠ b → (w.setCells b o vs).heap[k]? = w.heap[k]?
  | [], _, _, _, _ => rfl
  | v :: r, o, w, k, h => by rw [World.setCells, setCells_heap b r _ _ k h, Below.heap_setCell _ _ _ k h]
theorem setCells_size (b : Nat) : ∀ (vs : List Value) (o : Nat) (w : World), (w.setCells b o vs).heap.size = w.heap.size
  | [], _, _ => rfl
  | v :: r, o, w => by
    rw [World.setCells, setCells_size b r]
    show (w.heap.modify _ _).size = _
    rw [Array.size_modify]
theorem setCells_below {B b : Nat} {a : World} (hb : B ≤ b) : ∀ (vs : List Value) (o : Nat) (w : World), Below B a w → Below B a (w.setCells b o vs)
  | [], _, _, h => h
  | v :: r, o, _, h => setCells_below hb r (o + 1) _ (h.setCell (p := ⟨b, o, none⟩) hb v)

theorem RowB.one {W : World} {B : Nat} {f : List Nat} (h : RowB W B f) (p x : Nat) (hp : p < f.length) : RowB (W.setCells B p [.int .u8 (x : Int)]) B (f.set p x) := fun j hj => by
  rw [List.length_set] at hj
  refine ⟨?_, by rw [World.frozen?_setCells]; exact (h j hj).2⟩
  rw [set_at f p x j hj]
  by_cases e : p = j
  · subst e
    rw [if_pos rfl]
    have := World.cell?_setCells_in B [.int .u8 (x : Int)] p W (fun i hi => by
      obtain rfl : i = 0 := by simpa using hi
      rw [Nat.add_zero, (h p hp).1]; rfl) 0 (by simp)
    simpa using this
  · rw [if_neg e, World.cell?_setCells_out _ _ _ _ _ (fun _ _ => by simp; omega)]
    exact (h j hj).1

theorem RowB.two {W : World} {B : Nat} {f : List Nat} (h : RowB W B f) (p x : Nat) (hp : p + 1 < f.length) (h0 : f.getD p 0 = 195) : RowB (W.setCells B p [.int .u8 195, .int .u8 (x : Int)]) B (f.set (p + 1) x) := fun j hj => by
  rw [List.length_set] at hj
  refine ⟨?_, by rw [World.frozen?_setCells]; exact (h j hj).2⟩
  rw [set_at f (p + 1) x j hj]
  have hin := World.cell?_setCells_in B [.int .u8 195, .int .u8 (x : Int)] p W (fun i hi => by
      rw [(h (p + i) (by simp at hi; omega)).1]; rfl)
  by_cases e : p + 1 = j
  · subst e
    rw [if_pos rfl]
    have := hin 1 (by simp)
    simpa using this
  · rw [if_neg e]
    by_cases e2 : j = p
    · subst e2
      rw [h0]
      have := hin 0 (by simp)
      simpa using this
    · rw [World.cell?_setCells_out _ _ _ _ _ (fun _ _ => by simp; omega)]
      exact (h j hj).1

/-- '[]byte(s)'. -/
theorem bytes_of (w : World) (s : ByteArray) : ∃ W cp, (convert 9 43 (.string s)).run Tryd.prog w = .ok (.slice (some ⟨w.heap.size, 0, none⟩) s.size cp) W ∧ RowB W w.heap.size (nums s) ∧ Below w.heap.size w W ∧ W.heap.size = w.heap.size + 1 ∧ s.size ≤ cp := by
  have h := run_bytes_of_string (P := Tryd.prog) w 9 43 5 s Tryd.underlying9 Tryd.underlying43 Tryd.underlying5
  have hge := grownCap_ge w s.size 0 5
  generalize grownCap w s.size 0 5 = cp at *
  refine ⟨_, cp, h, fun j hj => ?_, (Below.refl _ w).drew.alloc (Nat.le_refl _) _, by rw [World.size_alloc]; rfl, hge⟩
  rw [nums_len] at hj
  have hsz : j < (bytesRow s cp).size := by
    have := bytesRow_at s cp j hj
    exact (Array.getElem?_eq_some_iff.1 this).1
  constructor
  · have := World.cell?_alloc_mark w.drew (bytesRow s cp) 5 ((bytesRow s cp).size, (bytesRow s cp).size + 1) j
    rw [show w.drew.heap.size = w.heap.size from rfl] at this
    rw [this, bytesRow_at s cp j hj, List.getD, nums_at s j hj]
    rfl
  · have := World.frozen?_alloc_mark w.drew (bytesRow s cp) 5 (bytesRow s cp).size ((bytesRow s cp).size + 1) j
    rw [show w.drew.heap.size = w.heap.size from rfl] at this
    rw [this]
    simp
    omega

/-- 'string(b)' of such a row. -/
theorem bytes_back (W : World) (B cp : Nat) (f : List Nat) (h : RowB W B f) (hf : ∀ x ∈ f, x < 256) (n : Nat) (hn : f.length = n) : ∃ t, (convert 43 9 (.slice (some ⟨B, 0, none⟩) n cp)).run Tryd.prog W = .ok (.string t) W ∧ nums t = f := by
  subst hn
  refine ⟨⟨(f.map UInt8.ofNat).toArray⟩, ?_, ?_⟩
  · have := run_convert_bytes_back (P := Tryd.prog) W 43 9 5 ⟨B, 0, none⟩ cp (f.map UInt8.ofNat) Tryd.underlying43 Tryd.underlying5 Tryd.underlying9 (fun j hj => by
      rw [Lib.add_plain, Nat.zero_add]
      have hj' : j < f.length := by simpa using hj
      rw [(h j hj').1]
      have hx := hf _ (List.getElem_mem hj')
      have e : (UInt8.ofNat f[j]).toNat = f[j] := by simp; omega
      simp [List.getD, List.getElem?_eq_getElem hj', e])
    rw [List.length_map] at this
    exact this
  · simp only [nums, List.map_map]
    conv => rhs; rw [← List.map_id f]
    apply List.map_congr_left
    intro x hx
    have := hf x hx
    simp; omega

theorem fold_small (l : List Nat) (h : ∀ x ∈ l, x < 256) : ∀ x ∈ foldR l, x < 256 := by
  intro x hx
  obtain ⟨j, hj⟩ := List.getElem?_of_mem hx
  obtain ⟨hlt, e⟩ := List.getElem?_eq_some_iff.1 hj
  rw [foldR_len] at hlt
  have := foldR_at l j hlt
  rw [List.getD, hj, Option.getD_some] at this
  have h2 : l.getD j 0 < 256 := by rw [List.getD, List.getElem?_eq_getElem hlt]; exact h _ (List.getElem_mem hlt)
  rw [this]
  unfold fb
  split <;> omega

set_option maxRecDepth 100000 in
set_option maxHeartbeats 2000000 in
theorem fold_any (w : World) (hT : Tabs w) (s : ByteArray) (_hs : s.size ≤ 140737488355328) :
    Calls Tryd.prog 15 #[.string s] w fun e w' => (∃ t, e = .returned (.string t) ∧ nums t = foldR (nums s)) ∧ Below w.heap.size w w' := by
  obtain ⟨W0, cp, hcv, hrow, hb0, hsz0, hcp⟩ := bytes_of w s
  have HT := hide hT
  have HR0 := hide hrow
  have HB0 := hide hb0
  have HSZ := hide hsz0
  clear hT hrow hb0 hsz0
  go_enter Tryd.func15, Tryd.ntmps15
  go_wp2
  clear hcv
  go_loopw [] (fun wr => ∃ (pos : Nat) (f : List Nat), Hid (RowB wr w.heap.size f) ∧ Hid (wr.heap[W0.heap.size]? = some (.stringIter s pos)) ∧ Hid (Below w.heap.size w wr) ∧ Hid (FoInv (nums s) pos f)) (fun wr => s.size - wr.iterPos W0.heap.size)
  case atStart =>
    refine ⟨0, nums s, ?_, World.iter_heap W0 s 0, HB0.out.alloc HB0.out.size _, FoInv.start _⟩
    exact HR0.out.below ((Below.refl _ W0).alloc (Nat.le_refl _) _) (by rw [HSZ.out]; omega)
  case round =>
    obtain ⟨pos, f, HR, HIt, HB, HF⟩ := hrel
    clear HR0 HB0
    have hkne : W0.heap.size ≠ w.heap.size := by have := HSZ.out; omega
    have hk1 : W0.heap.size = w.heap.size + 1 := HSZ.out
    have HK := hide hk1
    have HKN := hide hkne
    clear hk1 hkne
    by_cases hp : pos < s.size
    · have hnx : ∀ ty, (Instr.next (.pointer (some ⟨W0.heap.size, 0, none⟩)) true ty).run Tryd.prog wr = _ := fun ty => Lib.run_next_any_at wr W0.heap.size s pos ty HIt.out hp
      have HD := hide (dec_text s pos hp)
      have hcle := decode_le s pos
      have HLt : Hid (W0.heap.size < wr.heap.size) := (Array.getElem?_eq_some_iff.1 HIt.out).1
      obtain ⟨c, wd, hdec⟩ : ∃ c wd, Utf8.decode s pos = (c, wd) := ⟨_, _, rfl⟩
      rw [hdec] at hnx HD hcle
      simp only at hnx HD hcle
      clear hdec
      have HR1 := hide (HR.out.iterAt (k := W0.heap.size) (s := s) (pos + wd) HKN.out.symm)
      have HI1 := hide (Lib.iterAt_heap wr W0.heap.size s pos (pos + wd) HIt.out)
      have HB1 := hide (Lib.below_iterAt HB.out (k := W0.heap.size) (by have := HK.out; omega) s (pos + wd))
      have HP : Hid (wr.iterPos W0.heap.size = pos) := by show _ = _; simp only [World.iterPos, HIt.out]
      have HL1 : Hid (W0.heap.size < (wr.iterAt W0.heap.size s (pos + wd)).heap.size) := by show _ < _; rw [Lib.iterAt_size]; exact HLt.out
      clear HR HIt HB HLt
      generalize wr.iterAt W0.heap.size s (pos + wd) = W1 at *
      have HC := hide (capital_any W1 (HT.out.below HB1.out) c)
      have hwd : 1 ≤ wd := by
        rcases HD.out with ⟨_, _, h⟩ | ⟨_, _, _, _, _, h⟩ | ⟨_, _, _, h⟩ | ⟨_, _, _, h, _⟩ <;> omega
      have hpl : pos < (nums s).length := by rw [nums_len]; exact hp
      by_cases hcap : isCap c = true
      · rw [hcap] at HC
        have hcp2 : pos ≠ cp := by omega
        by_cases h128 : c < 128
        · obtain ⟨rfl, hx, hf⟩ := HF.out.step_one hpl HD.out hcap h128
          have HF2 := hide hf
          clear hf hx HD
          have hc90 : c ≤ 90 := by rw [cap_iff] at hcap; omega
          have hrc : Lib.runeCells ((c : Int) + 32) = [.int .u8 ((c + 32 : Nat) : Int)] := by
            rw [runeCells_of (Lib.encodeRuneZ_one (r := (c : Int) + 32) (by omega) (by omega))]; simp
          have HRC := hide hrc
          clear hrc hcap
          have l1 : (0 : Int) ≤ (pos : Int) := by omega
          have l2 : (pos : Int) ≤ (s.size : Int) := by omega
          have l3 : (pos : Int) ≤ (cp : Int) := by omega
          go_wp2_with fail
          refine HC.out.mono ?_
          rintro e W2 ⟨rfl, hb⟩
          have HR2 := hide (HR1.out.below hb (by have := HK.out; have := HL1.out; omega))
          have HI2 : Hid (W2.heap[W0.heap.size]? = some (.stringIter s (pos + 1))) := (hb.block _ HL1.out).trans HI1.out
          have HB2 : Hid (Below w.heap.size w W2) := HB1.out.trans (hb.mono HB1.out.size)
          clear hb HC HR1 HI1 HB1
          go_wp2_with fail
          refine (Any7.utf8_EncodeRune Tryd.lays7_30 w.heap.size pos (s.size - pos) (cp - pos) ((c : Int) + 32) (by omega) (by omega) W2 (by rw [HRC.out]; simp; omega) (by
            rw [HRC.out]
            intro j hj
            rw [(HR2.out (pos + j) (by have := HF.out.len; rw [nums_len] at this; simp at hj; omega)).1]; rfl) (by
            rw [HRC.out]
            intro j hj
            exact (HR2.out (pos + j) (by have := HF.out.len; rw [nums_len] at this; simp at hj; omega)).2)).mono ?_
          rw [HRC.out]
          rintro e W3 ⟨rfl, h3⟩
          have HR3 : Hid (RowB W3 w.heap.size (f.set pos (c + 32))) := by show RowB _ _ _; rw [h3]; exact HR2.out.one pos (c + 32) (by have := HF.out.len; rw [nums_len] at this; omega)
          have HI3 : Hid (W3.heap[W0.heap.size]? = some (.stringIter s (pos + 1))) := by show _ = _; rw [h3, setCells_heap _ _ _ _ _ HKN.out]; exact HI2.out
          have HB3 : Hid (Below w.heap.size w W3) := by show Below _ _ _; rw [h3]; exact setCells_below (Nat.le_refl _) _ _ _ HB2.out
          clear h3 HR2 HI2 HB2 HRC
          go_wp2
          go_roundw
          case rel => exact ⟨pos + 1, (f.set pos (c + 32)), HR3, HI3, HB3, HF2⟩
          case measure =>
            have h1 := HP.out
            simp only [World.iterPos, HI3.out] at h1 ⊢
            omega
        · obtain ⟨rfl, q1, q2, q3, q4, q5, hf⟩ := HF.out.step_two hpl HD.out hcap h128
          have HF2 := hide hf
          have HQ : Hid (c = (nums s).getD (pos + 1) 0 + 64 ∧ pos + 1 < (nums s).length ∧ f.getD pos 0 = 195) := ⟨q5, q1, q3⟩
          have hc222 : c ≤ 222 ∧ 192 ≤ c := by rw [cap_iff] at hcap; omega
          have hrc : Lib.runeCells ((c : Int) + 32) = [.int .u8 195, .int .u8 (((nums s).getD (pos + 1) 0 + 32 : Nat) : Int)] := by
            rw [runeCells_of (Lib.encodeRuneZ_two (r := (c : Int) + 32) (by omega) (by omega))]
            simp only [List.map_cons, List.map_nil]
            congr 2
            · omega
            · congr 1
              omega
          have HRC := hide hrc
          clear hrc hcap hf q1 q2 q3 q4 q5 HD
          have l1 : (0 : Int) ≤ (pos : Int) := by omega
          have l2 : (pos : Int) ≤ (s.size : Int) := by omega
          have l3 : (pos : Int) ≤ (cp : Int) := by omega
          go_wp2_with fail
          refine HC.out.mono ?_
          rintro e W2 ⟨rfl, hb⟩
          have HR2 := hide (HR1.out.below hb (by have := HK.out; have := HL1.out; omega))
          have HI2 : Hid (W2.heap[W0.heap.size]? = some (.stringIter s (pos + 2))) := (hb.block _ HL1.out).trans HI1.out
          have HB2 : Hid (Below w.heap.size w W2) := HB1.out.trans (hb.mono HB1.out.size)
          clear hb HC HR1 HI1 HB1
          go_wp2_with fail
          refine (Any7.utf8_EncodeRune Tryd.lays7_30 w.heap.size pos (s.size - pos) (cp - pos) ((c : Int) + 32) (by omega) (by omega) W2 (by rw [HRC.out]; have := HQ.out.2.1; rw [nums_len] at this; simp; omega) (by
            rw [HRC.out]
            intro j hj
            rw [(HR2.out (pos + j) (by have := HF.out.len; rw [nums_len] at this; have := HQ.out.2.1; rw [nums_len] at this; simp at hj; omega)).1]; rfl) (by
            rw [HRC.out]
            intro j hj
            exact (HR2.out (pos + j) (by have := HF.out.len; rw [nums_len] at this; have := HQ.out.2.1; rw [nums_len] at this; simp at hj; omega)).2)).mono ?_
          rw [HRC.out]
          rintro e W3 ⟨rfl, h3⟩
          have HR3 : Hid (RowB W3 w.heap.size (f.set (pos + 1) ((nums s).getD (pos + 1) 0 + 32))) := by show RowB _ _ _; rw [h3]; exact HR2.out.two pos _ (by have := HF.out.len; rw [nums_len] at this; have := HQ.out.2.1; rw [nums_len] at this; omega) HQ.out.2.2
          have HI3 : Hid (W3.heap[W0.heap.size]? = some (.stringIter s (pos + 2))) := by show _ = _; rw [h3, setCells_heap _ _ _ _ _ HKN.out]; exact HI2.out
          have HB3 : Hid (Below w.heap.size w W3) := by show Below _ _ _; rw [h3]; exact setCells_below (Nat.le_refl _) _ _ _ HB2.out
          clear h3 HR2 HI2 HB2 HRC
          go_wp2
          go_roundw
          case rel => exact ⟨pos + 2, (f.set (pos + 1) ((nums s).getD (pos + 1) 0 + 32)), HR3, HI3, HB3, HF2⟩
          case measure =>
            have h1 := HP.out
            simp only [World.iterPos, HI3.out] at h1 ⊢
            omega
      · have hcap' : isCap c = false := by simpa using hcap
        have HF2 := hide (HF.out.step_no hpl HD.out hcap')
        rw [hcap'] at HC
        clear hcap hcap' HD
        go_wp2_with fail
        refine HC.out.mono ?_
        rintro e W2 ⟨rfl, hb⟩
        have HR2 := hide (HR1.out.below hb (by have := HK.out; have := HL1.out; omega))
        have HI2 : Hid (W2.heap[W0.heap.size]? = some (.stringIter s (pos + wd))) := (hb.block _ HL1.out).trans HI1.out
        have HB2 : Hid (Below w.heap.size w W2) := HB1.out.trans (hb.mono HB1.out.size)
        clear hb HC HR1 HI1 HB1
        go_wp2
        go_roundw
        case rel => exact ⟨pos + wd, f, HR2, HI2, HB2, HF2⟩
        case measure =>
          have h1 := HP.out
          simp only [World.iterPos, HI2.out] at h1 ⊢
          omega
    · have hnx : ∀ ty, (Instr.next (.pointer (some ⟨W0.heap.size, 0, none⟩)) true ty).run Tryd.prog wr = _ := fun ty => Lib.run_next_end_at wr W0.heap.size s pos ty HIt.out hp
      have hfe := HF.out.done (by rw [nums_len]; exact hp)
      subst hfe
      obtain ⟨t, hcv, htn⟩ := bytes_back wr w.heap.size cp (foldR (nums s)) HR.out (fold_small _ (nums_lt s)) s.size (by rw [foldR_len, nums_len])
      have HTN := hide htn
      clear htn HR HIt
      go_wp2
      go_ret
      exact ⟨⟨t, rfl, HTN.out⟩, HB.out⟩

end Go.Proofs.YtbacgkfmnccheaaDoor
