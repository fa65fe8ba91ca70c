import Derived.Test.YtlpafgjgoheomaaAgainP
import Derived.Test.YtlpafgjgoheomaaAppB
namespace Go.Proofs.Ytlpafgjgoheomaa
open Go.RowKit Go.Maps Go.WideAt Go.WideShapes

set_option maxRecDepth 100000 in
set_option maxHeartbeats 400000 in
theorem loaded_any (w : World) (sp : Option Addr) (m cap : Nat) (xs : List Nat) (hm : xs.length = m) (hx : Bytes w sp xs) (hlen : m ≤ 140737488355328) :
    Calls Try.prog 39 #[.slice sp m cap] w fun e w' => e = .returned (.pointer (some ⟨w.heap.size + 1, 0, none⟩)) ∧ w' = (w.alloc (.cells (vals xs).toArray 5)).alloc (.cells #[.slice (some ⟨w.heap.size, 0, none⟩) m m, .slice none 0 0, .int .i64 (m : Int)] 90) := by
  have HC := hide (copied_any w sp m cap (vals xs) (by rw [vals_len, hm]) hlen hx.holds)
  clear hx
  go_enter Try.func39, Try.ntmps39
  go_wp2_with fail
  refine HC.out.mono ?_
  rintro e w1 ⟨rfl, rfl⟩
  go_wp2
  go_ret
  exact ⟨by simp, rfl⟩

theorem fk_laid (w : World) (K : Knd) (o i : Nat) (xs : List Nat) (m : Nat) (hm : xs.length = m) (hs : ∀ x ∈ xs, x < 256) (hml : m ≤ maxLen) :
    Fk ((w.alloc (.cells (vals xs).toArray 5)).alloc (.cells #[.slice (some ⟨w.heap.size, 0, none⟩) m m, .slice none 0 0, .int .i64 (m : Int)] 90)) (fun c => if c < w.heap.size then K c else if c = w.heap.size + 1 then (o, 5 + 3 * i) else (o, 6 + 3 * i)) o i (w.heap.size + 1) ⟨xs, []⟩ := by
  subst hm
  have h1 : (w.alloc (.cells (vals xs).toArray 5)).heap.size = w.heap.size + 1 := by simp
  have hb : ((w.alloc (.cells (vals xs).toArray 5)).alloc (.cells #[.slice (some ⟨w.heap.size, 0, none⟩) xs.length xs.length, .slice none 0 0, .int .i64 (xs.length : Int)] 90)).heap[w.heap.size + 1]? = some (.cells #[.slice (some ⟨w.heap.size, 0, none⟩) xs.length xs.length, .slice none 0 0, .int .i64 (xs.length : Int)] 90 (0, 0)) := by
    have := heap_alloc_new (w.alloc (.cells (vals xs).toArray 5)) (.cells #[.slice (some ⟨w.heap.size, 0, none⟩) xs.length xs.length, .slice none 0 0, .int .i64 (xs.length : Int)] 90)
    rw [h1] at this
    exact this
  have hd : ((w.alloc (.cells (vals xs).toArray 5)).alloc (.cells #[.slice (some ⟨w.heap.size, 0, none⟩) xs.length xs.length, .slice none 0 0, .int .i64 (xs.length : Int)] 90)).heap[w.heap.size]? = some (.cells (vals xs).toArray 5 (0, 0)) := (Below.heap_alloc _ _ _ (by simp)).trans (heap_alloc_new _ _)
  refine ⟨by rw [if_neg (by omega), if_pos rfl], .slice (some ⟨w.heap.size, 0, none⟩) xs.length xs.length, .slice none 0 0, ⟨hb, ⟨by simp [vals_len], Or.inr ⟨w.heap.size, xs.length, (vals xs).toArray, rfl, Nat.zero_le _, hd, Nat.le_refl _, hml, by simp [vals_len], List.take_of_length_le (by simp [vals_len])⟩⟩, ⟨rfl, Or.inl ⟨rfl, rfl⟩⟩, ⟨hs, fun k u hu => by simp at hu⟩⟩, fun g hg => ?_, fun g hg => by simp [Value.ownBlock] at hg⟩
  simp [Value.ownBlock] at hg
  subst hg
  simp

/-! What may be loaded -/
theorem less_eq : ∀ a b : List UInt8, Op.bytesLess a b = bytesBefore a b
  | [], [] => rfl
  | _ :: _, [] => rfl
  | [], _ :: _ => rfl
  | a :: x, b :: y => by
    show (decide (a < b) || (a == b && Op.bytesLess x y)) = (decide (a < b) || (a == b && bytesBefore x y))
    rw [less_eq x y]
theorem before_asymm {a b : Nm} (h : bytesBefore a b = true) : bytesBefore b a = false := by
  cases e : bytesBefore b a with
  | false => rfl
  | true =>
    have := bytes_trans a b a h e
    rw [bytes_irrefl] at this
    cases this
theorem leq_eq (a b : Nm) : (Op.bytesLess a b || a == b) = !bytesBefore b a := by
  rw [less_eq]
  by_cases h : a = b
  · subst h; simp [bytes_irrefl]
  · rcases bytes_total a b h with h1 | h1
    · rw [h1, before_asymm h1]; rfl
    · rw [h1, before_asymm h1]
      simpa using h
def chn : Nm → Image → Bool
  | _, [] => true
  | a, p :: l => isNm p.1 && bytesBefore a p.1 && chn p.1 l
def lastN (l : Image) : Nm := ((l.getLast?).map (·.1)).getD []
theorem chn_snoc : ∀ (a : Nm) (l : Image) (p : Nm × List Nat), chn a (l ++ [p]) = (chn a l && isNm p.1 && bytesBefore (((l.getLast?).map (·.1)).getD a) p.1)
  | a, [], p => by simp [chn]
  | a, q :: l, p => by
    show (isNm q.1 && bytesBefore a q.1 && chn q.1 (l ++ [p])) = (isNm q.1 && bytesBefore a q.1 && chn q.1 l && isNm p.1 && _)
    rw [chn_snoc q.1 l p]
    have e : (((q :: l).getLast?).map (·.1)).getD a = ((l.getLast?).map (·.1)).getD q.1 := by
      cases h : l.getLast? with
      | none => rw [List.getLast?_eq_none_iff] at h; subst h; rfl
      | some x => rw [List.getLast?_cons, h]; rfl
    rw [e]
    simp only [Bool.and_assoc]
theorem chn_pre : ∀ (a : Nm) (l t : Image), chn a (l ++ t) = true → chn a l = true
  | _, [], _, _ => rfl
  | a, q :: l, t, h => by
    simp only [List.cons_append, chn, Bool.and_eq_true] at h ⊢
    exact ⟨h.1, chn_pre q.1 l t h.2⟩
theorem chn_take {img : Image} (h : chn [] img = true) (k : Nat) : chn [] (img.take k) = true := chn_pre [] _ (img.drop k) (by rw [List.take_append_drop]; exact h)
def sumI (l : Image) : Nat := (l.map fun p => p.2.length).sum
def okB (img : Image) (r : Nat) : Bool := decide (img.length ≤ 64) && chn [] img && decide (sumI img ≤ r)
theorem sumI_snoc (l : Image) (p : Nm × List Nat) : sumI (l ++ [p]) = sumI l + p.2.length := by simp [sumI]
theorem lastN_snoc (l : Image) (p : Nm × List Nat) : lastN (l ++ [p]) = p.1 := by simp [lastN]
theorem chn_srt : ∀ (a : Nm) (l : Image), chn a l = true → (∀ p ∈ l, bytesBefore a p.1 = true ∧ isNm p.1 = true) ∧ l.Pairwise fun p q => bytesBefore p.1 q.1 = true
  | _, [], _ => ⟨fun _ h => (by cases h), List.Pairwise.nil⟩
  | a, q :: l, h => by
    simp only [chn, Bool.and_eq_true] at h
    obtain ⟨h1, h2⟩ := chn_srt q.1 l h.2
    refine ⟨fun p hp => ?_, List.pairwise_cons.2 ⟨fun p hp => (h1 p hp).1, h2⟩⟩
    rcases List.mem_cons.1 hp with rfl | hp
    · exact ⟨h.1.2, h.1.1⟩
    · exact ⟨bytes_trans _ _ _ h.1.2 (h1 p hp).1, (h1 p hp).2⟩
theorem chn_of {l : Image} (h1 : ∀ p ∈ l, isNm p.1 = true) (h2 : l.Pairwise fun p q => bytesBefore p.1 q.1 = true) : ∀ a, (∀ p ∈ l, bytesBefore a p.1 = true) → chn a l = true := by
  induction l with
  | nil => intros; rfl
  | cons q l ih =>
    intro a ha
    obtain ⟨p1, p2⟩ := List.pairwise_cons.1 h2
    simp only [chn, Bool.and_eq_true]
    exact ⟨⟨h1 q (List.mem_cons_self ..), ha q (List.mem_cons_self ..)⟩, ih (fun p hp => h1 p (List.mem_cons_of_mem _ hp)) p2 q.1 p1⟩

set_option maxRecDepth 100000 in
set_option maxHeartbeats 1000000 in
theorem loadable_any (w : World) (K : Knd) (v : Value) (img : Image) (r : Int) (h : Im w K v img) (hn : ∀ p ∈ img, p.1.length ≤ 140737488355328) (hr : 0 ≤ r ∧ r ≤ 16777216) :
    Calls Try.prog 37 #[v, .int .i64 r] w fun e w' => e = .returned (.bool (okB img r.toNat)) ∧ Below w.heap.size w w' := by
  obtain ⟨a, c, rfl, hle, hmx⟩ := h.form
  have HI := hide h
  have HNm := hide hn
  obtain ⟨n, hnl⟩ : ∃ n, img.length = n := ⟨_, rfl⟩
  have HL := hide hnl
  rw [hnl] at hle HI ⊢
  unfold maxLen at hmx
  clear h hn hnl
  by_cases h64 : 64 < n
  · have h64' : (64 : Int) < (n : Int) := by omega
    have e0 : okB img r.toNat = false := by unfold okB; rw [decide_eq_false (by rw [HL.out]; omega)]; rfl
    rw [e0]
    go_enter Try.func37, Try.ntmps37
    go_wp2
    go_ret
    exact ⟨rfl, Below.refl _ _⟩
  have h64' : ¬ (64 : Int) < (n : Int) := by omega
  go_enter Try.func37, Try.ntmps37
  go_wp2
  go_loopw [5, 6, 14] (fun tot last i wr => ∃ (j t : Nat), j ≤ n ∧ i = .int .i64 (j : Int) ∧ tot = .int .i64 (t : Int) ∧ t ≤ j * 1099511627776 ∧ last = .string ⟨(lastN (img.take j)).toArray⟩ ∧ Hid (t = sumI (img.take j)) ∧ Hid (chn [] (img.take j) = true) ∧ Hid (Below w.heap.size w wr)) (fun _ _ i _ => n - (intOf i).toNat)
  case atStart => exact ⟨0, 0, Nat.zero_le _, rfl, rfl, Nat.zero_le _, rfl, rfl, rfl, Below.refl _ _⟩
  case round =>
    obtain ⟨j, t, hj, rfl, rfl, ht, rfl, HT, HC, HB⟩ := hrel
    by_cases hlt : j < n
    · have hlt' : (j : Int) < (n : Int) := by omega
      have hj0 : (0 : Int) ≤ (j : Int) := by omega
      obtain ⟨p, hp⟩ : ∃ p, img[j]? = some p := ⟨_, List.getElem?_eq_getElem (by rw [HL.out]; exact hlt)⟩
      have HTk := hide (take_snoc' img j p hp)
      have hpm := List.mem_of_getElem? hp
      have HSm := hide (HI.out.small p hpm).2
      obtain ⟨g, ap, cp, ha, hg, c0, c1, hby, hrp⟩ := (HI.out.kept (p := fun _ => False) (K' := ext K w.heap.size (0, 0)) (kp_below HB.out _ K _) (fun h => h)).at hp
      subst ha
      have HFn := hide (fun w => fileName_any w p.1 (HNm.out p hpm))
      have HLq : Hid (lastN (img.take (j + 1)) = p.1) := by show _ = _; rw [HTk.out, lastN_snoc]
      have HSq : Hid (sumI (img.take (j + 1)) = t + p.2.length) := by show _ = _; rw [HTk.out, sumI_snoc, HT.out]
      have HCq : Hid (chn [] (img.take (j + 1)) = (isNm p.1 && bytesBefore (lastN (img.take j)) p.1)) := by
        show _ = _
        rw [HTk.out, chn_snoc, HC.out, Bool.true_and]
        rfl
      have hleq : (Op.bytesLess (⟨p.1.toArray⟩ : ByteArray).toList (⟨(lastN (img.take j)).toArray⟩ : ByteArray).toList || (⟨p.1.toArray⟩ : ByteArray).toList == (⟨(lastN (img.take j)).toArray⟩ : ByteArray).toList) = !bytesBefore (lastN (img.take j)) p.1 := by
        rw [ByteArray.toList_eq, ByteArray.toList_eq]
        exact leq_eq _ _
      have HFalse : Hid (chn [] (img.take (j + 1)) = false → okB img r.toNat = false) := fun e => by
        have : chn [] img = false := by
          cases e2 : chn [] img with
          | false => rfl
          | true => rw [chn_take e2 (j + 1)] at e; cases e
        unfold okB
        rw [this]
        simp
      obtain ⟨pl, hpl⟩ : ∃ pl, p.2.length = pl := ⟨_, rfl⟩
      rw [hpl] at c1 HSq HSm
      have hpl2 : pl ≤ 1099511627776 := HSm.out
      generalize lastN (img.take j) = lst at *
      generalize hsl : (⟨lst.toArray⟩ : ByteArray) = sl at *
      generalize hsp : (⟨p.1.toArray⟩ : ByteArray) = sp at *
      generalize isNm p.1 = nm at *
      generalize bytesBefore lst p.1 = bb at *
      clear hp hpm hby hrp hsl hpl
      have HSp := hide hsp
      clear hsp
      cases nm with
      | false =>
        have e0 : okB img r.toNat = false := HFalse.out (by rw [HCq.out]; rfl)
        go_wp2_with fail
        refine (HFn.out _).mono ?_
        rintro e w2 ⟨rfl, rfl⟩
        go_wp2
        go_ret
        exact ⟨by rw [e0]; rfl, HB.out.alloc HB.out.size _⟩
      | true =>
        cases bb with
        | false =>
          have e0 : okB img r.toNat = false := HFalse.out (by rw [HCq.out]; rfl)
          go_wp2_with fail
          refine (HFn.out _).mono ?_
          rintro e w2 ⟨rfl, rfl⟩
          go_wp2
          go_ret
          exact ⟨by rw [e0]; rfl, HB.out.alloc HB.out.size _⟩
        | true =>
          go_wp2_with fail
          refine (HFn.out _).mono ?_
          rintro e w2 ⟨rfl, rfl⟩
          go_wp2
          go_roundw
          case rel => exact ⟨j + 1, t + pl, by omega, by go_num, by go_num, by omega, by rw [HLq.out, HSp.out], HSq.out.symm, HCq.out, HB.out.alloc HB.out.size _⟩
          case measure => simp [intOf]; omega
    · obtain rfl : j = n := by omega
      have e1 : img.take j = img := List.take_of_length_le (by rw [HL.out]; exact Nat.le_refl _)
      have hS : t = sumI img := by rw [HT.out, e1]
      have hO : okB img r.toNat = decide ((t : Int) ≤ r) := by
        have hc : chn [] img = true := by rw [← e1]; exact HC.out
        unfold okB
        rw [hc, ← hS, HL.out, decide_eq_true (by omega), Bool.true_and, Bool.true_and]
        exact decide_eq_decide.2 (by omega)
      have HO := hide hO
      clear hO hS e1
      go_wp2
      go_ret
      exact ⟨by rw [HO.out]; rfl, HB.out⟩

end Go.Proofs.Ytlpafgjgoheomaa
