import Derived.Test.YtfdclebajninfaaGreatDoorAgainP
import Derived.Test.YtfdclebajninfaaGreatDoorAppB
namespace Go.Proofs.YtfdclebajninfaaGreatDoor
open Go.RowKit Go.Maps Go.WideAt Go.WideShapes

set_option maxRecDepth 100000 in
set_option maxHeartbeats 400000 in
theorem loaded_any (w : World) (sp : Option Addr) (m cap : Nat) (xs : List Nat) (hm : xs.length = m) (hx : Bytes w sp xs) (hlen : m ≤ 140737488355328) :
    Calls Tryz.prog 29 #[.slice sp m cap] w fun e w' => e = .returned (.pointer (some ⟨w.heap.size + 1, 0, none⟩)) ∧ w' = (w.alloc (.cells (vals xs).toArray 5)).alloc (.cells #[.slice (some ⟨w.heap.size, 0, none⟩) m m, .slice none 0 0, .int .i64 (m : Int)] 87) := by
  have HC := hide (copied_any w sp m cap (vals xs) (by rw [vals_len, hm]) hlen hx.holds)
  clear hx
  go_enter Tryz.func29, Tryz.ntmps29
  go_wp2_with fail
  refine HC.out.mono ?_
  rintro e w1 ⟨rfl, rfl⟩
  go_wp2
  go_ret
  exact ⟨by simp, rfl⟩

theorem fk_laid (w : World) (K : Knd) (o i : Nat) (xs : List Nat) (m : Nat) (hm : xs.length = m) (hs : ∀ x ∈ xs, x < 256) (hml : m ≤ maxLen) :
    Fk ((w.alloc (.cells (vals xs).toArray 5)).alloc (.cells #[.slice (some ⟨w.heap.size, 0, none⟩) m m, .slice none 0 0, .int .i64 (m : Int)] 87)) (fun c => if c < w.heap.size then K c else if c = w.heap.size + 1 then (o, 5 + 3 * i) else (o, 6 + 3 * i)) o i (w.heap.size + 1) ⟨xs, []⟩ := by
  subst hm
  have h1 : (w.alloc (.cells (vals xs).toArray 5)).heap.size = w.heap.size + 1 := by simp
  have hb : ((w.alloc (.cells (vals xs).toArray 5)).alloc (.cells #[.slice (some ⟨w.heap.size, 0, none⟩) xs.length xs.length, .slice none 0 0, .int .i64 (xs.length : Int)] 87)).heap[w.heap.size + 1]? = some (.cells #[.slice (some ⟨w.heap.size, 0, none⟩) xs.length xs.length, .slice none 0 0, .int .i64 (xs.length : Int)] 87 (0, 0)) := by
    have := heap_alloc_new (w.alloc (.cells (vals xs).toArray 5)) (.cells #[.slice (some ⟨w.heap.size, 0, none⟩) xs.length xs.length, .slice none 0 0, .int .i64 (xs.length : Int)] 87)
    rw [h1] at this
    exact this
  have hd : ((w.alloc (.cells (vals xs).toArray 5)).alloc (.cells #[.slice (some ⟨w.heap.size, 0, none⟩) xs.length xs.length, .slice none 0 0, .int .i64 (xs.length : Int)] 87)).heap[w.heap.size]? = some (.cells (vals xs).toArray 5 (0, 0)) := (Below.heap_alloc _ _ _ (by simp)).trans (heap_alloc_new _ _)
  refine ⟨by rw [if_neg (by omega), if_pos rfl], .slice (some ⟨w.heap.size, 0, none⟩) xs.length xs.length, .slice none 0 0, ⟨hb, ⟨by simp [vals_len], Or.inr ⟨w.heap.size, xs.length, (vals xs).toArray, rfl, Nat.zero_le _, hd, Nat.le_refl _, hml, by simp [vals_len], List.take_of_length_le (by simp [vals_len])⟩⟩, ⟨rfl, Or.inl ⟨rfl, rfl⟩⟩, ⟨hs, fun k u hu => by simp at hu⟩⟩, fun g hg => ?_, fun g hg => by simp [Value.ownBlock] at hg⟩
  simp [Value.ownBlock] at hg
  subst hg
  simp

/-! What may be loaded -/
theorem less_eq : ∀ a b : List UInt8, Op.bytesLess a b = bytesBefore a b
  | [], [] => rfl
  | _ :: _, [] => rfl
  | [], _ :: _ => rfl
  | a :: x, b :: y => by
    show (decide (a < b) || (a == b && Op.bytesLess x y)) = (decide (a < b) || (a == b && bytesBefore x y))
    rw [less_eq x y]
theorem before_asymm {a b : Nm} (h : bytesBefore a b = true) : bytesBefore b a = false := by
  cases e : bytesBefore b a with
  | false => rfl
  | true =>
    have := bytes_trans a b a h e
    rw [bytes_irrefl] at this
    cases this
theorem leq_eq (a b : Nm) : (Op.bytesLess a b || a == b) = !bytesBefore b a := by
  rw [less_eq]
  by_cases h : a = b
  · subst h; simp [bytes_irrefl]
  · rcases bytes_total a b h with h1 | h1
    · rw [h1, before_asymm h1]; rfl
    · rw [h1, before_asymm h1]
      simpa using h
def chn : Nm → Image → Bool
  | _, [] => true
  | a, p :: l => isNm p.1 && bytesBefore a p.1 && chn p.1 l
def lastN (l : Image) : Nm := ((l.getLast?).map (·.1)).getD []
theorem chn_snoc : ∀ (a : Nm) (l : Image) (p : Nm × List Nat), chn a (l ++ [p]) = (chn a l && isNm p.1 && bytesBefore (((l.getLast?).map (·.1)).getD a) p.1)
  | a, [], p => by simp [chn]
  | a, q :: l, p => by
    show (isNm q.1 && bytesBefore a q.1 && chn q.1 (l ++ [p])) = (isNm q.1 && bytesBefore a q.1 && chn q.1 l && isNm p.1 && _)
    rw [chn_snoc q.1 l p]
    have e : (((q :: l).getLast?).map (·.1)).getD a = ((l.getLast?).map (·.1)).getD q.1 := by
      cases h : l.getLast? with
      | none => rw [List.getLast?_eq_none_iff] at h; subst h; rfl
      | some x => rw [List.getLast?_cons, h]; rfl
    rw [e]
    simp only [Bool.and_assoc]
theorem chn_pre : ∀ (a : Nm) (l t : Image), chn a (l ++ t) = true → chn a l = true
  | _, [], _, _ => rfl
  | a, q :: l, t, h => by
    simp only [List.cons_append, chn, Bool.and_eq_true] at h ⊢
    exact ⟨h.1, chn_pre q.1 l t h.2⟩
theorem chn_take {img : Image} (h : chn [] img = true) (k : Nat) : chn [] (img.take k) = true := chn_pre [] _ (img.drop k) (by rw [List.take_append_drop]; exact h)
def sumI (l : Image) : Nat := (l.map fun p => p.2.length).sum
def okB (img : Image) (r : Nat) : Bool := decide (img.length ≤ 64) && chn [] img && decide (sumI img ≤ r)
theorem sumI_snoc (l : Image) (p : Nm × List Nat) : sumI (l ++ [p]) = sumI l + p.2.length := by simp [sumI]
theorem lastN_snoc (l : Image) (p : Nm × List Nat) : lastN (l ++ [p]) = p.1 := by simp [lastN]
theorem chn_srt : ∀ (a : Nm) (l : Image), chn a l = true → (∀ p ∈ l, bytesBefore a p.1 = true ∧ isNm p.1 = true) ∧ l.Pairwise fun p q => bytesBefore p.1 q.1 = true
  | _, [], _ => ⟨fun _ h => (by cases h), List.Pairwise.nil⟩
  | a, q :: l, h => by
    simp only [chn, Bool.and_eq_true] at h
    obtain ⟨h1, h2⟩ := chn_srt q.1 l h.2
    refine ⟨fun p hp => ?_, List.pairwise_cons.2 ⟨fun p hp => (h1 p hp).1, h2⟩⟩
    rcases List.mem_cons.1 hp with rfl | hp
    · exact ⟨h.1.2, h.1.1⟩
    · exact ⟨bytes_trans _ _ _ h.1.2 (h1 p hp).1, (h1 p hp).2⟩
theorem chn_of {l : Image} (h1 : ∀ p ∈ l, isNm p.1 = true) (h2 : l.Pairwise fun p q => bytesBefore p.1 q.1 = true) : ∀ a, (∀ p ∈ l, bytesBefore a p.1 = true) → chn a l = true := by
  induction l with
  | nil => intros; rfl
  | cons q l ih =>
    intro a ha
    obtain ⟨p1, p2⟩ := List.pairwise_cons.1 h2
    simp only [chn, Bool.and_eq_true]
    exact ⟨⟨h1 q (List.mem_cons_self ..), ha q (List.mem_cons_self ..)⟩, ih (fun p hp => h1 p (List.mem_cons_of_mem _ hp)) p2 q.1 p1⟩

set_option maxRecDepth 100000 in
set_option maxHeartbeats 1000000 in
theorem loadable_any (w : World) (K : Knd) (v : Value) (img : Image) (r : Int) (h : Im w K v img) (hn : ∀ p ∈ img, p.1.length ≤ 140737488355328) (hr : 0 ≤ r ∧ r ≤ 16777216) :
    Calls Tryz.prog 27 #[v, .int .i64 r] w fun e w' => e = .returned (.bool (okB img r.toNat)) ∧ Below w.heap.size w w' := by
  obtain ⟨a, c, rfl, hle, hmx⟩ := h.form
  have HI := hide h
  have HNm := hide hn
  obtain ⟨n, hnl⟩ : ∃ n, img.length = n := ⟨_, rfl⟩
  have HL := hide hnl
  rw [hnl] at hle HI ⊢
  unfold maxLen at hmx
  clear h hn hnl
  by_cases h64 : 64 < n
  · have h64' : (64 : Int) < (n : Int) := by omega
    have e0 : okB img r.toNat = false := by unfold okB; rw [decide_eq_false (by rw [HL.out]; omega)]; rfl
    rw [e0]
    go_enter Tryz.func27, Tryz.ntmps27
    go_wp2
    go_ret
    exact ⟨rfl, Below.refl _ _⟩
  have h64' : ¬ (64 : Int) < (n : Int) := by omega
  go_enter Tryz.func27, Tryz.ntmps27
  go_wp2
  go_loopw [5, 6, 14] (fun tot last i wr => ∃ (j t : Nat), j ≤ n ∧ i = .int .i64 (j : Int) ∧ tot = .int .i64 (t : Int) ∧ t ≤ j * 1099511627776 ∧ last = .string ⟨(lastN (img.take j)).toArray⟩ ∧ Hid (t = sumI (img.take j)) ∧ Hid (chn [] (img.take j) = true) ∧ Hid (Below w.heap.size w wr)) (fun _ _ i _ => n - (intOf i).toNat)
  case atStart => exact ⟨0, 0, Nat.zero_le _, rfl, rfl, Nat.zero_le _, rfl, rfl, rfl, Below.refl _ _⟩
  case round =>
    obtain ⟨j, t, hj, rfl, rfl, ht, rfl, HT, HC, HB⟩ := hrel
    by_cases hlt : j < n
    · have hlt' : (j : Int) < (n : Int) := by omega
      have hj0 : (0 : Int) ≤ (j : Int) := by omega
      obtain ⟨p, hp⟩ : ∃ p, img[j]? = some p := ⟨_, List.getElem?_eq_getElem (by rw [HL.out]; exact hlt)⟩
      have HTk := hide (take_snoc' img j p hp)
      have hpm := List.mem_of_getElem? hp
      have HSm := hide (HI.out.small p hpm).2
      obtain ⟨g, ap, cp, ha, hg, c0, c1, hby, hrp⟩ := (HI.out.kept (p := fun _ => False) (K' := ext K w.heap.size (0, 0)) (kp_below HB.out _ K _) (fun h => h)).at hp
      subst ha
      have HFn := hide (fun w => fileName_any w p.1 (HNm.out p hpm))
      have HLq : Hid (lastN (img.take (j + 1)) = p.1) := by show _ = _; rw [HTk.out, lastN_snoc]
      have HSq : Hid (sumI (img.take (j + 1)) = t + p.2.length) := by show _ = _; rw [HTk.out, sumI_snoc, HT.out]
      have HCq : Hid (chn [] (img.take (j + 1)) = (isNm p.1 && bytesBefore (lastN (img.take j)) p.1)) := by
        show _ = _
        rw [HTk.out, chn_snoc, HC.out, Bool.true_and]
        rfl
      have hleq : (Op.bytesLess (⟨p.1.toArray⟩ : ByteArray).toList (⟨(lastN (img.take j)).toArray⟩ : ByteArray).toList || (⟨p.1.toArray⟩ : ByteArray).toList == (⟨(lastN (img.take j)).toArray⟩ : ByteArray).toList) = !bytesBefore (lastN (img.take j)) p.1 := by
        rw [ByteArray.toList_eq, ByteArray.toList_eq]
        exact leq_eq _ _
      have HFalse : Hid (chn [] (img.take (j + 1)) = false → okB img r.toNat = false) := fun e => by
        have : chn [] img = false := by
          cases e2 : chn [] img with
          | false => rfl
          | true => rw [chn_take e2 (j + 1)] at e; cases e
        unfold okB
        rw [this]
        simp
      obtain ⟨pl, hpl⟩ : ∃ pl, p.2.length = pl := ⟨_, rfl⟩
      rw [hpl] at c1 HSq HSm
      have hpl2 : pl ≤ 1099511627776 := HSm.out
      generalize lastN (img.take j) = lst at *
      generalize hsl : (⟨lst.toArray⟩ : ByteArray) = sl at *
      generalize hsp : (⟨p.1.toArray⟩ : ByteArray) = sp at *
      generalize isNm p.1 = nm at *
      generalize bytesBefore lst p.1 = bb at *
      clear hp hpm hby hrp hsl hpl
      have HSp := hide hsp
      clear hsp
      cases nm with
      | false =>
        have e0 : okB img r.toNat = false := HFalse.out (by rw [HCq.out]; rfl)
        go_wp2_with fail
        refine (HFn.out _).mono ?_
        rintro e w2 ⟨rfl, rfl⟩
        go_wp2
        go_ret
        exact ⟨by rw [e0]; rfl, HB.out.alloc HB.out.size _⟩
      | true =>
        cases bb with
        | false =>
          have e0 : okB img r.toNat = false := HFalse.out (by rw [HCq.out]; rfl)
          go_wp2_with fail
          refine (HFn.out _).mono ?_
          rintro e w2 ⟨rfl, rfl⟩
          go_wp2
          go_ret
          exact ⟨by rw [e0]; rfl, HB.out.alloc HB.out.size _⟩
        | true =>
          go_wp2_with fail
          refine (HFn.out _).mono ?_
          rintro e w2 ⟨rfl, rfl⟩
          go_wp2
          go_roundw
          case rel => exact ⟨j + 1, t + pl, by omega, by go_num, by go_num, by omega, by rw [HLq.out, HSp.out], HSq.out.symm, HCq.out, HB.out.alloc HB.out.size _⟩
          case measure => simp [intOf]; omega
    · obtain rfl : j = n := by omega
      have e1 : img.take j = img := List.take_of_length_le (by rw [HL.out]; exact Nat.le_refl _)
      have hS : t = sumI img := by rw [HT.out, e1]
      have hO : okB img r.toNat = decide ((t : Int) ≤ r) := by
        have hc : chn [] img = true := by rw [← e1]; exact HC.out
        unfold okB
        rw [hc, ← hS, HL.out, decide_eq_true (by omega), Bool.true_and, Bool.true_and]
        exact decide_eq_decide.2 (by omega)
      have HO := hide hO
      clear hO hS e1
      go_wp2
      go_ret
      exact ⟨by rw [HO.out]; rfl, HB.out⟩

end Go.Proofs.YtfdclebajninfaaGreatDoor
namespace Go.Proofs.YtfdclebajninfaaGreatDoor
open Go.RowKit Go.Maps Go.WideAt Go.WideShapes

def chgI (img : Image) : List Chg := img.mapIdx fun i p => ⟨[], p.1, i⟩
def St.part (r : Nat) (img : Image) : St := ⟨r, 0, 0, 0, 0, 0, false, [], (chgI img).foldl withN [], chgI img, img.map fun p => ⟨p.2, []⟩⟩
theorem chgI_snoc (l : Image) (p : Nm × List Nat) : chgI (l ++ [p]) = chgI l ++ [⟨[], p.1, l.length⟩] := by simp [chgI, List.mapIdx_append]
theorem chgI_len (l : Image) : (chgI l).length = l.length := by simp [chgI]
theorem imgN_snoc (l : Image) (p : Nm × List Nat) : imgN (l ++ [p]) = imgN l ++ [(p.1, l.length)] := by simp [imgN, List.mapIdx_append]
theorem part_next (r : Nat) (l : Image) (p : Nm × List Nat) : ((St.part r l).made ⟨p.2, []⟩).ren ⟨[], p.1, l.length⟩ = St.part r (l ++ [p]) := by
  unfold St.part St.made St.ren
  simp only [chgI_snoc, List.foldl_append, List.foldl_cons, List.foldl_nil, List.map_append, List.map_cons, List.map_nil]
theorem ins_last {x : Nm × Nat} : ∀ {l : List (Nm × Nat)}, (∀ q ∈ l, bytesBefore x.1 q.1 = false) → insN x l = l ++ [x]
  | [], _ => rfl
  | y :: r, h => by
    unfold insN
    rw [h y (List.mem_cons_self ..)]
    simp only [Bool.false_eq_true, if_false]
    rw [ins_last (fun q hq => h q (List.mem_cons_of_mem _ hq))]
    rfl
theorem mem_imgN {l : Image} {q : Nm × Nat} (h : q ∈ imgN l) : ∃ p ∈ l, q.1 = p.1 ∧ q.2 < l.length := by
  unfold imgN at h
  obtain ⟨i, hi, rfl⟩ := List.mem_mapIdx.1 h
  exact ⟨l[i], List.getElem_mem hi, rfl, hi⟩
theorem nm_ne {x : Nm} (h : isNm x = true) : x ≠ [] := by rintro rfl; have := (nm_len h).1; simp at this
theorem fold_imgN {img : Image} (h : chn [] img = true) : ∀ k, (chgI (img.take k)).foldl withN [] = imgN (img.take k)
  | 0 => by simp [chgI, imgN]
  | k + 1 => by
    have ih := fold_imgN h k
    cases hp : img[k]? with
    | none =>
      have : img.length ≤ k := List.getElem?_eq_none_iff.1 hp
      rw [List.take_of_length_le this] at ih
      rw [List.take_of_length_le (by omega)]
      exact ih
    | some p =>
      have ht := take_snoc' img k p hp
      have hc := chn_take h (k + 1)
      rw [ht] at hc ⊢
      obtain ⟨h1, h2⟩ := chn_srt [] _ hc
      have h3 := (List.pairwise_append.1 h2).2.2
      have hnp := (h1 p (by simp)).2
      rw [chgI_snoc, List.foldl_append, ih, imgN_snoc]
      show withN (imgN (img.take k)) ⟨[], p.1, (img.take k).length⟩ = _
      unfold withN
      rw [if_neg (nm_ne hnp)]
      unfold putN
      have e1 : delN [] (imgN (img.take k)) = imgN (img.take k) := del_none fun q hq => by
        obtain ⟨s, hs, e, _⟩ := mem_imgN hq
        rw [e]; exact nm_ne (h1 s (List.mem_append_left _ hs)).2
      have e2 : delN p.1 (imgN (img.take k)) = imgN (img.take k) := del_none fun q hq => by
        obtain ⟨s, hs, e, _⟩ := mem_imgN hq
        intro e3
        have := h3 s hs p (by simp)
        rw [← e, e3, bytes_irrefl] at this
        cases this
      show insN (p.1, (img.take k).length) (delN p.1 (delN [] (imgN (img.take k)))) = _
      rw [e1, e2]
      refine ins_last fun q hq => ?_
      obtain ⟨s, hs, e, _⟩ := mem_imgN hq
      rw [e]
      exact before_asymm (h3 s hs p (by simp))
theorem fold_img {img : Image} (h : chn [] img = true) : (chgI img).foldl withN [] = imgN img := by
  have := fold_imgN h img.length
  rwa [List.take_length] at this
theorem part_end (r : Nat) {img : Image} (h : chn [] img = true) : (St.part r img).settledN = St.laid r img := by
  unfold St.part St.settledN St.laid
  simp only [fold_img h]
theorem part_seen (r : Nat) {img : Image} (h : chn [] img = true) : (St.part r img).seen = imgN img := fold_img h

theorem laid_inv {r : Nat} {img : Image} (hr : r ≤ 16777216) (h : okB img r = true) : Inv (St.laid r img) := by
  simp only [okB, Bool.and_eq_true, decide_eq_true_eq] at h
  obtain ⟨⟨h1, h2⟩, h3⟩ := h
  have hs : Srt (imgN img) := by rw [← fold_img h2]; exact fold_srt List.Pairwise.nil _
  have hin : ∀ p ∈ imgN img, p.2 < (St.laid r img).files.length ∧ isNm p.1 = true := fun p hp => by
    obtain ⟨s, hs, e, e2⟩ := mem_imgN hp
    refine ⟨by simpa [St.laid] using e2, ?_⟩
    rw [e]; exact ((chn_srt [] _ h2).1 s hs).2
  have hl : (imgN img).length ≤ 64 := by simpa [imgN] using h1
  have hnod : ((imgN img).map (·.2)).Nodup := by
    have e : (imgN img).map (·.2) = List.range img.length := by
      refine List.ext_getElem? fun i => ?_
      simp only [imgN, List.getElem?_map, List.getElem?_mapIdx]
      by_cases hi : i < img.length
      · rw [List.getElem?_eq_getElem hi, List.getElem?_range hi]; rfl
      · rw [List.getElem?_eq_none (by omega), List.getElem?_eq_none (by simpa using hi)]; rfl
    rw [e]; exact List.nodup_range
  have hu : (St.laid r img).used = sumI img := by
    have e := laid_image r img
    unfold St.image at e
    have e2 : (St.laid r img).off = false := rfl
    rw [e2] at e
    simp only [Bool.false_eq_true, if_false] at e
    unfold St.used sumI
    have := congrArg (fun l : Image => l.map fun p => p.2.length) e
    simp only [List.map_map] at this
    rw [← this]
    rfl
  exact ⟨hr, hs, hs, hin, hin, fun c hc => (by cases hc), hnod, hl, hl, by rw [hu]; exact h3, rfl⟩
theorem laid_sz {r : Nat} {img : Image} (hr : r ≤ 16777216) (h : okB img r = true) (hs : ∀ p ∈ img, ∀ x ∈ p.2, x < 256) : Sz (St.laid r img) 0 := by
  simp only [okB, Bool.and_eq_true, decide_eq_true_eq] at h
  refine ⟨Nat.le_refl _, Nat.le_refl _, Nat.le_refl _, fun f hf => ?_⟩
  simp only [St.laid, List.mem_map] at hf
  obtain ⟨p, hp, rfl⟩ := hf
  refine ⟨⟨hs p hp, fun k u hu => by simp at hu⟩, ?_, Nat.le_refl _⟩
  have h1 := sum_mem_le (fun p : Nm × List Nat => p.2.length) hp
  have h2 := h.2
  unfold sumI at h2
  show p.2.length ≤ _
  omega

set_option maxRecDepth 100000 in
set_option maxHeartbeats 2000000 in
theorem Load_any (w : World) (K : Knd) (o : Nat) (ho : o ≠ 0) (v : Value) (img : Image) (r : Nat) (h : Im w K v img) (hn : ∀ p ∈ img, p.1.length ≤ 140737488355328) (hr : r ≤ 16777216) (hok : okB img r = true) :
    Calls Tryz.prog 7 #[v, .int .i64 (r : Int)] w fun e w' => ∃ d K', e = .returned (.tuple #[.pointer (some ⟨d, 0, none⟩), .int .i64 0]) ∧ Dk w' K' o d (St.laid r img) ∧ Kp (Ow o) K K' w w' := by
  obtain ⟨a, c, rfl, hle, hmx⟩ := h.form
  unfold maxLen at hmx
  have HNw := hide (New_ok w r hr)
  have HI := hide h
  have HNm := hide hn
  have HOk := hide hok
  have hch : chn [] img = true ∧ img.length ≤ 64 := by
    simp only [okB, Bool.and_eq_true, decide_eq_true_eq] at hok
    exact ⟨hok.1.2, hok.1.1⟩
  have HCh := hide hch.1
  obtain ⟨n, hnl⟩ : ∃ n, img.length = n := ⟨_, rfl⟩
  have HL := hide hnl
  have hn64 : n ≤ 64 := by rw [← hnl]; exact hch.2
  rw [hnl] at hle HI ⊢
  clear h hn hok hnl hch
  go_enter Tryz.func7, Tryz.ntmps7
  go_wp2_with fail
  refine HNw.out.mono ?_
  rintro e w1 ⟨rfl, hw1⟩
  have hd1 := new_dk w K o r
  rw [← hw1] at hd1
  have hb1 : Below w.heap.size w w1 := by rw [hw1]; exact (Below.refl _ _).alloc (Nat.le_refl _) _
  have hk1 : Kp (fun _ => False) K (newK K w.heap.size (o, 1)) w w1 := ⟨hb1.os, hb1.tape, hb1.output, hb1.size, fun c hc => by unfold newK; rw [if_neg (by omega)], fun c hc _ => hb1.block c hc⟩
  clear hw1 hb1 HNw
  obtain ⟨d, hd⟩ : ∃ d, w.heap.size = d := ⟨_, rfl⟩
  rw [hd] at hd1 hk1 ⊢
  generalize newK K d (o, 1) = K1 at *
  have HK1 := hide hk1
  have HI1 := hide (HI.out.kept hk1 (fun h => h))
  have HLd := hide (loadable_any w1 K1 _ img (r : Int) HI1.out HNm.out ⟨by omega, by omega⟩)
  rw [show ((r : Int)).toNat = r by omega, HOk.out] at HLd
  have HD1 := hide hd1
  clear hd1 hk1
  go_wp2_with fail
  refine HLd.out.mono ?_
  rintro e w2 ⟨rfl, hb2⟩
  have HK2 := hide (HK1.out.trans (kp_below hb2 (fun _ => False) K1 (0, 0)))
  have HI2 := hide (HI1.out.kept (kp_below hb2 (fun _ => False) K1 (0, 0)) (fun h => h))
  have HD2 : Hid (∃ loc sv nv cv, Dm w2 (ext K1 w1.heap.size (0, 0)) o d loc sv nv cv (St.part r [])) := by
    obtain ⟨loc, sv, nv, cv, hm⟩ := HD1.out
    exact ⟨loc, sv, nv, cv, hm.kept (kp_below hb2 (fun _ => False) K1 (0, 0)) (fun _ h => h)⟩
  generalize ext K1 w1.heap.size (0, 0) = K2 at *
  clear hb2 HLd HI1 HK1 HD1
  go_wp2
  go_loopw [24] (fun i wr => ∃ (j : Nat) (K' : Knd), j ≤ n ∧ i = .int .i64 (j : Int) ∧ Hid (∃ loc sv nv cv, Dm wr K' o d loc sv nv cv (St.part r (img.take j))) ∧ Hid (Im wr K' (.slice a n c) img) ∧ Hid (Kp (Ow o) K K' w wr)) (fun i _ => n - (intOf i).toNat)
  case atStart => exact ⟨0, K2, Nat.zero_le _, rfl, HD2, HI2, hide (HK2.out.mono (fun _ h => h.elim))⟩
  case round =>
    obtain ⟨j, K', hj, rfl, HD, HIr, HKr⟩ := hrel
    clear HD2 HI2 HK2
    by_cases hlt : j < n
    · have hlt' : (j : Int) < (n : Int) := by omega
      have hj0 : (0 : Int) ≤ (j : Int) := by omega
      obtain ⟨p, hp⟩ : ∃ p, img[j]? = some p := ⟨_, List.getElem?_eq_getElem (by rw [HL.out]; exact hlt)⟩
      have HTk := hide (take_snoc' img j p hp)
      have hpm := List.mem_of_getElem? hp
      have HSm := hide (HIr.out.small p hpm)
      have HPn := hide ((chn_srt [] _ HCh.out).1 p hpm).2
      obtain ⟨g, ap, cp, ha, hg, c0, c1, hby, hrp⟩ := HIr.out.at hp
      subst ha
      obtain ⟨pl, hpl⟩ : ∃ pl, p.2.length = pl := ⟨_, rfl⟩
      have HPl := hide hpl
      rw [hpl] at c1
      have HBy := hide hby
      have HLj : Hid ((img.take j).length = j) := by show _ = _; rw [List.length_take, HL.out]; omega
      obtain ⟨sp, hsp⟩ : ∃ sp : ByteArray, (⟨p.1.toArray⟩ : ByteArray) = sp := ⟨_, rfl⟩
      rw [hsp] at c0
      have HSp := hide hsp
      clear hp hpm hby hrp hpl hsp
      go_wp2
      have hx1 : Below wr.heap.size wr (wr.alloc (.cells #[.string sp, .slice ap pl cp] 28)) := (Below.refl _ _).alloc (Nat.le_refl _) _
      have hx2 : (wr.alloc (.cells #[.string sp, .slice ap pl cp] 28)).heap[wr.heap.size]? = some (.cells #[.string sp, .slice ap pl cp] 28 (0, 0)) := heap_alloc_new _ _
      generalize wr.alloc (.cells #[.string sp, .slice ap pl cp] 28) = wq at *
      have y0 : wq.cell? ⟨wr.heap.size, 0, none⟩ = some (.string sp) := by simp [World.cell?, hx2]
      have y1 : wq.cell? ⟨wr.heap.size, 1, none⟩ = some (.slice ap pl cp) := by simp [World.cell?, hx2]
      have hbx := lt_of_block hx2
      have HKq : Hid (Kp (fun _ => False) K' (ext K' wr.heap.size (0, 0)) wr wq.drew) := (kp_below hx1 (fun _ => False) K' (0, 0)).drew
      have HLo := hide (loaded_any wq.drew ap pl cp p.2 HPl.out (HBy.out.below hx1.drew) (by have := HSm.out.2; have := HPl.out; omega))
      have HCq := hide (chn_take HCh.out j)
      have HFl : Hid ((St.part r (img.take j)).files.length = j) := by show _ = _; rw [← HLj.out]; simp [St.part]
      have HNx : Hid (((St.part r (img.take j)).made ⟨p.2, []⟩).ren ⟨[], p.1, j⟩ = St.part r (img.take (j + 1))) := by
        have := part_next r (img.take j) p
        rw [HLj.out] at this
        show _ = _
        rw [HTk.out]
        exact this
      have HRn : Hid (∀ w3, w3 = (wq.drew.alloc (.cells (vals p.2).toArray 5)).alloc (.cells #[.slice (some ⟨wq.drew.heap.size, 0, none⟩) pl pl, .slice none 0 0, .int .i64 (pl : Int)] 87) → Calls Tryz.prog 28 #[.pointer (some ⟨d, 0, none⟩), .agg #[.string ⟨#[]⟩, .string sp, .pointer (some ⟨wq.drew.heap.size + 1, 0, none⟩)]] w3 fun e w' => ∃ K4, e = .returned (.tuple #[]) ∧ (∃ loc sv nv cv, Dm w' K4 o d loc sv nv cv (St.part r (img.take (j + 1)))) ∧ Kp (Ow o) K' K4 wr w' ∧ w'.heap[wr.heap.size]? = wq.heap[wr.heap.size]?) := by
        intro w3 hw3
        obtain ⟨loc, sv, nv, cv, hD⟩ := HD.out
        have hDq := hD.kept HKq.out (fun _ h => h)
        have hb3 : Below wq.drew.heap.size wq.drew w3 := by rw [hw3]; exact ((Below.refl _ _).alloc (Nat.le_refl _) _).alloc (by simp) _
        have hfk := fk_laid wq.drew (ext K' wr.heap.size (0, 0)) o (St.part r (img.take j)).files.length p.2 pl HPl.out HSm.out.1 (by have := HSm.out.2; have := HPl.out; unfold maxLen; omega)
        rw [← hw3] at hfk
        have hin : ∀ q ∈ (St.part r (img.take j)).seen, q.2 < (St.part r (img.take j)).files.length := fun q hq => by
          rw [part_seen r HCq.out] at hq
          obtain ⟨_, _, _, e⟩ := mem_imgN hq
          rw [HFl.out, ← HLj.out]; exact e
        have hM := hDq.madeF hb3 hfk (fun q hq => (by cases hq)) hin (fun x hx _ => by
          have : x ∈ chgI (img.take j) := hx
          unfold chgI at this
          obtain ⟨i, hi, rfl⟩ := List.mem_mapIdx.1 this
          have hi2 := hi
          rw [HLj.out] at hi2
          rw [HFl.out]; exact hi2)
        have hR := rename_any w3 _ o d _ sv nv cv _ hM.1 ⟨[], p.1, j⟩ (some ⟨wq.drew.heap.size + 1, 0, none⟩) (by rw [if_neg (nm_ne HPn.out)]; simp only; rw [HFl.out, upd_same]) (by simp) (nm_len HPn.out).2 (by show (St.part r (img.take j)).seen.length < _; rw [part_seen r HCq.out]; unfold imgN; rw [List.length_mapIdx, HLj.out]; omega) (by show (chgI (img.take j)).length < _; rw [chgI_len, HLj.out]; omega)
        simp only [HSp.out] at hR
        refine hR.mono ?_
        rintro e w4 ⟨nv4, cv4, K4, rfl, hd4, hk4⟩
        rw [HNx.out] at hd4
        exact ⟨K4, rfl, ⟨_, _, _, _, hd4⟩, (HKq.out.mono (fun _ h => h.elim)).trans (hM.2.trans hk4), (hM.2.trans hk4).block _ hbx (by rw [ext_new _ _ (Nat.le_refl _)]; exact fun e => ho e.symm)⟩
      clear hx1 hx2
      go_region_held3 (fun w' => w'.cell? ⟨wr.heap.size, 0, none⟩ = some (.string sp) ∧ w'.cell? ⟨wr.heap.size, 1, none⟩ = some (.slice ap pl cp)) (go_keep) (first | (go_at_call 28; refine (HRn.out w3 HW3.out).mono ?_; rintro e w4 ⟨K4, rfl, hd4, hk4, hx4⟩; have z4 : w4.cell? ⟨wr.heap.size, 0, none⟩ = some (.string sp) := by { rw [World.cell?_of_block hx4]; exact y0 }; have z5 : w4.cell? ⟨wr.heap.size, 1, none⟩ = some (.slice ap pl cp) := by { rw [World.cell?_of_block hx4]; exact y1 }) | (go_at_call 29; refine HLo.out.mono ?_; rintro e w3 ⟨rfl, hw3⟩; have hb3 : Below wq.heap.size wq w3 := by { rw [hw3]; exact ((Below.refl _ _).drew.alloc (Nat.le_refl _) _).alloc (by simp) _ }; have z0 : w3.cell? ⟨wr.heap.size, 0, none⟩ = some (.string sp) := (hb3.cell (p := ⟨wr.heap.size, 0, none⟩) hbx).trans y0; have z1 : w3.cell? ⟨wr.heap.size, 1, none⟩ = some (.slice ap pl cp) := (hb3.cell (p := ⟨wr.heap.size, 1, none⟩) hbx).trans y1; have HW3 := hide hw3; clear hw3 hb3))
      all_goals
        have HD4 := hide hd4
        have HK4 := hide (HKr.out.trans hk4)
        have HI4 := hide (HIr.out.kept hk4 (fun e => ho e.symm))
        clear hd4 hk4 hx4
        go_wp2
        go_roundw
        case rel => exact ⟨j + 1, K4, by omega, by go_num, HD4, HI4, HK4⟩
        case measure => simp [intOf]; omega
    · obtain rfl : n = j := by omega
      have e1 : img.take n = img := List.take_of_length_le (by rw [HL.out]; exact Nat.le_refl _)
      rw [e1] at HD
      obtain ⟨loc, sv, nv, cv, hD⟩ := HD.out
      have HSt := hide (settleNames_any wr K' o d loc sv nv cv _ hD (fun x hx => by
        have : x ∈ chgI img := hx
        unfold chgI at this
        obtain ⟨i, hi, rfl⟩ := List.mem_mapIdx.1 this
        exact ⟨by simp, (nm_len ((chn_srt [] _ HCh.out).1 _ (List.getElem_mem hi)).2).2⟩) (by show 0 + (chgI img).length < _; rw [chgI_len, HL.out]; omega))
      clear hD e1
      go_wp2_with fail
      refine HSt.out.mono ?_
      rintro e w5 ⟨sv5, cv5, K5, rfl, hd5, hk5⟩
      have HD5 := hide hd5
      have HK5 := hide (HKr.out.trans hk5)
      clear hd5 hk5
      go_wp2
      go_ret2
      rw [part_end r HCh.out] at HD5
      exact ⟨d, K5, rfl, ⟨_, _, _, _, HD5.out⟩, HK5.out⟩

end Go.Proofs.YtfdclebajninfaaGreatDoor
