import Derived.Test.YthgggjdefhgfiaaNRef2
namespace Go.Proofs.Ythgggjdefhgfiaa
open Go.RowKit Go.Maps

/-- The first k without the one at i. -/
def del {α : Type} (l : List α) (i k : Nat) : List α := (l.take k).take i ++ (l.take k).drop (i + 1)
theorem del_zero {α : Type} (l : List α) (i : Nat) : del l i 0 = [] := by simp [del]
theorem del_step {α : Type} {l : List α} {i k : Nat} {x : α} (h : l[k]? = some x) (hne : k ≠ i) : del l i (k + 1) = del l i k ++ [x] := by
  have hk : k < l.length := (List.getElem?_eq_some_iff.1 h).1
  have e : l.take (k + 1) = l.take k ++ [x] := by rw [List.take_add_one, h]; rfl
  have hl : (l.take k).length = k := by simp; omega
  unfold del
  rw [e]
  generalize l.take k = A at *
  by_cases hlt : k < i
  · rw [List.take_of_length_le (l := A ++ [x]) (by simp; omega), List.take_of_length_le (l := A) (by omega), List.drop_of_length_le (l := A ++ [x]) (by simp; omega), List.drop_of_length_le (l := A) (by omega)]
    simp
  · rw [List.take_append_of_le_length (by omega), List.drop_append_of_le_length (by omega), List.append_assoc]
theorem del_at {α : Type} {l : List α} {i : Nat} (hk : i < l.length) : del l i (i + 1) = del l i i := by
  have h : l[i]? = some l[i] := List.getElem?_eq_getElem hk
  have e : l.take (i + 1) = l.take i ++ [l[i]] := by rw [List.take_add_one, h]; rfl
  have hl : (l.take i).length = i := by simp; omega
  unfold del
  rw [e]
  generalize l.take i = A at *
  rw [List.take_append_of_le_length (by omega), List.drop_of_length_le (l := A ++ [l[i]]) (by simp; omega), List.drop_of_length_le (l := A) (by omega)]
theorem del_all {α : Type} (l : List α) (i : Nat) : del l i l.length = l.take i ++ l.drop (i + 1) := by simp [del]
theorem del_len {α : Type} {l : List α} {i k : Nat} (_hi : i < l.length) (hk : k ≤ l.length) : (del l i k).length = if k ≤ i then k else k - 1 := by
  unfold del
  simp
  split <;> omega
theorem del_get {α : Type} {l : List α} {i k q : Nat} {x : α} (_hi : i < l.length) (hk : k ≤ l.length) (h : (del l i k)[q]? = some x) : l[if q < i then q else q + 1]? = some x := by
  unfold del at h
  have hl : ((l.take k).take i).length = min i k := by simp; omega
  by_cases c : q < min i k
  · rw [List.getElem?_append_left (by rw [hl]; exact c), List.getElem?_take, if_pos (by omega), List.getElem?_take, if_pos (by omega)] at h
    rw [if_pos (by omega)]; exact h
  · rw [List.getElem?_append_right (by rw [hl]; omega), hl, List.getElem?_drop, List.getElem?_take] at h
    split at h
    · rename_i h2
      by_cases hik : i ≤ k
      · rw [if_neg (by omega)]
        rw [show q + 1 = i + 1 + (q - min i k) by omega]; exact h
      · omega
    · cases h

set_option maxRecDepth 100000 in
set_option maxHeartbeats 4000000 in
theorem FDrop_any (w : World) (K : Knd) (o nb : Nat) (N : Nt) (h : Fk w K o nb N) (hL : N.row.length ≤ 8192) (i : Int) :
    Calls Try.prog 32 #[.pointer (some ⟨nb, 0, none⟩), .int .i64 i] w fun e w' => e = .returned (.bool (N.has i)) ∧ Fk w' (ext K w.heap.size (o, 2)) o nb (N.dropped i) ∧ Kp (PNet o) K (ext K w.heap.size (o, 2)) w w' := by
  obtain ⟨i0, hi, hz0, hz1, hz2⟩ := info_parts Try.infoFl
  obtain ⟨rv, ds, hw⟩ := h
  obtain ⟨a, c, hrv, _, _⟩ := hw.row.form
  subst hrv
  have hblk := hw.blk
  unfold fcells at hblk
  obtain ⟨y0, y1, y2, yf⟩ := blk3 hblk
  have hnl := lt_of_block hblk
  by_cases hx : N.has i = true
  · have HE : Hid (N.has i = true ∧ N.dropped i = N.drop i.toNat) := ⟨hx, by unfold Nt.dropped; rw [if_pos hx]⟩
    obtain ⟨k, m, rfl, hk, hm⟩ := has_true hx
    have HW := hide hw
    have HBk := hide hblk
    obtain ⟨L, hLe⟩ : ∃ L, N.row.length = L := ⟨_, rfl⟩
    have HLe := hide hLe
    rw [hLe] at hk hL y0
    have hkc : (k : Int) < (L : Int) := by omega
    have hk0 : (0 : Int) ≤ (k : Int) := by omega
    have hd1 : decide ((k : Int) < 0) = false := by simp
    have hd2 : decide (L ≤ k) = false := by simp; omega
    have hd3 : decide ((L : Int) ≤ (k : Int)) = false := by simp; omega
    clear hw hblk hm hx hLe
    go_enter Try.func32, Try.ntmps32
    go_wp2
    go_loopw [5, 6] (fun lv q wr => ∃ (j : Nat) (b : Option Addr) (n cc : Nat), j ≤ L ∧ n ≤ j ∧ q = .int .i64 j ∧ lv = .slice b n cc ∧ Hid ((del N.row k j).length = n) ∧ Hid (wr.ownsRow w.heap.size 75 2 (.slice b n cc) n (flv (del N.row k j) (del ds k j))) ∧ Hid (Below w.heap.size w wr)) (fun _ q _ => L - (intOf q).toNat)
    case atStart => exact ⟨0, none, 0, 0, Nat.zero_le _, Nat.le_refl _, rfl, rfl, hide (by rw [del_zero]; rfl), hide (by rw [del_zero, del_zero]; exact ⟨rfl, Or.inl ⟨rfl, rfl⟩⟩), hide (Below.refl _ _)⟩
    case round =>
      obtain ⟨j, b, n, cc, hj, hnj, rfl, rfl, HN, HR, HB⟩ := hrel
      have hblk2 : wr.heap[nb]? = _ := (HB.out.block nb hnl).trans HBk.out
      rw [HLe.out] at hblk2
      obtain ⟨u0, u1, u2, uf⟩ := blk3 hblk2
      have hnl2 := lt_of_block hblk2
      have HBk2 := hide hblk2
      clear hblk2
      by_cases hlt : j < L
      · have hlt' : (j : Int) < (L : Int) := by omega
        have hj0 : (0 : Int) ≤ (j : Int) := by omega
        by_cases hjk : j = k
        · have HS : Hid (del N.row k (j + 1) = del N.row k j ∧ del ds k (j + 1) = del ds k j) := by
            rw [hjk]
            exact ⟨del_at (by rw [HLe.out]; exact hk), del_at (by rw [HW.out.len, HLe.out]; exact hk)⟩
          have hb1 : ((j : Int) != (k : Int)) = false := by simp [hjk]
          have hb2 : ((j : Int) == (k : Int)) = true := by simp [hjk]
          subst hjk
          go_wp2
          go_roundw
          case rel => exact ⟨j + 1, b, n, cc, by omega, by omega, by go_num, rfl, hide (by rw [HS.out.1]; exact HN.out), hide (by rw [HS.out.1, HS.out.2]; exact HR.out), HB⟩
          case measure => simp [intOf]; omega
        · obtain ⟨m, hm⟩ : ∃ m, N.row[j]? = some m := ⟨_, List.getElem?_eq_getElem (by have := HLe.out; omega)⟩
          obtain ⟨g, d, ha, hd, c4, c5, c6, c7, c8, hKg⟩ := HW.out.at hm
          subst ha
          have hne1 : ¬ (j : Int) = (k : Int) := by omega
          have hb1 : ((j : Int) != (k : Int)) = true := by simp; omega
          have s4 : wr.cell? ⟨g, j * 2, none⟩ = some (.int .i64 m.to) := (HB.out.cell (p := ⟨g, j * 2, none⟩) c6).trans c4
          have s5 : wr.cell? ⟨g, j * 2 + 1, none⟩ = some (.slice d.1 m.b.size d.2) := (HB.out.cell (p := ⟨g, j * 2 + 1, none⟩) c6).trans c5
          have HS : Hid (del N.row k (j + 1) = del N.row k j ++ [m] ∧ del ds k (j + 1) = del ds k j ++ [d]) := ⟨del_step hm hjk, del_step hd hjk⟩
          have HDl : Hid ((del ds k j).length = (del N.row k j).length) := by
            show _ = _
            rw [del_len (by rw [HW.out.len, HLe.out]; exact hk) (by rw [HW.out.len, HLe.out]; exact hj), del_len (by rw [HLe.out]; exact hk) (by rw [HLe.out]; exact hj)]
          have hsz := HB.out.size
          obtain ⟨d1, d2⟩ := d
          simp only at s5 hd
          clear hm hd c4 c5
          go_wp2_with (at_builtin; refine wpList_append_lies _ rfl (.tmp 30) (.tmp 38) 103 rfl w.heap.size 75 i0 (.agg #[.int .i64 0, .slice none 0 0]) 2 32 Try.underlying103 hi hz0 hz1 hz2 rfl (by omega) (.slice b n cc) n (flv (del N.row k j) (del ds k j)) rfl (HR.out.alloc _) ⟨wr.heap.size, 0, none⟩ 1 1 [.int .i64 m.to, .slice d1 m.b.size d2] rfl rfl (World.news_of_block (heap_alloc_new wr (.cells #[.int .i64 m.to, .slice d1 m.b.size d2] 75))) (by simp [Value.oneCell']) (by omega) (by unfold maxLen; omega) (by omega) (by simp; omega) _ rfl ?_; intro g' cap' w4 hown4 hgrow4 hat4 hltg; have HO4 := hide hown4; have HG4 := hide hgrow4; clear hown4 hgrow4 hat4)
          go_wp2
          go_roundw
          case rel =>
            refine ⟨j + 1, _, n + 1, cap', by omega, by omega, by go_num, rfl, hide (by rw [HS.out.1, List.length_append, HN.out]; rfl), hide (by rw [HS.out.1, HS.out.2, flv_snoc HDl.out]; exact HO4.out), hide ((HB.out.alloc HB.out.size _).grown HG4.out (by simp; omega) (fun g2 e => ?_))⟩
            rcases HR.out.2 with ⟨e1, _⟩ | ⟨g3, _, _, e1, e2, _⟩
            · rw [e1] at e; simp [Value.ownBlock] at e
            · rw [e1] at e; simp [Value.ownBlock] at e; omega
          case measure => simp [intOf]; omega
      · obtain rfl : j = L := by omega
        go_wp2
        go_ret
        have hw := HW.out
        have kpB : Kp (PNet o) K (ext K w.heap.size (o, 2)) w wr := kp_below HB.out _ _ _
        have kpE := kpB.setCell (b := nb) (Or.inr (Or.inl hw.kn)) 0 (.slice b n cc)
        refine ⟨by rw [HE.out.1]; rfl, ?_, kpE⟩
        rw [HE.out.2]
        have e1 : del N.row k j = (N.drop ((k : Nat) : Int).toNat).row := by
          have := del_all N.row k
          rw [HLe.out] at this
          exact this
        have e2 : (N.drop ((k : Nat) : Int).toNat).row.length = n := by rw [← e1]; exact HN.out
        have hdl : ds.length = j := by rw [hw.len, HLe.out]
        refine ⟨.slice b n cc, del ds k j, ?_, (ext_old K _ hnl).trans hw.kn, ?_, ⟨?_, fun g2 e => ?_⟩, fun q mm d h1 h2 => ?_⟩
        · rw [block_set HBk2.out]; rfl
        · rw [← e1, del_len (by rw [hdl]; exact hk) (by rw [hdl]; exact Nat.le_refl _), del_len (by rw [HLe.out]; exact hk) (by rw [HLe.out]; exact Nat.le_refl _)]
        · rw [e2, ← e1]
          have := HR.out
          refine owns_set (w := wr) ⟨this.1, this.2.imp id (fun ⟨g, cap, cur, p1, _, r⟩ => ⟨g, cap, cur, p1, Nat.zero_le _, r⟩)⟩ (fun e => ?_)
          rcases this.2 with ⟨p1, _⟩ | ⟨g3, _, _, p1, p2, _⟩
          · rw [p1] at e; simp [Value.ownBlock] at e
          · rw [p1] at e; simp [Value.ownBlock] at e; omega
        · refine ext_new K _ ?_
          rcases HR.out.2 with ⟨p1, _⟩ | ⟨g3, _, _, p1, p2, _⟩
          · rw [p1] at e; simp [Value.ownBlock] at e
          · rw [p1] at e; simp [Value.ownBlock] at e; omega
        · rw [← e1] at h1
          have f1 := del_get (by rw [HLe.out]; exact hk) (by rw [HLe.out]; exact Nat.le_refl _) h1
          have f2 := del_get (by rw [hdl]; exact hk) (by rw [hdl]; exact Nat.le_refl _) h2
          exact (hw.bys _ mm d f1 f2).kept kpE (by rintro (e | e) <;> simp at e)
  · have hxf : N.has i = false := by simpa using hx
    have HE : Hid (N.has i = false ∧ N.dropped i = N) := ⟨hxf, by unfold Nt.dropped; rw [if_neg hx]⟩
    have HW := hide hw
    unfold Nt.has at hxf
    generalize hgl : N.row.length = L at *
    clear hgl
    clear hx hw hblk
    by_cases h1 : i < 0
    · clear hxf
      go_enter Try.func32, Try.ntmps32
      go_wp2
      go_ret
      exact ⟨by rw [HE.out.1]; rfl, by rw [HE.out.2]; exact Fk.kept (p := fun _ => False) ⟨_, _, HW.out⟩ (kp_below (Below.refl _ _) _ _ _) (fun _ h => h), kp_below (Below.refl _ _) _ _ _⟩
    · have h2 : (L : Int) ≤ i := by simp at hxf; omega
      have h3 : 0 ≤ i := by omega
      clear hxf
      go_enter Try.func32, Try.ntmps32
      go_wp2
      go_ret
      exact ⟨by rw [HE.out.1]; rfl, by rw [HE.out.2]; exact Fk.kept (p := fun _ => False) ⟨_, _, HW.out⟩ (kp_below (Below.refl _ _) _ _ _) (fun _ h => h), kp_below (Below.refl _ _) _ _ _⟩

end Go.Proofs.Ythgggjdefhgfiaa
