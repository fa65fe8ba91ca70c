import Derived.Test.YtfdclebajninfaaGreatDoorCSum
import Derived.Test.YtfdclebajninfaaGreatDoorCReader4
import Derived.Test.YtfdclebajninfaaGreatDoorCWriter4
import Derived.Test.YtfdclebajninfaaGreatDoorLoadB
namespace Go.Proofs.YtfdclebajninfaaGreatDoor
open Go.RowKit

theorem Bytes.c {w : World} {sp : Option Addr} {xs : List Nat} (h : Bytes w sp xs) : C.Bytes w sp xs := ⟨h.small, h.lie⟩
theorem Bytes.of_c {w : World} {sp : Option Addr} {xs : List Nat} (h : C.Bytes w sp xs) : Bytes w sp xs := ⟨h.small, h.lie⟩
theorem be_small (n s : Nat) : ∀ x ∈ C.beOf n s, x < 256 := fun x hx => by
  simp only [C.beOf, List.mem_map] at hx
  obtain ⟨i, _, rfl⟩ := hx
  exact Nat.mod_lt _ (by omega)
theorem be_len (n s : Nat) : (C.beOf n s).length = s := by simp [C.beOf]
theorem sum_lt (xs : List Nat) (h : ∀ x ∈ xs, x < 256) : C.sumOf xs < 4294967296 := C.xor_lt (by omega) (C.reg_lt xs h)

/-! What a record is -/
def hd5 (n : Nat) : List Nat := C.beOf 167 1 ++ C.beOf n 4
def headB (n : Nat) : List Nat := hd5 n ++ C.beOf (C.sumOf (hd5 n)) 4
def framedB (body : List Nat) : List Nat := (headB body.length ++ body) ++ C.beOf (C.sumOf body) 4
def partB (p : List Nat) : List Nat := C.varOf p.length (C.vs p.length - 1) ++ p
def partsB (ps : List (List Nat)) : List Nat := (ps.map partB).flatten
def bodyB (num : Nat) (ps : List (List Nat)) : List Nat := (C.beOf num 8 ++ C.beOf ps.length 4) ++ partsB ps
def recB (num : Nat) (ps : List (List Nat)) : List Nat := framedB (bodyB num ps)
theorem hd5_small (n : Nat) : ∀ x ∈ hd5 n, x < 256 := fun x hx => by
  rcases List.mem_append.1 hx with h | h
  · exact be_small _ _ x h
  · exact be_small _ _ x h
theorem headB_len (n : Nat) : (headB n).length = 9 := by simp [headB, hd5, be_len]
theorem headB_small (n : Nat) : ∀ x ∈ headB n, x < 256 := fun x hx => by
  rcases List.mem_append.1 hx with h | h
  · exact hd5_small _ x h
  · exact be_small _ _ x h
theorem framedB_len (b : List Nat) : (framedB b).length = b.length + 13 := by simp [framedB, headB_len, be_len]; omega
theorem framedB_small {b : List Nat} (hb : ∀ x ∈ b, x < 256) : ∀ x ∈ framedB b, x < 256 := fun x hx => by
  rcases List.mem_append.1 hx with h | h
  · rcases List.mem_append.1 h with h | h
    · exact headB_small _ x h
    · exact hb x h
  · exact be_small _ _ x h

/-! A Writer of the call's own -/
structure Wl (B : Nat) (w0 w : World) (b : Nat) (v : Value) (ws : List Nat) : Prop where
  wr : C.Wr w b v ws
  lo : B ≤ b
  row : ∀ g, v.ownBlock = some g → B ≤ g
  bel : Below B w0 w
theorem Wl.size {B : Nat} {w0 w : World} {b : Nat} {v : Value} {ws : List Nat} (h : Wl B w0 w b v ws) : B ≤ w.heap.size := Nat.le_of_lt (Nat.lt_of_le_of_lt h.lo h.wr.lt)
theorem Wl.laid {B : Nat} {w0 w w' : World} {b : Nat} {v : Value} {ws new : List Nat} (h : Wl B w0 w b v ws) (hl : C.Laid w w' b v ws new) : ∃ v', Wl B w0 w' b v' (ws ++ new) := by
  obtain ⟨v', h1, h2, h3⟩ := hl
  refine ⟨v', h1, h.lo, fun g e => ?_, h3.below h.bel h.lo h.size h.row⟩
  rcases h2 with e2 | ⟨g2, e2, h4⟩
  · exact h.row g (by rw [← e2]; exact e)
  · rw [e2] at e; cases e; exact Nat.le_trans h.size h4
theorem Wl.below {B : Nat} {w0 w w' : World} {b : Nat} {v : Value} {ws : List Nat} (h : Wl B w0 w b v ws) (hb : Below w.heap.size w w') : Wl B w0 w' b v ws :=
  ⟨h.wr.below hb, h.lo, h.row, h.bel.trans (hb.mono h.size)⟩
theorem wl_new (w : World) : Wl w.heap.size w (w.alloc (.cells #[.slice none 0 0] 182)) w.heap.size (.slice none 0 0) [] :=
  ⟨C.new_wr w, Nat.le_refl _, fun g e => by simp [Value.ownBlock] at e, (Below.refl _ _).alloc (Nat.le_refl _) _⟩
theorem made_by (w : World) (xs : List Nat) (hs : ∀ x ∈ xs, x < 256) : C.Bytes (w.alloc (.cells (C.vals xs).toArray 5)) (some ⟨w.heap.size, 0, none⟩) xs := by
  have key : ∀ (w3 : World) (g j : Nat), j < xs.length → w3.heap[g]? = some (.cells (C.vals xs).toArray 5 (0, 0)) → w3.cell? ⟨g, 0 + j, none⟩ = some (.int .u8 ((xs.getD j 0 : Nat) : Int)) := fun w3 g j hj hb => by
    simp only [World.cell?, hb]
    simp [C.vals, List.getD, hj]
  exact ⟨hs, Or.inr ⟨w.heap.size, 0, rfl, by simp, fun j hj => key _ _ j hj (heap_alloc_new _ _)⟩⟩
/-- Bytes in a new block outright. -/
structure Fresh (B : Nat) (w : World) (sp : Option Addr) (n c : Nat) (xs : List Nat) : Prop where
  len : xs.length = n
  blk : ∃ g, sp = some ⟨g, 0, none⟩ ∧ B ≤ g ∧ w.heap[g]? = some (.cells (vals xs).toArray 5 (0, 0)) ∧ c = n
  small : ∀ x ∈ xs, x < 256

set_option maxRecDepth 100000 in
set_option maxHeartbeats 400000 in
theorem head_any (w : World) (n : Nat) (hn : n < 4294967296) (hT : C.Tab w) :
    Calls Tryz.prog 87 #[.int .u32 (n : Int)] w fun e w' => ∃ g, e = .returned (.slice (some ⟨g, 0, none⟩) 9 9) ∧ Fresh w.heap.size w' (some ⟨g, 0, none⟩) 9 9 (headB n) ∧ Below w.heap.size w w' := by
  have HT := hide hT
  clear hT
  go_enter Tryz.func87, Tryz.ntmps87
  go_wp2_with fail
  refine (C.new_any w).mono ?_
  rintro e w1 ⟨rfl, hw1⟩
  have H1 := hide (wl_new w)
  rw [← hw1] at H1
  clear hw1
  go_wp2_with fail
  refine (C.wu8_any w1 _ _ _ 167 H1.out.wr (by omega) (by simp)).mono ?_
  rintro e w2 ⟨rfl, hl2⟩
  obtain ⟨v2, h2⟩ := H1.out.laid hl2
  have H2 := hide h2
  clear hl2 h2
  go_wp2_with fail
  refine (C.wu32_any w2 _ _ _ n H2.out.wr hn (by simp [be_len])).mono ?_
  rintro e w3 ⟨rfl, hl3⟩
  obtain ⟨v3, h3⟩ := H2.out.laid hl3
  have H3 : Hid (Wl w.heap.size w w3 w.heap.size v3 (hd5 n)) := h3
  have h5 : (hd5 n).length = 5 := by simp [hd5, be_len]
  have HO := hide (C.out_any w3 _ _ _ H3.out.wr (by omega))
  rw [h5] at HO
  clear hl3 h3
  go_wp2_with fail
  refine HO.out.mono ?_
  rintro e w4 ⟨rfl, hw4⟩
  have hb4 : Below w3.heap.size w3 w4 := by rw [hw4]; exact (Below.refl _ _).alloc (Nat.le_refl _) _
  have H4 := hide (H3.out.below hb4)
  have HT4 := hide (HT.out.below H4.out.bel HT.out.pos)
  have HS := hide (C.sum_any w4 (some ⟨w3.heap.size, 0, none⟩) 5 5 (hd5 n) h5 (by rw [hw4]; exact made_by _ _ (hd5_small n)) (by omega) HT4.out)
  clear hw4 hb4 HO H3
  go_wp2_with fail
  refine HS.out.mono ?_
  rintro e w5 ⟨rfl, rfl⟩
  have HU := hide (C.wu32_any w5 _ _ _ (C.sumOf (hd5 n)) H4.out.wr (sum_lt _ (hd5_small n)) (by omega))
  go_wp2_with fail
  refine HU.out.mono ?_
  rintro e w6 ⟨rfl, hl6⟩
  obtain ⟨v6, h6⟩ := H4.out.laid hl6
  have H6 : Hid (Wl w.heap.size w w6 w.heap.size v6 (headB n)) := h6
  have h9 := headB_len n
  have HO := hide (C.out_any w6 _ _ _ H6.out.wr (by omega))
  rw [h9] at HO
  clear hl6 h6 HU HS
  go_wp2_with fail
  refine HO.out.mono ?_
  rintro e w7 ⟨rfl, hw7⟩
  have HF : Hid (Fresh w.heap.size w7 (some ⟨w6.heap.size, 0, none⟩) 9 9 (headB n)) := ⟨h9, ⟨_, rfl, H6.out.size, by rw [hw7]; exact heap_alloc_new _ _, rfl⟩, headB_small n⟩
  have HB : Hid (Below w.heap.size w w7) := by show Below _ _ _; rw [hw7]; exact H6.out.bel.alloc H6.out.size _
  clear hw7
  go_wp2
  go_ret
  exact ⟨_, rfl, HF.out, HB.out⟩

end Go.Proofs.YtfdclebajninfaaGreatDoor
namespace Go.Proofs.YtfdclebajninfaaGreatDoor
open Go.RowKit

theorem Fresh.bytes {B : Nat} {w : World} {sp : Option Addr} {n c : Nat} {xs : List Nat} (h : Fresh B w sp n c xs) : Bytes w sp xs := by
  obtain ⟨g, rfl, _, hb, _⟩ := h.blk
  refine ⟨h.small, Or.inr ⟨g, 0, rfl, lt_of_block hb, fun j hj => ?_⟩⟩
  simp only [World.cell?, hb]
  simp [vals, List.getD, hj]
theorem Fresh.below {B : Nat} {w w' : World} {sp : Option Addr} {n c : Nat} {xs : List Nat} (h : Fresh B w sp n c xs) (hb : Below w.heap.size w w') : Fresh B w' sp n c xs := by
  obtain ⟨g, e, h1, h2, h3⟩ := h.blk
  exact ⟨h.len, ⟨g, e, h1, (hb.block g (lt_of_block h2)).trans h2, h3⟩, h.small⟩
theorem Fresh.mono {B B' : Nat} {w : World} {sp : Option Addr} {n c : Nat} {xs : List Nat} (h : Fresh B w sp n c xs) (hB : B' ≤ B) : Fresh B' w sp n c xs := by
  obtain ⟨g, e, h1, h2, h3⟩ := h.blk
  exact ⟨h.len, ⟨g, e, Nat.le_trans hB h1, h2, h3⟩, h.small⟩

set_option maxRecDepth 100000 in
set_option maxHeartbeats 400000 in
theorem framed_any (w : World) (sp : Option Addr) (m cap : Nat) (xs : List Nat) (hm : xs.length = m) (hml : m ≤ 4194291) (hx : Bytes w sp xs) (hT : C.Tab w) :
    Calls Tryz.prog 115 #[.slice sp m cap] w fun e w' => ∃ g, e = .returned (.slice (some ⟨g, 0, none⟩) (m + 13) (m + 13)) ∧ Fresh w.heap.size w' (some ⟨g, 0, none⟩) (m + 13) (m + 13) (framedB xs) ∧ Below w.heap.size w w' := by
  have HT := hide hT
  have HX := hide hx
  have HM := hide hm
  clear hT hx hm
  go_enter Tryz.func115, Tryz.ntmps115
  go_wp2_with fail
  refine (C.new_any w).mono ?_
  rintro e w1 ⟨rfl, hw1⟩
  have H1 := hide (wl_new w)
  rw [← hw1] at H1
  have HH := hide (head_any w1 m (by omega) (HT.out.below H1.out.bel HT.out.pos))
  clear hw1
  go_wp2_with fail
  refine HH.out.mono ?_
  rintro e w2 ⟨g2, rfl, hf2, hb2⟩
  have H2 := hide (H1.out.below hb2)
  have HR := hide (C.wraw_any w2 _ _ _ (some ⟨g2, 0, none⟩) 9 9 (headB m) H2.out.wr (headB_len m) hf2.bytes.c (by simp))
  clear hf2 hb2 HH H1
  go_wp2_with fail
  refine HR.out.mono ?_
  rintro e w3 ⟨rfl, hl3⟩
  obtain ⟨v3, h3⟩ := H2.out.laid hl3
  have H3 : Hid (Wl w.heap.size w w3 w.heap.size v3 (headB m)) := h3
  have HR := hide (C.wraw_any w3 _ _ _ sp m cap xs H3.out.wr HM.out (HX.out.below H3.out.bel).c (by rw [headB_len]; omega))
  clear hl3 h3 H2
  go_wp2_with fail
  refine HR.out.mono ?_
  rintro e w4 ⟨rfl, hl4⟩
  obtain ⟨v4, h4⟩ := H3.out.laid hl4
  have H4 := hide h4
  have HS := hide (C.sum_any w4 sp m cap xs HM.out (HX.out.below H4.out.bel).c (by omega) (HT.out.below H4.out.bel HT.out.pos))
  clear hl4 h4 H3 HR
  go_wp2_with fail
  refine HS.out.mono ?_
  rintro e w5 ⟨rfl, rfl⟩
  have HU := hide (C.wu32_any w5 _ _ _ (C.sumOf xs) H4.out.wr (sum_lt _ HX.out.small) (by rw [List.length_append, headB_len, HM.out]; omega))
  go_wp2_with fail
  refine HU.out.mono ?_
  rintro e w6 ⟨rfl, hl6⟩
  obtain ⟨v6, h6⟩ := H4.out.laid hl6
  have H6 : Hid (Wl w.heap.size w w6 w.heap.size v6 (framedB xs)) := by show Wl _ _ _ _ _ _; unfold framedB; rw [HM.out]; exact h6
  have h9 : (framedB xs).length = m + 13 := by rw [framedB_len, HM.out]
  have HO := hide (C.out_any w6 _ _ _ H6.out.wr (by omega))
  rw [h9] at HO
  clear hl6 h6 HU HS
  go_wp2_with fail
  refine HO.out.mono ?_
  rintro e w7 ⟨rfl, hw7⟩
  have HF : Hid (Fresh w.heap.size w7 (some ⟨w6.heap.size, 0, none⟩) (m + 13) (m + 13) (framedB xs)) := ⟨h9, ⟨_, rfl, H6.out.size, by rw [hw7]; exact heap_alloc_new _ _, rfl⟩, framedB_small HX.out.small⟩
  have HB : Hid (Below w.heap.size w w7) := by show Below _ _ _; rw [hw7]; exact H6.out.bel.alloc H6.out.size _
  clear hw7
  go_wp2
  go_ret
  exact ⟨_, rfl, HF.out, HB.out⟩

/-! Parts -/
structure Pts (w : World) (pp : Option Addr) (ps : List (List Nat)) : Prop where
  small : ∀ p ∈ ps, p.length ≤ 140737488351232
  lie : ps = [] ∨ ∃ g o, pp = some ⟨g, o, none⟩ ∧ g < w.heap.size ∧ ∀ j p, ps[j]? = some p → ∃ ap cp, w.cell? ⟨g, o + j, none⟩ = some (.slice ap p.length cp) ∧ Bytes w ap p
theorem Pts.below {w w' : World} {pp : Option Addr} {ps : List (List Nat)} (h : Pts w pp ps) (hb : Below w.heap.size w w') : Pts w' pp ps := by
  refine ⟨h.small, h.lie.imp id ?_⟩
  rintro ⟨g, o, e, hg, hc⟩
  refine ⟨g, o, e, Nat.lt_of_lt_of_le hg hb.size, fun j p hp => ?_⟩
  obtain ⟨ap, cp, c0, c1⟩ := hc j p hp
  exact ⟨ap, cp, (hb.cell (p := ⟨g, o + j, none⟩) hg).trans c0, c1.below hb⟩
theorem Pts.at {w : World} {pp : Option Addr} {ps : List (List Nat)} (h : Pts w pp ps) {j : Nat} {p : List Nat} (hp : ps[j]? = some p) : ∃ g o ap cp, pp = some ⟨g, o, none⟩ ∧ g < w.heap.size ∧ w.cell? ⟨g, o + j, none⟩ = some (.slice ap p.length cp) ∧ Bytes w ap p := by
  rcases h.lie with h0 | ⟨g, o, e, hg, hc⟩
  · subst h0; simp at hp
  · obtain ⟨ap, cp, c0, c1⟩ := hc j p hp
    exact ⟨g, o, ap, cp, e, hg, c0, c1⟩
theorem partsB_snoc (ps : List (List Nat)) (p : List Nat) : partsB (ps ++ [p]) = partsB ps ++ partB p := by simp [partsB]
theorem partB_len (p : List Nat) : (partB p).length = C.vs p.length - 1 + 1 + p.length := by simp [partB, C.varOf_length]
theorem partsB_le {ps : List (List Nat)} {k : Nat} : (partsB (ps.take k)).length ≤ (partsB ps).length := by
  have : partsB ps = partsB (ps.take k) ++ partsB (ps.drop k) := by unfold partsB; rw [← List.flatten_append, ← List.map_append, List.take_append_drop]
  rw [this]; simp
theorem bodyB_len (num : Nat) (ps : List (List Nat)) : (bodyB num ps).length = 12 + (partsB ps).length := by simp [bodyB, be_len]; omega
theorem partB_small {p : List Nat} (h : ∀ x ∈ p, x < 256) (hl : p.length < 18446744073709551616) : ∀ x ∈ partB p, x < 256 := fun x hx => by
  rcases List.mem_append.1 hx with e | e
  · have h1 := C.vs_bounds p.length hl
    have h2 := C.vs_fits p.length hl
    exact C.varOf_small _ _ (by rw [show C.vs p.length - 1 + 1 = C.vs p.length by omega]; exact h2) x e
  · exact h x e
theorem partsB_small : ∀ {ps : List (List Nat)}, (∀ p ∈ ps, (∀ x ∈ p, x < 256) ∧ p.length < 18446744073709551616) → ∀ x ∈ partsB ps, x < 256
  | [], _, x, hx => by simp [partsB] at hx
  | p :: ps, h, x, hx => by
    have : x ∈ partB p ∨ x ∈ partsB ps := by simpa [partsB] using hx
    rcases this with e | e
    · exact partB_small (h p (List.mem_cons_self ..)).1 (h p (List.mem_cons_self ..)).2 x e
    · exact partsB_small (fun q hq => h q (List.mem_cons_of_mem _ hq)) x e
def recOk (num : Nat) (ps : List (List Nat)) : Bool := decide (ps.length ≤ 4096) && decide (num ≤ 1099511627776) && decide ((bodyB num ps).length ≤ 4194291)

set_option maxRecDepth 100000 in
set_option maxHeartbeats 1000000 in
theorem record_any (w : World) (num : Nat) (hnum : num < 18446744073709551616) (pp : Option Addr) (k cap : Nat) (ps : List (List Nat)) (hk : ps.length = k) (hkl : k ≤ 140737488355328) (hP : Pts w pp ps) (hT : C.Tab w) :
    Calls Tryz.prog 72 #[.agg #[.int .u64 (num : Int), .slice pp k cap]] w fun e w' =>
      (recOk num ps = true ∧ ∃ g n, n = (recB num ps).length ∧ e = .returned (.tuple #[.slice (some ⟨g, 0, none⟩) n n, .bool true]) ∧ Fresh w.heap.size w' (some ⟨g, 0, none⟩) n n (recB num ps) ∧ Below w.heap.size w w') ∨
      (recOk num ps = false ∧ e = .returned (.tuple #[.slice none 0 0, .bool false]) ∧ Below w.heap.size w w') := by
  have HT := hide hT
  have HP := hide hP
  have HK := hide hk
  clear hT hP hk
  by_cases h1 : 4096 < k
  · have h1' : (4096 : Int) < (k : Int) := by omega
    have e0 : Hid (recOk num ps = false) := by show _ = _; unfold recOk; rw [HK.out, decide_eq_false (by omega)]; rfl
    go_enter Tryz.func72, Tryz.ntmps72
    go_wp2
    go_ret2
    exact Or.inr ⟨e0.out, rfl, (Below.refl _ _).alloc (Nat.le_refl _) _⟩
  have h1' : ¬ (4096 : Int) < (k : Int) := by omega
  by_cases h2 : 1099511627776 < num
  · have h2' : (1099511627776 : Int) < (num : Int) := by omega
    have e0 : Hid (recOk num ps = false) := by show _ = _; unfold recOk; rw [decide_eq_false (p := num ≤ 1099511627776) (by omega)]; simp
    go_enter Tryz.func72, Tryz.ntmps72
    go_wp2
    go_ret2
    exact Or.inr ⟨e0.out, rfl, (Below.refl _ _).alloc (Nat.le_refl _) _⟩
  have h2' : ¬ (1099511627776 : Int) < (num : Int) := by omega
  have HOk : Hid (recOk num ps = decide (12 + (partsB ps).length ≤ 4194291)) := by
    show _ = _
    unfold recOk
    rw [HK.out, decide_eq_true (p := k ≤ 4096) (by omega), decide_eq_true (p := num ≤ 1099511627776) (by omega), bodyB_len]; rfl
  go_enter Tryz.func72, Tryz.ntmps72
  go_wp2_with fail
  refine (C.new_any _).mono ?_
  rintro e w2 ⟨rfl, hw2⟩
  have hX : (w.alloc (.cells #[.int .u64 (num : Int), .slice pp k cap] 99)).heap[w.heap.size]? = some (.cells #[.int .u64 (num : Int), .slice pp k cap] 99 (0, 0)) := heap_alloc_new _ _
  have hB0 : Below w.heap.size w (w.alloc (.cells #[.int .u64 (num : Int), .slice pp k cap] 99)) := (Below.refl _ _).alloc (Nat.le_refl _) _
  have hsz : (w.alloc (.cells #[.int .u64 (num : Int), .slice pp k cap] 99)).heap.size = w.heap.size + 1 := by simp
  generalize w.alloc (.cells #[.int .u64 (num : Int), .slice pp k cap] 99) = w1 at *
  have H2 := hide (wl_new w1)
  rw [← hw2] at H2
  have HX : Hid (∀ w', Below w1.heap.size w1 w' → w'.cell? ⟨w.heap.size, 0, none⟩ = some (.int .u64 (num : Int)) ∧ w'.cell? ⟨w.heap.size, 1, none⟩ = some (.slice pp k cap)) := fun w' hb => by
    have : w'.heap[w.heap.size]? = _ := (hb.block _ (by omega)).trans hX
    exact ⟨by simp [World.cell?, this], by simp [World.cell?, this]⟩
  have HB0 := hide hB0
  have HSz := hide hsz
  clear hw2 hX hB0 hsz
  obtain ⟨x0, x1⟩ := HX.out w2 H2.out.bel
  have HU := hide (C.wu64_any w2 _ _ _ num H2.out.wr hnum (by simp))
  go_wp2_with fail
  refine HU.out.mono ?_
  rintro e w3 ⟨rfl, hl3⟩
  obtain ⟨v3, h3⟩ := H2.out.laid hl3
  have H3 := hide h3
  clear hl3 h3 x0 x1 HU H2
  obtain ⟨x0, x1⟩ := HX.out w3 H3.out.bel
  have HU := hide (C.wu32_any w3 _ _ _ k H3.out.wr (by omega) (by simp [be_len]))
  go_wp2_with fail
  refine HU.out.mono ?_
  rintro e w4 ⟨rfl, hl4⟩
  obtain ⟨v4, h4⟩ := H3.out.laid hl4
  have H4 : Hid (Wl w1.heap.size w1 w4 w1.heap.size v4 ((C.beOf num 8 ++ C.beOf k 4) ++ partsB (ps.take 0))) := by show Wl _ _ _ _ _ _; simpa [partsB] using h4
  clear hl4 h4 x0 x1 HU H3
  obtain ⟨x0, x1⟩ := HX.out w4 H4.out.bel
  go_wp2
  go_loopw [30] (fun i wr => ∃ (j : Nat) (v : Value), j ≤ k ∧ i = .int .i64 (j : Int) ∧ Hid (Wl w1.heap.size w1 wr w1.heap.size v ((C.beOf num 8 ++ C.beOf k 4) ++ partsB (ps.take j))) ∧ Hid ((partsB (ps.take j)).length ≤ 4194300)) (fun i _ => k - (intOf i).toNat)
  case atStart => exact ⟨0, v4, Nat.zero_le _, rfl, H4, hide (by simp [partsB])⟩
  case round =>
    obtain ⟨j, v, hj, rfl, HW, HLe⟩ := hrel
    clear H4 x0 x1
    have HLw : Hid (((C.beOf num 8 ++ C.beOf k 4) ++ partsB (ps.take j)).length = 12 + (partsB (ps.take j)).length) := by show _ = _; simp [be_len]; omega
    have HLn := hide (fun w' hw' => C.wlen_any w' w1.heap.size v ((C.beOf num 8 ++ C.beOf k 4) ++ partsB (ps.take j)) hw')
    rw [HLw.out] at HLn
    by_cases hlt : j < k
    · have i1 : (0 : Int) ≤ (j : Int) := by omega
      have i2 : (j : Int) < (k : Int) := by omega
      obtain ⟨p, hp⟩ : ∃ p, ps[j]? = some p := ⟨_, List.getElem?_eq_getElem (by rw [HK.out]; exact hlt)⟩
      have HTk := hide (take_snoc' ps j p hp)
      have hbw : Below w.heap.size w wr := HB0.out.trans (HW.out.bel.mono HB0.out.size)
      obtain ⟨g, o, ap, cp, e1, hg, c0, c1⟩ := (HP.out.below hbw).at hp
      have hsm := HP.out.small p (List.mem_of_getElem? hp)
      have HAo : Hid (∀ g o, ap = some ⟨g, o, none⟩ → 0 < p.length → g < w.heap.size) := by
        obtain ⟨g', o', ap', cp', e1', hg', c0', c1'⟩ := HP.out.at hp
        rw [e1] at e1'
        cases e1'
        have : ap' = ap := by
          have h := (hbw.cell (p := ⟨g, o + j, none⟩) hg').trans c0'
          rw [c0] at h
          have h' : ap' = ap ∧ cp' = cp := by simpa using h.symm
          exact h'.1
        subst this
        intro g2 o2 e2 h0
        rcases c1'.lie with h | ⟨g3, o3, e3, h3, _⟩
        · subst h; simp at h0
        · rw [e2] at e3; cases e3; exact h3
      subst e1
      have HPs : Hid ((partsB (ps.take (j + 1))).length = (partsB (ps.take j)).length + (C.vs p.length - 1 + 1 + p.length)) := by show _ = _; rw [HTk.out, partsB_snoc, List.length_append, partB_len]
      have HVs := hide (C.vs_bounds p.length (by omega))
      have HCm := hide (partsB_le (ps := ps) (k := j + 1))
      obtain ⟨q, hq⟩ : ∃ q, (partsB (ps.take j)).length = q := ⟨_, rfl⟩
      rw [hq] at HLn HLe HPs HLw
      obtain ⟨pl, hpl⟩ : ∃ pl, p.length = pl := ⟨_, rfl⟩
      have hq1 : q ≤ 4194300 := HLe.out
      have hql : ((12 + q : Nat) : Int) = 12 + (q : Int) := by omega
      have HC1 := hide c1
      have HPl := hide hpl
      rw [hpl] at c0 HPs hsm HAo HVs
      clear hp c1 hbw hpl hq
      by_cases hbig : 4194279 < (q : Int) + (pl : Int)
      · have hbig' : (4194279 : Int) - (q : Int) < (pl : Int) := by omega
        have e0 : Hid (recOk num ps = false) := by
          show _ = _
          rw [HOk.out, decide_eq_false]
          have := HPs.out
          have := HCm.out
          omega
        go_wp2_with fail
        refine (HLn.out _ HW.out.wr).mono ?_
        rintro e w6 ⟨rfl, rfl⟩
        go_wp2
        go_ret2
        exact Or.inr ⟨e0.out, rfl, HB0.out.trans (HW.out.bel.mono HB0.out.size)⟩
      · have hbig' : ¬ (4194279 : Int) - (q : Int) < (pl : Int) := by omega
        have HWb := hide (C.wbytes_any wr w1.heap.size v ((C.beOf num 8 ++ C.beOf k 4) ++ partsB (ps.take j)) ap pl cp p HW.out.wr HPl.out HC1.out.c (by rw [HLw.out]; omega) (fun g2 o2 e2 h0 => by
          have h3 := HAo.out g2 o2 e2 h0
          have h4 := HSz.out
          refine ⟨by omega, fun e3 => ?_⟩
          have := HW.out.row g2 e3.symm
          omega))
        have HLe2 : Hid ((partsB (ps.take (j + 1))).length ≤ 4194300) := by
          show _ ≤ _
          have := HPs.out
          have := HVs.out
          omega
        have HNx : Hid (((C.beOf num 8 ++ C.beOf k 4) ++ partsB (ps.take j)) ++ (C.varOf pl (C.vs pl - 1) ++ p) = (C.beOf num 8 ++ C.beOf k 4) ++ partsB (ps.take (j + 1))) := by
          show _ = _
          rw [HTk.out, partsB_snoc, ← HPl.out, List.append_assoc]
          rfl
        go_wp2_with fail
        refine (HLn.out _ HW.out.wr).mono ?_
        rintro e w6 ⟨rfl, rfl⟩
        go_wp2_with fail
        refine HWb.out.mono ?_
        rintro e w7 ⟨rfl, hl7⟩
        obtain ⟨v7, h7⟩ := HW.out.laid hl7
        rw [HNx.out] at h7
        have H7 := hide h7
        clear hl7 h7
        go_wp2
        go_roundw
        case rel => exact ⟨j + 1, v7, by omega, by go_num, H7, HLe2⟩
        case measure => simp [intOf]; omega
    · obtain rfl : j = k := by omega
      have e1 : ps.take j = ps := List.take_of_length_le (by rw [HK.out]; exact Nat.le_refl _)
      rw [e1] at HW HLn HLw HLe
      have HWo : Hid (Wl w1.heap.size w1 wr w1.heap.size v (bodyB num ps)) := by show Wl _ _ _ _ _ _; unfold bodyB; rw [HK.out]; exact HW.out
      have HBl : Hid ((bodyB num ps).length = 12 + (partsB ps).length) := bodyB_len num ps
      obtain ⟨q, hq⟩ : ∃ q, (partsB ps).length = q := ⟨_, rfl⟩
      rw [hq] at HLn HLe HLw HBl HOk
      have hq1 : q ≤ 4194300 := HLe.out
      have hql : ((12 + q : Nat) : Int) = 12 + (q : Int) := by omega
      clear e1 hq
      by_cases hbig : 4194291 < (12 : Int) + (q : Int)
      · have e0 : Hid (recOk num ps = false) := by
          show _ = _
          rw [HOk.out, decide_eq_false]
          omega
        go_wp2_with fail
        refine (HLn.out _ HW.out.wr).mono ?_
        rintro e w6 ⟨rfl, rfl⟩
        go_wp2
        go_ret2
        exact Or.inr ⟨e0.out, rfl, HB0.out.trans (HW.out.bel.mono HB0.out.size)⟩
      · have e0 : Hid (recOk num ps = true) := by
          show _ = _
          rw [HOk.out, decide_eq_true]
          omega
        have HO := hide (C.out_any wr w1.heap.size v (bodyB num ps) HWo.out.wr (by rw [HBl.out]; omega))
        rw [HBl.out] at HO
        go_wp2_with fail
        refine (HLn.out _ HW.out.wr).mono ?_
        rintro e w6 ⟨rfl, rfl⟩
        go_wp2_with fail
        refine HO.out.mono ?_
        rintro e w7 ⟨rfl, hw7⟩
        have hb7 : Below w6.heap.size w6 w7 := by rw [hw7]; exact (Below.refl _ _).alloc (Nat.le_refl _) _
        have H7 := hide (HWo.out.below hb7)
        have HB7 := hide (HB0.out.trans (H7.out.bel.mono HB0.out.size))
        have hy7 : Bytes w7 (some ⟨w6.heap.size, 0, none⟩) (bodyB num ps) := by rw [hw7]; exact Bytes.of_c (made_by _ _ HWo.out.wr.small)
        have HFr := hide (framed_any w7 (some ⟨w6.heap.size, 0, none⟩) (12 + q) (12 + q) (bodyB num ps) HBl.out (by omega) hy7 (HT.out.below HB7.out HT.out.pos))
        have HRl : Hid ((recB num ps).length = 12 + q + 13) := by show _ = _; unfold recB; rw [framedB_len, HBl.out]
        clear hw7 hb7 hy7 HO
        go_wp2_with fail
        refine HFr.out.mono ?_
        rintro e w8 ⟨g8, rfl, hf8, hb8⟩
        have HF8 : Hid (Fresh w.heap.size w8 (some ⟨g8, 0, none⟩) (12 + q + 13) (12 + q + 13) (recB num ps)) := hf8.mono HB7.out.size
        have HB8 := hide (HB7.out.trans (hb8.mono HB7.out.size))
        clear hf8 hb8
        go_wp2
        go_ret2
        exact Or.inl ⟨e0.out, g8, 12 + q + 13, HRl.out.symm, rfl, HF8.out, HB8.out⟩

end Go.Proofs.YtfdclebajninfaaGreatDoor
