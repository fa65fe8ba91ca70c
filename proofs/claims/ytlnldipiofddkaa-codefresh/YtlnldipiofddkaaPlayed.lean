import Derived.Test.YtlnldipiofddkaaAg2
namespace Go.Proofs.Ytlnldipiofddkaa
open Go.RowKit

/-- Bytes in blocks of a kind. -/
structure BytesS (S : Nat → Prop) (w : World) (sp : Option Addr) (xs : List Nat) : Prop where
  small : ∀ x ∈ xs, x < 256
  lie : xs = [] ∨ ∃ g o, sp = some ⟨g, o, none⟩ ∧ S g ∧ g < w.heap.size ∧ ∀ j, j < xs.length → w.cell? ⟨g, o + j, none⟩ = some (.int .u8 (xs.getD j 0))
theorem BytesS.bytes {S : Nat → Prop} {w : World} {sp : Option Addr} {xs : List Nat} (h : BytesS S w sp xs) : Bytes w sp xs :=
  ⟨h.small, h.lie.elim Or.inl (fun ⟨g, o, e, _, hg, hc⟩ => Or.inr ⟨g, o, e, hg, hc⟩)⟩
theorem BytesS.kept {S : Nat → Prop} {w w' : World} {sp : Option Addr} {xs : List Nat} (h : BytesS S w sp xs) (hk : ∀ k, S k → k < w.heap.size → w'.heap[k]? = w.heap[k]?) (hs : w.heap.size ≤ w'.heap.size) : BytesS S w' sp xs :=
  ⟨h.small, h.lie.elim Or.inl (fun ⟨g, o, e, hS, hg, hc⟩ => Or.inr ⟨g, o, e, hS, Nat.lt_of_lt_of_le hg hs, fun j hj => by rw [World.cell?_of_block (w := w) (hk g hS hg)]; exact hc j hj⟩)⟩
theorem BytesS.imp {S T : Nat → Prop} {w : World} {sp : Option Addr} {xs : List Nat} (h : BytesS S w sp xs) (hT : ∀ k, k < w.heap.size → S k → T k) : BytesS T w sp xs :=
  ⟨h.small, h.lie.elim Or.inl (fun ⟨g, o, e, hS, hg, hc⟩ => Or.inr ⟨g, o, e, hT g hg hS, hg, hc⟩)⟩

/-- A step's numbers and lengths. -/
structure Op1.Nums (o : Op1) : Prop where
  k1 : -9223372036854775808 ≤ o.kind
  k2 : o.kind ≤ 9223372036854775807
  w1 : -9223372036854775808 ≤ o.which
  w2 : o.which ≤ 9223372036854775807
  m1 : -9223372036854775808 ≤ o.m
  m2 : o.m ≤ 9223372036854775807
  n2 : o.n < 18446744073709551616
  len : o.bs.length = o.bl
  cap : o.bl ≤ o.bc
  most : o.bc ≤ 140737488351232

def opCells (p : Op1) : List Value := [.int .i64 p.kind, .int .i64 p.which, .int .i64 p.m, .int .u64 (p.n : Int), .slice p.bp p.bl p.bc]

/-- THE STEPS OF A SCRIPT IN BLOCKS OF A KIND. -/
structure OpsS (S : Nat → Prop) (w : World) (sp : Option Addr) (ops : List Op1) : Prop where
  nums : ∀ o ∈ ops, o.Nums
  bytes : ∀ o ∈ ops, BytesS S w o.bp o.bs
  lie : ops = [] ∨ ∃ g o, sp = some ⟨g, o, none⟩ ∧ S g ∧ g < w.heap.size ∧ ∀ j p, ops[j]? = some p →
    w.cell? ⟨g, o + j * 5, none⟩ = some (.int .i64 p.kind) ∧ w.cell? ⟨g, o + j * 5 + 1, none⟩ = some (.int .i64 p.which) ∧ w.cell? ⟨g, o + j * 5 + 2, none⟩ = some (.int .i64 p.m) ∧ w.cell? ⟨g, o + j * 5 + 3, none⟩ = some (.int .u64 (p.n : Int)) ∧ w.cell? ⟨g, o + j * 5 + 4, none⟩ = some (.slice p.bp p.bl p.bc)
theorem OpsS.kept {S : Nat → Prop} {w w' : World} {sp : Option Addr} {ops : List Op1} (h : OpsS S w sp ops) (hk : ∀ k, S k → k < w.heap.size → w'.heap[k]? = w.heap[k]?) (hs : w.heap.size ≤ w'.heap.size) : OpsS S w' sp ops :=
  ⟨h.nums, fun o ho => (h.bytes o ho).kept hk hs, h.lie.elim Or.inl (fun ⟨g, o, e, hS, hg, hc⟩ => Or.inr ⟨g, o, e, hS, Nat.lt_of_lt_of_le hg hs, fun j p hj => by
    have hb := hk g hS hg
    obtain ⟨a0, a1, a2, a3, a4⟩ := hc j p hj
    exact ⟨(World.cell?_of_block (w := w) hb).trans a0, (World.cell?_of_block (w := w) hb).trans a1, (World.cell?_of_block (w := w) hb).trans a2, (World.cell?_of_block (w := w) hb).trans a3, (World.cell?_of_block (w := w) hb).trans a4⟩⟩)⟩
theorem OpsIn.s {w : World} {sp : Option Addr} {ops : List Op1} (h : OpsIn w sp ops) : OpsS (fun k => k < w.heap.size) w sp ops := by
  refine ⟨fun o ho => ?_, fun o ho => ?_, ?_⟩
  · have := h.good o ho
    exact ⟨this.k1, this.k2, this.w1, this.w2, this.m1, this.m2, this.n2, this.len, this.cap, this.most⟩
  · have := (h.good o ho).bytes
    exact ⟨this.small, this.lie.elim Or.inl (fun ⟨g, o, e, hg, hc⟩ => Or.inr ⟨g, o, e, hg, hg, hc⟩)⟩
  · exact h.lie.elim Or.inl (fun ⟨g, o, e, hg, hc⟩ => Or.inr ⟨g, o, e, hg, hg, hc⟩)

/-- A step as it is played with so much room. -/
def trim (room : Nat) (o : Op1) : Op1 := if room < o.bl then ⟨o.kind, o.which, o.m, o.n, none, 0, 0, []⟩ else o
def playsF : Nat → List Op1 → List Op1
  | _, [] => []
  | room, o :: r => trim room o :: playsF (room - (trim room o).bl) r
theorem trim_le (room : Nat) (o : Op1) : (trim room o).bl ≤ room := by unfold trim; split <;> simp_all
theorem plays_length : ∀ (l : List Op1) (room : Nat), (playsF room l).length = l.length
  | [], _ => rfl
  | o :: r, room => by simp [playsF, plays_length r]
theorem plays_sum : ∀ (l : List Op1) (room : Nat), ((playsF room l).map (·.bl)).sum ≤ room
  | [], _ => by simp [playsF]
  | o :: r, room => by
    have h1 := trim_le room o
    have h2 := plays_sum r (room - (trim room o).bl)
    simp only [playsF, List.map_cons, List.sum_cons]; omega
theorem plays_of {q : Op1 → Prop} (hq : ∀ room o, q o → q (trim room o)) : ∀ (l : List Op1) (room : Nat), (∀ o ∈ l, q o) → ∀ o ∈ playsF room l, q o
  | [], _, _, o, ho => by simp [playsF] at ho
  | p :: r, room, h, o, ho => by
    simp only [playsF, List.mem_cons] at ho
    rcases ho with rfl | ho
    · exact hq room p (h p (by simp))
    · exact plays_of hq r _ (fun o ho => h o (List.mem_cons_of_mem _ ho)) o ho

theorem Try.infoOp : (Try.prog.info? 33).map (fun i => (i.zero, i.size, i.bytes)) = some (some (.agg #[.int .i64 0, .int .i64 0, .int .i64 0, .int .u64 0, .slice none 0 0]), 5, 56) := by kernel_rfl

theorem owns_base {w : World} {base : Nat} {e : TypeId} {size n : Nat} {v : Value} {xs : List Value} (h : w.ownsRow base e size v n xs) : ∀ g, v.ownBlock = some g → base ≤ g := by
  intro g e
  rcases h.2 with ⟨h1, _⟩ | ⟨g', cap, cur, h1, hb, _⟩
  · rw [h1] at e; simp [Value.ownBlock] at e
  · rw [h1] at e; simp [Value.ownBlock] at e; omega

theorem heap_two (w : World) (A B : Obj) : ((w.alloc A).alloc B).heap[w.heap.size + 1]? = some B := by
  have h := heap_alloc_new (w.alloc A) B
  rw [show (w.alloc A).heap.size = w.heap.size + 1 by simp] at h
  exact h

set_option maxRecDepth 100000 in
set_option maxHeartbeats 2000000 in
theorem played_some (S : Nat → Prop) (w : World) (g o lo co : Nat) (ops : List Op1) (hlo : ops.length = lo) (hlo2 : lo ≤ 140737488351232) (_hS : S g) (hO : OpsS S w (some ⟨g, o, none⟩) ops) (hne : 0 < lo) :
    Calls Try.prog 10 #[.slice (some ⟨g, o, none⟩) lo co] w fun e w' => ∃ v, e = .returned v ∧ w'.ownsRow w.heap.size 33 5 v (min lo 400) ((playsF 4194304 (ops.take 400)).flatMap opCells) ∧ Below w.heap.size w w' := by
  obtain ⟨i0, hi, hz0, hz1, hz2⟩ := info_parts Try.infoOp
  have hg : g < w.heap.size ∧ ∀ j p, ops[j]? = some p → w.cell? ⟨g, o + j * 5, none⟩ = some (.int .i64 p.kind) ∧ w.cell? ⟨g, o + j * 5 + 1, none⟩ = some (.int .i64 p.which) ∧ w.cell? ⟨g, o + j * 5 + 2, none⟩ = some (.int .i64 p.m) ∧ w.cell? ⟨g, o + j * 5 + 3, none⟩ = some (.int .u64 (p.n : Int)) ∧ w.cell? ⟨g, o + j * 5 + 4, none⟩ = some (.slice p.bp p.bl p.bc) := by
    rcases hO.lie with h | ⟨g', o', e, _, h1, h2⟩
    · subst h; simp at hlo; omega
    · cases e; exact ⟨h1, h2⟩
  obtain ⟨hg, hc⟩ := hg
  have HC := hide hc
  have HN := hide hlo
  have HG := hide hO.nums
  clear hc hO hlo
  generalize hP : playsF 4194304 (ops.take 400) = P
  have HP := hide hP
  clear hP
  have HPl : Hid (P.length = min lo 400) := by show _ = _; rw [← HP.out, plays_length, List.length_take, HN.out]; omega
  go_enter Try.func10, Try.ntmps10
  go_wp2
  go_loopw [3, 4, 5] (fun m rm i wr => ∃ (k room : Nat), k ≤ lo ∧ k ≤ 400 ∧ room ≤ 4194304 ∧ i = .int .i64 k ∧ rm = .int .i64 (room : Int) ∧ Hid (playsF room ((ops.take 400).drop k) = P.drop k) ∧ Hid (wr.ownsRow w.heap.size 33 5 m k ((P.take k).flatMap opCells)) ∧ Hid (Below w.heap.size w wr)) (fun _ _ i _ => 400 - (intOf i).toNat)
  case atStart => exact ⟨0, 4194304, Nat.zero_le _, Nat.zero_le _, by omega, rfl, rfl, by simpa [Hid] using HP, World.ownsRow_nil _ _ _ _, Below.refl _ _⟩
  case round =>
    obtain ⟨k, room, hk, hk4, hroom, rfl, rfl, HF, HO, HB⟩ := hrel
    by_cases hlt : k < lo ∧ k < 400
    · obtain ⟨hlt1, hlt2⟩ := hlt
      have hop : ops[k]? = some (ops[k]'(by rw [HN.out]; exact hlt1)) := List.getElem?_eq_getElem _
      obtain ⟨g0, g1, g2, g3, g4⟩ := HC.out k _ hop
      have hnum := hide (HG.out _ (List.mem_of_getElem? hop))
      have HD : Hid ((ops.take 400).drop k = ops[k]'(by rw [HN.out]; exact hlt1) :: (ops.take 400).drop (k + 1)) := by
        show _ = _
        rw [List.drop_eq_getElem_cons (by rw [List.length_take, HN.out]; omega)]
        simp
      generalize ops[k]'(by rw [HN.out]; exact hlt1) = p at *
      have HB5 := hide (bcell HB.out).1
      have d0 := (HB5.out g (o + k * 5) hg).trans g0
      have d1 := (HB5.out g (o + k * 5 + 1) hg).trans g1
      have d2 := (HB5.out g (o + k * 5 + 2) hg).trans g2
      have d3 := (HB5.out g (o + k * 5 + 3) hg).trans g3
      have d4 := (HB5.out g (o + k * 5 + 4) hg).trans g4
      have hgw : g < wr.heap.size := Nat.lt_of_lt_of_le hg HB.out.size
      clear g0 g1 g2 g3 g4 hop
      have hbl : p.bl ≤ 140737488351232 := Nat.le_trans hnum.out.cap hnum.out.most
      by_cases hr : room < p.bl
      · skip
        have ht : trim room p = ⟨p.kind, p.which, p.m, p.n, none, 0, 0, []⟩ := by rw [trim, if_pos hr]
        have HF1 : Hid (playsF room ((ops.take 400).drop (k + 1)) = P.drop (k + 1)) := by
          have h := HF.out
          rw [HD.out, playsF, ht] at h
          have h2 := congrArg List.tail h
          simp only [List.tail_cons, List.tail_drop] at h2
          show _ = _
          simpa using h2
        have HT1 : Hid ((P.take (k + 1)).flatMap opCells = (P.take k).flatMap opCells ++ [.int .i64 p.kind, .int .i64 p.which, .int .i64 p.m, .int .u64 (p.n : Int), .slice none 0 0]) := by
          have h := HF.out
          rw [HD.out, playsF, ht] at h
          have hk : k < P.length := by rw [HPl.out]; omega
          have h3 : P.drop k = P[k] :: P.drop (k + 1) := List.drop_eq_getElem_cons hk
          rw [h3] at h
          have h4 := (List.cons.inj h).1
          show _ = _
          rw [List.take_succ_eq_append_getElem hk, ← h4]
          simp [opCells]
        go_wp2_with (at_builtin; refine wpList_append_lies _ rfl (.tmp 32) (.tmp 34) 24 rfl w.heap.size 33 i0 _ 5 56 Try.underlying24 hi hz0 hz1 hz2 rfl (by omega) _ _ _ rfl ((HO.out.alloc _).alloc _) ⟨wr.heap.size + 1, 0, none⟩ 1 1 [.int .i64 p.kind, .int .i64 p.which, .int .i64 p.m, .int .u64 (p.n : Int), .slice none 0 0] rfl rfl (World.news_of_block (heap_two wr _ (.cells #[.int .i64 p.kind, .int .i64 p.which, .int .i64 p.m, .int .u64 (p.n : Int), .slice none 0 0] 33))) (by simp [Value.oneCell']) (by omega) (by unfold maxLen; omega) (by omega) (by have := HB.out.size; simp; omega) _ rfl ?_; intro g' cap' w1 hown hgrow hat hltg)
        have HO1 : Hid (w1.ownsRow w.heap.size 33 5 (.slice (some ⟨g', 0, none⟩) (k + 1) cap') (k + 1) ((P.take (k + 1)).flatMap opCells)) := by rw [HT1.out]; exact hown
        have HB1 : Hid (Below w.heap.size w w1) := ((HB.out.alloc HB.out.size _).alloc (by have := HB.out.size; simp; omega) _).grown hgrow (by have := HB.out.size; simp; omega) (fun k e => owns_base HO.out k e)
        go_roundw
        case rel => exact ⟨k + 1, room, by omega, by omega, by omega, by go_num, rfl, HF1, HO1, HB1⟩
        case measure => simp [intOf]; omega
      · skip
        have ht : trim room p = p := by rw [trim, if_neg hr]
        have HF1 : Hid (playsF (room - p.bl) ((ops.take 400).drop (k + 1)) = P.drop (k + 1)) := by
          have h := HF.out
          rw [HD.out, playsF, ht] at h
          have h2 := congrArg List.tail h
          simp only [List.tail_cons, List.tail_drop] at h2
          show _ = _
          simpa using h2
        have HT1 : Hid ((P.take (k + 1)).flatMap opCells = (P.take k).flatMap opCells ++ [.int .i64 p.kind, .int .i64 p.which, .int .i64 p.m, .int .u64 (p.n : Int), .slice p.bp p.bl p.bc]) := by
          have h := HF.out
          rw [HD.out, playsF, ht] at h
          have hk : k < P.length := by rw [HPl.out]; omega
          have h3 : P.drop k = P[k] :: P.drop (k + 1) := List.drop_eq_getElem_cons hk
          rw [h3] at h
          have h4 := (List.cons.inj h).1
          show _ = _
          rw [List.take_succ_eq_append_getElem hk, ← h4]
          simp [opCells]
        go_wp2_with (at_builtin; refine wpList_append_lies _ rfl (.tmp 32) (.tmp 34) 24 rfl w.heap.size 33 i0 _ 5 56 Try.underlying24 hi hz0 hz1 hz2 rfl (by omega) _ _ _ rfl ((HO.out.alloc _).alloc _) ⟨wr.heap.size + 1, 0, none⟩ 1 1 [.int .i64 p.kind, .int .i64 p.which, .int .i64 p.m, .int .u64 (p.n : Int), .slice p.bp p.bl p.bc] rfl rfl (World.news_of_block (heap_two wr _ (.cells #[.int .i64 p.kind, .int .i64 p.which, .int .i64 p.m, .int .u64 (p.n : Int), .slice p.bp p.bl p.bc] 33))) (by simp [Value.oneCell']) (by omega) (by unfold maxLen; omega) (by omega) (by have := HB.out.size; simp; omega) _ rfl ?_; intro g' cap' w1 hown hgrow hat hltg)
        have HO1 : Hid (w1.ownsRow w.heap.size 33 5 (.slice (some ⟨g', 0, none⟩) (k + 1) cap') (k + 1) ((P.take (k + 1)).flatMap opCells)) := by rw [HT1.out]; exact hown
        have HB1 : Hid (Below w.heap.size w w1) := ((HB.out.alloc HB.out.size _).alloc (by have := HB.out.size; simp; omega) _).grown hgrow (by have := HB.out.size; simp; omega) (fun k e => owns_base HO.out k e)
        go_roundw
        case rel => exact ⟨k + 1, room - p.bl, by omega, by omega, by omega, by go_num, by rw [Int.ofNat_sub (by omega)], HF1, HO1, HB1⟩
        case measure => simp [intOf]; omega
    · have hk : k = min lo 400 := by omega
      by_cases h4 : (k : Int) < (lo : Int)
      · have h5 : ¬ (k : Int) < 400 := by omega
        go_wp2
        go_ret
        have h := HO.out
        rw [List.take_of_length_le (by rw [HPl.out]; omega)] at h
        subst hk
        exact ⟨_, rfl, h, HB.out⟩
      · go_wp2
        go_ret
        have h := HO.out
        rw [List.take_of_length_le (by rw [HPl.out]; omega)] at h
        subst hk
        exact ⟨_, rfl, h, HB.out⟩

theorem flat_at (P : List Op1) (j : Nat) (p : Op1) (h : P[j]? = some p) (i : Nat) (hi : i < 5) : (P.flatMap opCells)[j * 5 + i]? = (opCells p)[i]? := by
  induction P generalizing j with
  | nil => simp at h
  | cons q P ih =>
    cases j with
    | zero =>
      simp at h; subst h
      rw [List.flatMap_cons, List.getElem?_append_left (by simp [opCells]; omega)]
      simp
    | succ j =>
      simp at h
      rw [List.flatMap_cons, List.getElem?_append_right (by simp [opCells]; omega)]
      have := ih j h
      rw [← this]
      congr 1
      simp [opCells]; omega

theorem flat_len (P : List Op1) : (P.flatMap opCells).length = P.length * 5 := by
  induction P with
  | nil => rfl
  | cons q P ih => simp [List.flatMap_cons, ih, opCells]; omega

set_option maxRecDepth 100000 in
set_option maxHeartbeats 400000 in
theorem played_none (w : World) (sp : Option Addr) (co : Nat) :
    Calls Try.prog 10 #[.slice sp 0 co] w fun e w' => e = .returned (.slice none 0 0) ∧ w' = w := by
  go_enter Try.func10, Try.ntmps10
  go_wp2
  refine wp_loop_rounds 1 ?_
  rw [rounds_succ]
  go_wp2
  go_ret
  exact ⟨rfl, rfl⟩

theorem trim_nums (room : Nat) (o : Op1) (h : o.Nums) : (trim room o).Nums := by
  unfold trim
  split
  · exact ⟨h.k1, h.k2, h.w1, h.w2, h.m1, h.m2, h.n2, rfl, Nat.le_refl _, by simp only; omega⟩
  · exact h
theorem trim_bytes {S : Nat → Prop} {w : World} (room : Nat) (o : Op1) (h : BytesS S w o.bp o.bs) : BytesS S w (trim room o).bp (trim room o).bs := by
  unfold trim
  split
  · exact ⟨by simp, Or.inl rfl⟩
  · exact h

/-- The steps that are played, in new memory. -/
theorem played_any (S : Nat → Prop) (w : World) (sp : Option Addr) (lo co : Nat) (ops : List Op1) (hlo : ops.length = lo) (hlo2 : lo ≤ 140737488351232) (hO : OpsS S w sp ops) :
    Calls Try.prog 10 #[.slice sp lo co] w fun e w' => ∃ sq c, e = .returned (.slice sq (playsF 4194304 (ops.take 400)).length c) ∧ OpsS (fun k => S k ∨ w.heap.size ≤ k) w' sq (playsF 4194304 (ops.take 400)) ∧ Below w.heap.size w w' := by
  by_cases h0 : lo = 0
  · subst h0
    have : ops = [] := List.eq_nil_of_length_eq_zero hlo
    subst this
    refine (played_none w sp co).mono ?_
    rintro e w' ⟨rfl, rfl⟩
    exact ⟨none, 0, rfl, ⟨by simp [playsF], by simp [playsF], Or.inl (by simp [playsF])⟩, Below.refl _ _⟩
  · rcases hO.lie with h | ⟨g, o, rfl, hS, _, _⟩
    · subst h; simp at hlo; omega
    · refine (played_some S w g o lo co ops hlo hlo2 hS hO (by omega)).mono ?_
      rintro e w' ⟨v, rfl, hown, hb⟩
      have hPl : (playsF 4194304 (ops.take 400)).length = min lo 400 := by rw [plays_length, List.length_take, hlo]; omega
      rw [← hPl] at hown
      have hN : ∀ p ∈ playsF 4194304 (ops.take 400), p.Nums := plays_of trim_nums _ _ (fun p hp => hO.nums p (List.mem_of_mem_take hp))
      have hY : ∀ p ∈ playsF 4194304 (ops.take 400), BytesS S w p.bp p.bs := plays_of (q := fun p => BytesS S w p.bp p.bs) trim_bytes _ _ (fun p hp => hO.bytes p (List.mem_of_mem_take hp))
      generalize playsF 4194304 (ops.take 400) = P at *
      rcases hown.2 with ⟨_, hz⟩ | ⟨g', cap, cur, rfl, hbase, hg', _, _, hsz, htk⟩
      · omega
      · refine ⟨some ⟨g', 0, none⟩, cap, rfl, ⟨hN, fun p hp => ((hY p hp).kept (fun k _ hk => hb.block k hk) hb.size).imp (fun k _ h => Or.inl h), Or.inr ⟨g', 0, rfl, Or.inr hbase, lt_of_block hg', fun j p hj => ?_⟩⟩, hb⟩
        have hjl : j < P.length := (List.getElem?_eq_some_iff.1 hj).1
        have cell : ∀ i, i < 5 → w'.cell? ⟨g', 0 + j * 5 + i, none⟩ = (opCells p)[i]? := fun i hi => by
          have hf := flat_at P j p hj i hi
          rw [← htk, List.getElem?_take, if_pos (by omega)] at hf
          simp only [World.cell?, hg', Nat.zero_add]
          simpa using hf
        exact ⟨by simpa [opCells] using cell 0 (by omega), by simpa [opCells] using cell 1 (by omega), by simpa [opCells] using cell 2 (by omega), by simpa [opCells] using cell 3 (by omega), by simpa [opCells] using cell 4 (by omega)⟩

end Go.Proofs.Ytlnldipiofddkaa
