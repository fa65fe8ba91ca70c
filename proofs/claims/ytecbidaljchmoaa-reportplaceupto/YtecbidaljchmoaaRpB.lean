import Derived.Test.YtecbidaljchmoaaRpA
namespace Go.Proofs.Ytecbidaljchmoaa
open Go.RowKit Go.Shelf
attribute [local go_sem] Oper.semAt_some

/-- The relation that a round of a range over a till's entries keeps. -/
def KB (n₀ Bt : Nat) (W W' : World) : Prop := Below n₀ W W' ∧ W'.heap[Bt]? = W.heap[Bt]?
theorem KB.trans {n₀ Bt : Nat} {A B C : World} (h : KB n₀ Bt A B) (k : KB n₀ Bt B C) : KB n₀ Bt A C := ⟨h.1.trans k.1, k.2.trans h.2⟩
theorem KB.put {n₀ Bt : Nat} {w : World} (hn : n₀ ≤ w.heap.size) (ht : Bt < w.heap.size) (W : World) (l : Nat) (o o' : Obj) (hl : w.heap.size ≤ l) (h : W.heap[l]? = some o) (h1 : o.isCells = false) (h2 : o.isWalk = false) : KB n₀ Bt W (W.putObj l o') :=
  ⟨belowK_b hn W l o o' hl h h1 h2, by
    have := belowK_b (n₀ := Bt + 1) (w := w) ht W l o o' hl h h1 h2
    exact this.block Bt (Nat.lt_succ_self _)⟩
theorem Try.sizeE : (Try.prog.info? 82).map (·.size) = some 22 := by kernel_rfl
def ownV {α : Type} (val : α → Eda) (till : Int) (x : α) : Bool := ownB till (val x)
def encE (e : Eda) : Array Value := #[.agg e.arr]

set_option maxRecDepth 100000 in
set_option maxHeartbeats 4000000 in
theorem ofTill1_in (n : Nat) (hn : 2 ≤ n) (l Bs Bt n₀ : Nat) {α : Type} (val : α → Eda) (s : Sli α) (till : Int) (J Jx : List α → World → Prop)
    (hY : ∀ pre x W, J pre W → pre.length < s.n → YieldAt Fence.wide (n - 1) Try.prog l (encE (val x)) W fun e W' =>
      (e = .returned (.bool true) ∧ J (pre ++ [x]) W' ∧ KB n₀ Bt W W') ∨ (e = .returned (.bool false) ∧ Jx (pre ++ [x]) W'))
    (W w0 : World) (hw0 : w0.heap.size = n₀) (hbw : Below n₀ w0 W) (hJ : AbidesFrom W.heap.size J) (hn0 : n₀ ≤ W.heap.size) (hBs : W.cell? ⟨Bs, 0, none⟩ = some (.slice s.p s.n s.c)) (hBt : W.heap[Bt]? = some (.cells #[.int .i64 till] 3 (0, 0))) (hL : SlOk w0 22 (fun x => (val x).list) s) (h0 : J [] W) :
    CallsIn Fence.wide n Try.prog 44 #[.func (.yield l) #[] #[], .pointer (some ⟨Bs, 0, none⟩), .pointer (some ⟨Bt, 0, none⟩)] W fun e W' => (∃ v, e = .returned v) ∧
      ((∃ ys, ys = s.xs.filter (ownV val till) ∧ J ys W') ∨ (∃ pre, pre <+: s.xs.filter (ownV val till) ∧ Jx pre W')) := by
  have h1 : 1 ≤ n := by omega
  have hmx : Try.prog.follows .mixedOrders = true := by kernel_rfl
  obtain ⟨p, len, cap, es⟩ := s
  have hlen : es.length = len := hL.len
  have hreach : len ≤ 4194304 := hL.most
  have HL := hide hL.cel
  have HT := hide hBt
  clear hL hBt
  simp only at hBs hY ⊢
  refine callsIn_of_wp Try.func44 rfl trivial ?_ rfl
  simp only [Try.ntmps44, List.size_toArray, List.length_cons, List.length_nil, Nat.reduceAdd, Nat.reduceSub, Array.replicate_succ, Array.replicate_zero, List.push_toArray, List.append_toArray, List.nil_append, List.cons_append]
  gi_wp2
  gi_loopw [8] (fun i wr => ∃ k : Nat, k ≤ len ∧ i = .int .i64 k ∧ J ((es.take k).filter (ownV val till)) wr ∧ Below n₀ w0 wr ∧ wr.heap[Bt]? = some (.cells #[.int .i64 till] 3 (0, 0)) ∧ W.heap.size ≤ wr.heap.size)
    (fun i _ => len - (intOf i).toNat)
  case atStart => exact ⟨0, Nat.zero_le _, rfl, h0, hbw, HT.out, Nat.le_refl _⟩
  case round =>
    obtain ⟨k, hk, rfl, hJs, hnx, hbt, hsz⟩ := hrel
    by_cases hlt : k < len
    · obtain ⟨x, hx⟩ : ∃ x, es[k]? = some x := ⟨_, List.getElem?_eq_getElem (by omega)⟩
      have hlt' : (k : Int) < (len : Int) := by omega
      obtain ⟨b, o, e, hb, hcl⟩ := HL.out.get (i := k) (r := (val x).list) (by simp [hx])
      subst e
      have f : ∀ i v, (val x).list[i]? = some v → wr.cell? ⟨b, o + k * 22 + i, none⟩ = some v := fun i v hv => (hnx.cell (p := ⟨b, o + k * 22 + i, none⟩) (hw0 ▸ hb)).trans (hcl i v hv)
      obtain ⟨A, hA⟩ : ∃ A, (val x).arr = A := ⟨_, rfl⟩
      have HZ : Hid (A.size = 22) := by show _ = _; rw [← hA]; rfl
      have HO : Hid (A.all (·.oneCell') = true) := by show _ = _; rw [← hA]; exact (val x).ones
      have HL1 : Hid ((Instr.loadAt 82 (.pointer (some ⟨b, o + k * 22, none⟩))).run Try.prog wr = .ok (.agg A) wr) := by
        show _ = _
        rw [← hA]
        exact run_loadAt_mid (P := Try.prog) wr b (o + k * 22) 82 (val x).list _ f Try.underlying82 rfl Try.sizeE
      have HL2 : Hid ((Instr.loadAt 82 (.pointer (some ⟨wr.heap.size, 0, none⟩))).run Try.prog (wr.alloc (.cells A 82)) = .ok (.agg A) (wr.alloc (.cells A 82))) := by
        have h := run_loadAt_mid (P := Try.prog) (wr.alloc (.cells A 82)) wr.heap.size 0 82 A.toList _ (fun j v hv => by rw [cell_of_row _ _ _ _ _ _ (heap_alloc_new wr (.cells A 82)), Nat.zero_add]; simpa using hv) Try.underlying82 rfl (by rw [Array.length_toList, HZ.out]; exact Try.sizeE)
        rw [Array.toArray_toList] at h
        exact h
      have a1 : A[1]? = some (.int .i64 (val x).ac.till) := by rw [← hA]; rfl
      have a3 : A[3]? = some (.int .i64 (val x).ac.kind) := by rw [← hA]; rfl
      have ht0 : wr.cell? ⟨Bt, 0, none⟩ = some (.int .i64 till) := by simp [World.cell?, hbt]
      have hne : ¬ Bt = wr.heap.size := by have := ac_lt hbt; omega
      have HJ2 : Hid (J ((es.take k).filter (ownV val till)) (wr.alloc (.cells A 82))) := hJ _ wr _ none hJs (World.grownBy_alloc wr _ none) (fun r e => by cases e)
      have HR2 : Hid (Below n₀ w0 (wr.alloc (.cells A 82)) ∧ (wr.alloc (.cells A 82)).heap[Bt]? = some (.cells #[.int .i64 till] 3 (0, 0)) ∧ W.heap.size ≤ (wr.alloc (.cells A 82)).heap.size) :=
        ⟨hnx.alloc (Nat.le_trans hn0 hsz) _, (Below.heap_alloc _ _ _ (ac_lt hbt)).trans hbt, by simp; omega⟩
      have ht2 : (wr.alloc (.cells A 82)).cell? ⟨Bt, 0, none⟩ = some (.int .i64 till) := by simp [World.cell?, HR2.out.2.1]
      have HX := hide hx
      have HA := hide hA
      obtain ⟨tl, htl⟩ : ∃ tl, (val x).ac.till = tl := ⟨_, rfl⟩
      obtain ⟨kd, hkd⟩ : ∃ kd, (val x).ac.kind = kd := ⟨_, rfl⟩
      rw [htl] at a1
      rw [hkd] at a3
      have HTL := hide htl
      have HKD := hide hkd
      clear hcl f hJs hnx hbt hx hA htl hkd
      by_cases hk0 : kd = 0
      · subst hk0
        have HF : Hid ((es.take (k + 1)).filter (ownV val till) = (es.take k).filter (ownV val till)) := by
          show _ = _
          rw [take_snoc HX.out, List.filter_append]
          simp [ownV, ownB, HKD.out]
        gi_wp2_with (first | ((with_reducible show wpListIn _ _ _ _ _ (⟨_, .load 82 (.tmp 10), _, _, _, _⟩ :: _) _ _); refine li_load b (o + k * 22) A rfl HL1.out ?_) | ((with_reducible show wpListIn _ _ _ _ _ (⟨_, .store 82 (.tmp 5) _, _, _, _, _⟩ :: _) _ _); refine li_store (t := 82) (x := .tmp 5) (some ⟨wr.heap.size, 0, none⟩) (.agg A) rfl rfl (run_storeAt_new wr _ _ A (by rw [HZ.out]; exact Try.sizeE) (by rw [HZ.out]; rfl) HO.out) ?_))
        refine ⟨fun f hf => (by cases hf), ?_⟩
        gi_wp2
        go_roundw
        case rel => exact ⟨k + 1, by omega, by go_num, by rw [HF.out]; exact HJ2.out, HR2.out⟩
        case measure => simp [intOf]; omega
      · have hk1 : (kd != 0) = true := by simp [hk0]
        by_cases hkt : tl = till
        · subst hkt
          have HF : Hid ((es.take (k + 1)).filter (ownV val tl) = (es.take k).filter (ownV val tl) ++ [x]) := by
            show _ = _
            rw [take_snoc HX.out, List.filter_append]
            simp [ownV, ownB, HKD.out, HTL.out, hk0]
          obtain ⟨fn, tmps, assign, body, hy, hR⟩ := hY _ x _ HJ2.out (by
            refine Nat.lt_of_le_of_lt (List.length_filter_le _ _) ?_
            rw [List.length_take]; omega)
          have HR : Hid (RoundIn Fence.wide (n - 1) Try.prog l fn tmps assign body (wr.alloc (.cells A 82)) fun e W' => ∃ g : Bool, e = .returned (.bool g) ∧ Hid ((g = true ∧ J ((es.take k).filter (ownV val tl) ++ [x]) W' ∧ KB n₀ Bt (wr.alloc (.cells A 82)) W') ∨ (g = false ∧ Jx ((es.take k).filter (ownV val tl) ++ [x]) W'))) :=
            hR.mono fun e W' h => h.elim (fun h => ⟨true, h.1, .inl ⟨rfl, h.2⟩⟩) (fun h => ⟨false, h.1, .inr ⟨rfl, h.2⟩⟩)
          clear hR
          simp only [encE, HA.out] at hy
          gi_wp2_with (first | ((with_reducible show wpListIn _ _ _ _ _ (⟨_, .load 82 (.tmp 5), _, _, _, _⟩ :: _) _ _); refine li_loadw wr.heap.size 0 A rfl rfl HL2.out ?_) | ((with_reducible show wpListIn _ _ _ _ _ (⟨_, .load 82 (.tmp 10), _, _, _, _⟩ :: _) _ _); refine li_load b (o + k * 22) A rfl HL1.out ?_) | ((with_reducible show wpListIn _ _ _ _ _ (⟨_, .store 82 (.tmp 5) _, _, _, _, _⟩ :: _) _ _); refine li_store (t := 82) (x := .tmp 5) (some ⟨wr.heap.size, 0, none⟩) (.agg A) rfl rfl (run_storeAt_new wr _ _ A (by rw [HZ.out]; exact Try.sizeE) (by rw [HZ.out]; rfl) HO.out) ?_) | (refine HR.out.mono ?_; rintro e w3 ⟨g, rfl, HG⟩; rcases HG.out with ⟨rfl, hJ3⟩ | ⟨rfl, hJ3⟩ <;> (have H3 := hide hJ3; clear hJ3 HG)))
          · go_roundw
            case rel => exact ⟨k + 1, by omega, by go_num, by rw [HF.out]; exact H3.out.1, HR2.out.1.trans H3.out.2.1, H3.out.2.2.trans HR2.out.2.1, Nat.le_trans HR2.out.2.2 H3.out.2.1.size⟩
            case measure => simp [intOf]; omega
          · refine bodyPost_ret (results_none rfl _ _ _) rfl ?_
            exact ⟨⟨_, rfl⟩, .inr ⟨_, by rw [← HF.out]; exact (List.take_prefix _ _).filter _, H3.out⟩⟩
        · have HF : Hid ((es.take (k + 1)).filter (ownV val till) = (es.take k).filter (ownV val till)) := by
            show _ = _
            rw [take_snoc HX.out, List.filter_append]
            simp [ownV, ownB, HKD.out, HTL.out, hk0, hkt]
          gi_wp2_with (first | ((with_reducible show wpListIn _ _ _ _ _ (⟨_, .load 82 (.tmp 10), _, _, _, _⟩ :: _) _ _); refine li_load b (o + k * 22) A rfl HL1.out ?_) | ((with_reducible show wpListIn _ _ _ _ _ (⟨_, .store 82 (.tmp 5) _, _, _, _, _⟩ :: _) _ _); refine li_store (t := 82) (x := .tmp 5) (some ⟨wr.heap.size, 0, none⟩) (.agg A) rfl rfl (run_storeAt_new wr _ _ A (by rw [HZ.out]; exact Try.sizeE) (by rw [HZ.out]; rfl) HO.out) ?_))
          refine ⟨fun f hf => (by cases hf), ?_⟩
          gi_wp2
          go_roundw
          case rel => exact ⟨k + 1, by omega, by go_num, by rw [HF.out]; exact HJ2.out, HR2.out⟩
          case measure => simp [intOf]; omega
    · obtain rfl : k = len := by omega
      gi_wp2
      go_end0
      exact ⟨⟨_, rfl⟩, .inl ⟨_, by rw [List.take_of_length_le (by omega)], hJs⟩⟩
end Go.Proofs.Ytecbidaljchmoaa
