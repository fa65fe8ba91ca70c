import Derived.Test.YtecbidaljchmoaaRpE
import Derived.Test.YtecbidaljchmoaaRpP
import Derived.Maps.RangeWalk
namespace Go.Proofs.Ytecbidaljchmoaa
open Go.RowKit Go.Shelf
attribute [local go_sem] Oper.semAt_some

set_option maxRecDepth 100000 in
set_option maxHeartbeats 4000000 in
theorem values1_in (n : Nat) (hn : 2 ≤ n) (l Bs n₀ : Nat) {α : Type} (val : α → Eda) (s : Sli α) (J Jx : List α → World → Prop)
    (hY : ∀ pre x W, J pre W → pre.length < s.n → YieldAt Fence.wide (n - 1) Try.prog l (encE (val x)) W fun e W' =>
      (e = .returned (.bool true) ∧ J (pre ++ [x]) W' ∧ Below n₀ W W') ∨ (e = .returned (.bool false) ∧ Jx (pre ++ [x]) W'))
    (W w0 : World) (hw0 : w0.heap.size = n₀) (hbw : Below n₀ w0 W) (hJ : AbidesFrom W.heap.size J) (hn0 : n₀ ≤ W.heap.size) (hBs : W.cell? ⟨Bs, 0, none⟩ = some (.slice s.p s.n s.c)) (hL : SlOk w0 22 (fun x => (val x).list) s) (h0 : J [] W) :
    CallsIn Fence.wide n Try.prog 45 #[.func (.yield l) #[] #[], .pointer (some ⟨Bs, 0, none⟩)] W fun e W' => (∃ v, e = .returned v) ∧
      ((∃ ys, ys = s.xs ∧ J ys W') ∨ (∃ pre, pre <+: s.xs ∧ Jx pre W')) := by
  have h1 : 1 ≤ n := by omega
  have hmx : Try.prog.follows .mixedOrders = true := by kernel_rfl
  obtain ⟨p, len, cap, es⟩ := s
  have hlen : es.length = len := hL.len
  have hreach : len ≤ 4194304 := hL.most
  have HL := hide hL.cel
  clear hL
  simp only at hBs hY ⊢
  refine callsIn_of_wp Try.func45 rfl trivial ?_ rfl
  simp only [Try.ntmps45, List.size_toArray, List.length_cons, List.length_nil, Nat.reduceAdd, Nat.reduceSub, Array.replicate_succ, Array.replicate_zero, List.push_toArray, List.append_toArray, List.nil_append, List.cons_append]
  gi_wp2
  gi_loopw [7] (fun i wr => ∃ k : Nat, k ≤ len ∧ i = .int .i64 k ∧ J (es.take k) wr ∧ Below n₀ w0 wr ∧ W.heap.size ≤ wr.heap.size)
    (fun i _ => len - (intOf i).toNat)
  case atStart => exact ⟨0, Nat.zero_le _, rfl, h0, hbw, Nat.le_refl _⟩
  case round =>
    obtain ⟨k, hk, rfl, hJs, hnx, hsz⟩ := hrel
    by_cases hlt : k < len
    · obtain ⟨x, hx⟩ : ∃ x, es[k]? = some x := ⟨_, List.getElem?_eq_getElem (by omega)⟩
      have hlt' : (k : Int) < (len : Int) := by omega
      obtain ⟨b, o, e, hb, hcl⟩ := HL.out.get (i := k) (r := (val x).list) (by simp [hx])
      subst e
      have f : ∀ i v, (val x).list[i]? = some v → wr.cell? ⟨b, o + k * 22 + i, none⟩ = some v := fun i v hv => (hnx.cell (p := ⟨b, o + k * 22 + i, none⟩) (hw0 ▸ hb)).trans (hcl i v hv)
      obtain ⟨A, hA⟩ : ∃ A, (val x).arr = A := ⟨_, rfl⟩
      have HZ : Hid (A.size = 22) := by show _ = _; rw [← hA]; rfl
      have HO : Hid (A.all (·.oneCell') = true) := by show _ = _; rw [← hA]; exact (val x).ones
      have HL1 : Hid ((Instr.loadAt 82 (.pointer (some ⟨b, o + k * 22, none⟩))).run Try.prog wr = .ok (.agg A) wr) := by
        show _ = _
        rw [← hA]
        exact run_loadAt_mid (P := Try.prog) wr b (o + k * 22) 82 (val x).list _ f Try.underlying82 rfl Try.sizeE
      have HL2 := hide (loadAt_row (P := Try.prog) (ty := 82) (heap_alloc_new wr (.cells A 82)) Try.underlying82 rfl (by rw [HZ.out]; exact Try.sizeE))
      have HJ2 : Hid (J (es.take k) (wr.alloc (.cells A 82))) := hJ _ wr _ none hJs (World.grownBy_alloc wr _ none) (fun r e => by cases e)
      have HR2 : Hid (Below n₀ w0 (wr.alloc (.cells A 82)) ∧ W.heap.size ≤ (wr.alloc (.cells A 82)).heap.size) :=
        ⟨hnx.alloc (Nat.le_trans hn0 hsz) _, by simp; omega⟩
      have HF : Hid (es.take (k + 1) = es.take k ++ [x]) := take_snoc hx
      have HA := hide hA
      obtain ⟨fn, tmps, assign, body, hy, hR⟩ := hY _ x _ HJ2.out (by rw [List.length_take]; omega)
      have HR : Hid (RoundIn Fence.wide (n - 1) Try.prog l fn tmps assign body (wr.alloc (.cells A 82)) fun e W' => ∃ g : Bool, e = .returned (.bool g) ∧ Hid ((g = true ∧ J (es.take k ++ [x]) W' ∧ Below n₀ (wr.alloc (.cells A 82)) W') ∨ (g = false ∧ Jx (es.take k ++ [x]) W'))) :=
        hR.mono fun e W' h => h.elim (fun h => ⟨true, h.1, .inl ⟨rfl, h.2⟩⟩) (fun h => ⟨false, h.1, .inr ⟨rfl, h.2⟩⟩)
      clear hcl f hJs hnx hx hA hR
      simp only [encE, HA.out] at hy
      gi_wp2_with (first | ((with_reducible show wpListIn _ _ _ _ _ (⟨_, .load 82 (.tmp 4), _, _, _, _⟩ :: _) _ _); refine li_load wr.heap.size 0 A rfl HL2.out ?_) | ((with_reducible show wpListIn _ _ _ _ _ (⟨_, .load 82 (.tmp 9), _, _, _, _⟩ :: _) _ _); refine li_load b (o + k * 22) A rfl HL1.out ?_) | ((with_reducible show wpListIn _ _ _ _ _ (⟨_, .store 82 (.tmp 4) _, _, _, _, _⟩ :: _) _ _); refine li_store (t := 82) (x := .tmp 4) (some ⟨wr.heap.size, 0, none⟩) (.agg A) rfl rfl (run_storeAt_new wr _ _ A (by rw [HZ.out]; exact Try.sizeE) (by rw [HZ.out]; rfl) HO.out) ?_) | (refine HR.out.mono ?_; rintro e w3 ⟨g, rfl, HG⟩; rcases HG.out with ⟨rfl, hJ3⟩ | ⟨rfl, hJ3⟩ <;> (have H3 := hide hJ3; clear hJ3 HG)))
      · go_roundw
        case rel => exact ⟨k + 1, by omega, by go_num, by rw [HF.out]; exact H3.out.1, HR2.out.1.trans H3.out.2, Nat.le_trans HR2.out.2 H3.out.2.size⟩
        case measure => simp [intOf]; omega
      · refine bodyPost_ret (results_none rfl _ _ _) rfl ?_
        exact ⟨⟨_, rfl⟩, .inr ⟨_, by rw [← HF.out]; exact List.take_prefix _ _, H3.out⟩⟩
    · obtain rfl : k = len := by omega
      gi_wp2
      go_end0
      exact ⟨⟨_, rfl⟩, .inl ⟨_, by rw [List.take_of_length_le (by omega)], hJs⟩⟩
set_option maxHeartbeats 1000000 in
theorem values_in (n : Nat) (p : Option Addr) (len cap : Nat) (w : World) :
    CallsIn Fence.wide n Try.prog 35 #[.slice p len cap] w fun e w' => e = .returned (.func (.func 45) #[] #[.pointer (some ⟨w.heap.size, 0, none⟩)]) ∧ w' = w.alloc (.cells #[.slice p len cap] 26) := by
  refine callsIn_of_wp Try.func35 rfl trivial ?_ rfl
  simp only [Try.ntmps35, List.size_toArray, List.length_cons, List.length_nil, Nat.reduceAdd, Nat.reduceSub, Array.replicate_succ, Array.replicate_zero, List.push_toArray, List.append_toArray, List.nil_append, List.cons_append]
  gi_wp2
  go_ret
  exact ⟨rfl, rfl⟩
theorem values_stops (n : Nat) (hn : 2 ≤ n) (Bs : Nat) (s : Sli Eda) (w0 w : World) (hs : Ents w0 s) (hb : Below w0.heap.size w0 w) (hBs : w.heap[Bs]? = some (.cells #[.slice s.p s.n s.c] 26 (0, 0))) :
    SeqStopsK Fence.wide n Try.prog 45 #[.pointer (some ⟨Bs, 0, none⟩)] (fun x : EdO w0 => encE x.1) (Below w0.heap.size) (fun ys => ys = edsOf s.xs hs.each) (fun pre => pre <+: edsOf s.xs hs.each) s.n w := fun l J Jx W hW hJ _ hY h0 =>
  values1_in n hn l Bs w0.heap.size (fun x : EdO w0 => x.1) (edS s hs) J Jx hY W w0 rfl (hb.trans (hW.mono hb.size)) hJ (Nat.le_trans hb.size hW.size) (by
    have := (hW.block Bs (ac_lt hBs)).trans hBs
    simp [World.cell?, this, edS]) (edS_ok s hs) h0
/-- A body that keeps more is a body. -/
theorem SeqStopsK.mono {α : Type} {F : Fence} {n g N : Nat} {P : Program} {lb : Array Value} {encs : α → Array Value} {Kp Kp' : World → World → Prop} {S Sp : List α → Prop} {w : World} (h : SeqStopsK F n P g lb encs Kp S Sp N w) (hk : ∀ A B, Kp' A B → Kp A B) : SeqStopsK F n P g lb encs Kp' S Sp N w :=
  fun l J Jx W hW hJ hJx hY h0 => h l J Jx W hW hJ hJx (fun pre x W' hj hl => by
    obtain ⟨fn, tmps, assign, body, hy, hR⟩ := hY pre x W' hj hl
    exact ⟨fn, tmps, assign, body, hy, hR.mono (fun e W'' h' => h'.imp (fun h1 => ⟨h1.1, h1.2.1, hk _ _ h1.2.2⟩) id)⟩) h0
end Go.Proofs.Ytecbidaljchmoaa
