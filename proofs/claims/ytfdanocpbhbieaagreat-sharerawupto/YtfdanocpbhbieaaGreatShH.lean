import Derived.Test.YtfdanocpbhbieaaGreatShC
import Derived.Test.YtfdanocpbhbieaaGreatRwD
namespace Go.Proofs.YtfdanocpbhbieaaGreat
open Go.RowKit Go.Shelf
attribute [local go_sem] Oper.semAt_some

def waysK (i : Nat) (h : Lin) : Nat → List Tri
  | 0 => []
  | 1 => if 1 ≤ h.c then [⟨i, 0, h.c⟩] else []
  | _ => (if 1 ≤ h.c then [⟨i, 0, h.c⟩] else []) ++ (if 1 ≤ h.n then [⟨i, 1, h.n⟩] else [])
def poolT (t : Int) (i : Nat) (p : Pl) : List Tri := if hasAt p.hs t = true then waysK i (getAt p.hs ⟨0, 0⟩ t) 2 else []
def heldK (t : Int) (ps : List Pl) : Nat → List Tri
  | 0 => []
  | k + 1 => heldK t ps k ++ (match ps[k]? with | some p => poolT t k p | none => [])
theorem heldK_succ {t : Int} {ps : List Pl} {k : Nat} {p : Pl} (h : ps[k]? = some p) : heldK t ps (k + 1) = heldK t ps k ++ poolT t k p := by rw [heldK, h]
theorem waysK_len (i : Nat) (h : Lin) (q : Nat) : (waysK i h q).length ≤ q := by
  match q with
  | 0 => simp [waysK]
  | 1 => simp only [waysK]; split <;> simp
  | q + 2 => simp only [waysK]; split <;> split <;> simp
theorem poolT_len (t : Int) (i : Nat) (p : Pl) : (poolT t i p).length ≤ 2 := by
  unfold poolT
  split
  · exact waysK_len _ _ _
  · simp
theorem heldK_len (t : Int) (ps : List Pl) (k : Nat) : (heldK t ps k).length ≤ 2 * k := by
  induction k with
  | zero => simp [heldK]
  | succ k ih =>
    rw [heldK, List.length_append]
    split
    · rename_i p _
      have := poolT_len t k p
      omega
    · simp; omega
def encT (x : Tri) : Array Value := #[.agg #[.int .i64 x.a, .int .i64 x.b, .int .i64 x.n]]

set_option maxRecDepth 100000 in
set_option maxHeartbeats 4000000 in
theorem hold1_in (n : Nat) (hn : 2 ≤ n) (l : Nat) (w0 : World) (Bs Bt : Nat) (t : Int) (s : Sta) (hs : StaOk w0 s) (hpn : s.pn ≤ 4194304) (hhl : ∀ p ∈ s.pools, p.hl ≤ 4194304) (hBsl : Bs < w0.heap.size) (hBs : w0.cell? ⟨Bs, 1, none⟩ = some (.slice s.pp s.pn s.pc)) (hBtl : Bt < w0.heap.size) (hBt : w0.cell? ⟨Bt, 0, none⟩ = some (.int .i64 t)) (J Jx : List Tri → World → Prop)
    (hY : ∀ pre x W, J pre W → pre.length < 2 * s.pn → YieldAt Fence.wide (n - 1) Tryz.prog l (encT x) W fun e W' =>
      (e = .returned (.bool true) ∧ J (pre ++ [x]) W' ∧ Below w0.heap.size W W') ∨ (e = .returned (.bool false) ∧ Jx (pre ++ [x]) W'))
    (W : World) (hJ : AbidesFrom W.heap.size J) (hB : Below w0.heap.size w0 W) (h0 : J [] W) :
    CallsIn Fence.wide n Tryz.prog 124 #[.func (.yield l) #[] #[], .pointer (some ⟨Bs, 0, none⟩), .pointer (some ⟨Bt, 0, none⟩)] W fun e W' => (∃ v, e = .returned v) ∧
      ((∃ ys, ys = heldK t s.pools s.pn ∧ J ys W') ∨ (∃ pre, True ∧ Jx pre W')) := by
  have h1 : 1 ≤ n := by omega
  have hmx : Tryz.prog.follows .mixedOrders = true := by kernel_rfl
  obtain ⟨ps, hps⟩ : ∃ ps, s.pools = ps := ⟨_, rfl⟩
  obtain ⟨m, hm⟩ : ∃ m, s.pn = m := ⟨_, rfl⟩
  have HP := hide hs.pools
  have HH := hide hs.held
  have HL := hide hs.pn
  have HHl := hide hhl
  have cS := (hB.cell (p := ⟨Bs, 1, none⟩) hBsl).trans hBs
  rw [hps] at HP HH HL HHl
  rw [hm] at HL hpn cS
  rw [hps, hm]
  rw [hm] at hY
  obtain ⟨pp, hpp⟩ : ∃ pp, s.pp = pp := ⟨_, rfl⟩
  rw [hpp] at HP cS
  have HBt := hide hBt
  have HBl := hide hBtl
  have HB0 := hide hB
  clear hs hBs hBt hBtl hBsl hB hhl hpp hps hm
  refine callsIn_of_wp Tryz.func124 rfl trivial ?_ rfl
  simp only [Tryz.ntmps124, List.size_toArray, List.length_cons, List.length_nil, Nat.reduceAdd, Nat.reduceSub, Array.replicate_succ, Array.replicate_zero, List.push_toArray, List.append_toArray, List.nil_append, List.cons_append]
  gi_wp2
  gi_loopw [11] (fun i wr => ∃ k : Nat, k ≤ m ∧ i = .int .i64 k ∧ J (heldK t ps k) wr ∧ Below w0.heap.size w0 wr ∧ W.heap.size ≤ wr.heap.size) (fun i _ => m - (intOf i).toNat)
  case atStart => exact ⟨0, Nat.zero_le _, rfl, h0, HB0.out, Nat.le_refl _⟩
  case round =>
    obtain ⟨k, hk, rfl, hJs, hnx, hsz⟩ := hrel
    by_cases hlt : k < m
    · obtain ⟨x, hx⟩ : ∃ x, ps[k]? = some x := ⟨_, List.getElem?_eq_getElem (by have := HL.out; omega)⟩
      obtain ⟨gb, o, rfl, hbl, hcl⟩ := HP.out.get (i := k) (r := plc x) (by simp [hx])
      have hf : ∀ (j : Nat) (v : Value), (plc x)[j]? = some v → wr.cell? ⟨gb, o + k * 4 + j, none⟩ = some v := fun j v hv => (hnx.cell (p := ⟨gb, o + k * 4 + j, none⟩) hbl).trans (hcl j v hv)
      have hxo := HH.out x (List.mem_of_getElem? hx)
      have hxl := HHl.out x (List.mem_of_getElem? hx)
      have HS := hide (heldK_succ (t := t) hx)
      obtain ⟨v, f0, f1, hp, hl, hc, hss⟩ := x
      have a0 : wr.cell? ⟨gb, o + k * 4, none⟩ = some (.int .i64 v) := hf 0 _ rfl
      have a1 : wr.cell? ⟨gb, o + k * 4 + 1, none⟩ = some (.int .i64 f0) := hf 1 _ rfl
      have a2 : wr.cell? ⟨gb, o + k * 4 + 2, none⟩ = some (.int .i64 f1) := hf 2 _ rfl
      have a3 : wr.cell? ⟨gb, o + k * 4 + 3, none⟩ = some (.slice hp hl hc) := hf 3 _ rfl
      have hlt' : (k : Int) < (m : Int) := by omega
      have k0 : (0 : Int) ≤ (k : Int) := by omega
      clear hcl hf hx
      have HB2 : Hid (Below w0.heap.size w0 (wr.alloc (.cells #[.int .i64 v, .int .i64 f0, .int .i64 f1, .slice hp hl hc] 108))) := hnx.alloc hnx.size _
      have HJ2 : Hid (J (heldK t ps k) (wr.alloc (.cells #[.int .i64 v, .int .i64 f0, .int .i64 f1, .slice hp hl hc] 108))) := hJ _ wr _ none hJs (World.grownBy_alloc wr _ none) (fun r e => by cases e)
      have HZ2 : Hid (W.heap.size ≤ (wr.alloc (.cells #[.int .i64 v, .int .i64 f0, .int .i64 f1, .slice hp hl hc] 108)).heap.size) := by show _ ≤ _; simp; omega
      have ct : wr.cell? ⟨Bt, 0, none⟩ = some (.int .i64 t) := (hnx.cell (p := ⟨Bt, 0, none⟩) HBl.out).trans HBt.out
      have htb : Bt < wr.heap.size := Nat.lt_of_lt_of_le HBl.out hnx.size
      have hhn : hss.length = hl := hxo.len
      have HHc := hide hxo.cel
      have hhw : ∀ w', Below w0.heap.size w0 w' → w'.cell? ⟨Bt, 0, none⟩ = some (.int .i64 t) := fun w' hb => (hb.cell (p := ⟨Bt, 0, none⟩) HBl.out).trans HBt.out
      have HHw := hide hhw
      have HNx := hide hnx
      clear hxo hJs hhw hnx
      by_cases ht0 : t < 0
      · have HE : Hid (poolT t k ⟨v, f0, f1, hp, hl, hc, hss⟩ = []) := by
          show _ = _
          unfold poolT
          rw [if_neg]
          simp [hasAt]
          omega
        gi_wp2
        go_roundw
        case rel => exact ⟨k + 1, by omega, by go_num, by rw [HS.out, HE.out, List.append_nil]; exact HJ2.out, HB2.out, HZ2.out⟩
        case measure => simp [intOf]; omega
      · obtain ⟨q, rfl⟩ : ∃ q : Nat, t = q := ⟨t.toNat, by omega⟩
        by_cases htl : q < hl
        · have htl' : (q : Int) < (hl : Int) := by omega
          have htg : ¬ (hl : Int) ≤ (q : Int) := by omega
          have q0 : (0 : Int) ≤ (q : Int) := by omega
          obtain ⟨h, hh⟩ : ∃ h, hss[q]? = some h := ⟨_, List.getElem?_eq_getElem (by omega)⟩
          obtain ⟨hb, ho, rfl, hhb, hhc⟩ := HHc.out.get (i := q) (r := linc h) (by simp [hh])
          have HE : Hid (poolT q k ⟨v, f0, f1, some ⟨hb, ho, none⟩, hl, hc, hss⟩ = waysK k h 2) := by
            show _ = _
            unfold poolT
            obtain ⟨e1, e2⟩ := at_in (z := ⟨0, 0⟩) hh
            rw [if_pos e1, e2]
          obtain ⟨hA, hN⟩ := h
          have b0 : wr.cell? ⟨hb, ho + q * 2, none⟩ = some (.int .i64 hA) := (HNx.out.cell (p := ⟨hb, ho + q * 2, none⟩) hhb).trans (hhc 0 _ rfl)
          have b1 : wr.cell? ⟨hb, ho + q * 2 + 1, none⟩ = some (.int .i64 hN) := (HNx.out.cell (p := ⟨hb, ho + q * 2 + 1, none⟩) hhb).trans (hhc 1 _ rfl)
          have hbw : hb < wr.heap.size := Nat.lt_of_lt_of_le hhb HNx.out.size
          clear hh hhc
          have i0 : ∀ w : World, (Instr.index 105 (.agg #[.int .i64 hA, .int .i64 hN]) (.int .i64 0)).run Tryz.prog w = .ok (.int .i64 hA) w := fun _ => by kernel_rfl
          have i1 : ∀ w : World, (Instr.index 105 (.agg #[.int .i64 hA, .int .i64 hN]) (.int .i64 1)).run Tryz.prog w = .ok (.int .i64 hN) w := fun _ => by kernel_rfl
          gi_wp2
          gi_loopw [30] (fun i wv => ∃ d : Nat, d ≤ 2 ∧ i = .int .i64 d ∧ Hid (J (heldK q ps k ++ waysK k ⟨hA, hN⟩ d) wv ∧ Below w0.heap.size w0 wv ∧ W.heap.size ≤ wv.heap.size)) (fun i _ => 2 - (intOf i).toNat)
          case atStart => exact ⟨0, by omega, rfl, by simp only [waysK, List.append_nil]; exact HJ2.out, HB2.out, HZ2.out⟩
          case round =>
            obtain ⟨d, hd, rfl, HD⟩ := hrel
            match d, hd, HD with
            | 0, _, HD =>
              by_cases hge : 1 ≤ hA
              · have HQ : Hid (heldK q ps k ++ waysK k ⟨hA, hN⟩ 0 ++ [⟨k, 0, hA⟩] = heldK q ps k ++ waysK k ⟨hA, hN⟩ (1)) := by
                  show _ = _
                  rw [List.append_assoc]
                  simp [waysK, hge]
                obtain ⟨fn, tmps, assign, body, hy, hR⟩ := hY _ ⟨k, 0, hA⟩ wr HD.out.1 (by have h1 := heldK_len q ps k; have h2 := waysK_len k ⟨hA, hN⟩ 0; rw [List.length_append]; omega)
                have HR : Hid (RoundIn Fence.wide (n - 1) Tryz.prog l fn tmps assign body wr fun e W' => ∃ g : Bool, e = .returned (.bool g) ∧ Hid ((g = true ∧ J (heldK q ps k ++ waysK k ⟨hA, hN⟩ (1)) W' ∧ Below w0.heap.size wr W') ∨ (g = false ∧ ∃ pre, Jx pre W'))) :=
                  hR.mono fun e W' h => h.elim (fun h => ⟨true, h.1, .inl ⟨rfl, by rw [← HQ.out]; exact h.2.1, h.2.2⟩⟩) (fun h => ⟨false, h.1, .inr ⟨rfl, _, h.2⟩⟩)
                simp only [encT] at hy
                clear hR
                gi_wp2_with (refine HR.out.mono ?_; rintro e w3 ⟨g, rfl, HG⟩; rcases HG.out with ⟨rfl, hJ3, hB3⟩ | ⟨rfl, hJx3⟩)
                · clear HG
                  gi_wp2
                  go_roundw
                  case rel => exact ⟨1, by omega, by go_num, hJ3, HD.out.2.1.trans hB3, Nat.le_trans HD.out.2.2 hB3.size⟩
                  case measure => simp [intOf]
                · clear HG
                  gi_wp2
                  refine bodyPost_ret (results_none rfl _ _ _) rfl ?_
                  exact ⟨⟨_, rfl⟩, .inr (by obtain ⟨p, h⟩ := hJx3; exact ⟨p, trivial, h⟩)⟩
              · have hge' : ¬ (1 : Int) ≤ hA := hge
                have HQ : Hid (waysK k ⟨hA, hN⟩ 0 = waysK k ⟨hA, hN⟩ (1)) := by
                  show _ = _
                  simp [waysK, hge]
                gi_wp2
                refine ⟨fun f h => (by cases h), ?_⟩
                gi_wp2
                go_roundw
                case rel => exact ⟨1, by omega, by go_num, by rw [← HQ.out]; exact HD.out⟩
                case measure => simp [intOf]
            | 1, _, HD =>
              by_cases hge : 1 ≤ hN
              · have HQ : Hid (heldK q ps k ++ waysK k ⟨hA, hN⟩ 1 ++ [⟨k, 1, hN⟩] = heldK q ps k ++ waysK k ⟨hA, hN⟩ (2)) := by
                  show _ = _
                  rw [List.append_assoc]
                  simp [waysK, hge]
                obtain ⟨fn, tmps, assign, body, hy, hR⟩ := hY _ ⟨k, 1, hN⟩ wr HD.out.1 (by have h1 := heldK_len q ps k; have h2 := waysK_len k ⟨hA, hN⟩ 1; rw [List.length_append]; omega)
                have HR : Hid (RoundIn Fence.wide (n - 1) Tryz.prog l fn tmps assign body wr fun e W' => ∃ g : Bool, e = .returned (.bool g) ∧ Hid ((g = true ∧ J (heldK q ps k ++ waysK k ⟨hA, hN⟩ (2)) W' ∧ Below w0.heap.size wr W') ∨ (g = false ∧ ∃ pre, Jx pre W'))) :=
                  hR.mono fun e W' h => h.elim (fun h => ⟨true, h.1, .inl ⟨rfl, by rw [← HQ.out]; exact h.2.1, h.2.2⟩⟩) (fun h => ⟨false, h.1, .inr ⟨rfl, _, h.2⟩⟩)
                simp only [encT] at hy
                clear hR
                gi_wp2_with (refine HR.out.mono ?_; rintro e w3 ⟨g, rfl, HG⟩; rcases HG.out with ⟨rfl, hJ3, hB3⟩ | ⟨rfl, hJx3⟩)
                · clear HG
                  gi_wp2
                  go_roundw
                  case rel => exact ⟨2, by omega, by go_num, hJ3, HD.out.2.1.trans hB3, Nat.le_trans HD.out.2.2 hB3.size⟩
                  case measure => simp [intOf]
                · clear HG
                  gi_wp2
                  refine bodyPost_ret (results_none rfl _ _ _) rfl ?_
                  exact ⟨⟨_, rfl⟩, .inr (by obtain ⟨p, h⟩ := hJx3; exact ⟨p, trivial, h⟩)⟩
              · have hge' : ¬ (1 : Int) ≤ hN := hge
                have HQ : Hid (waysK k ⟨hA, hN⟩ 1 = waysK k ⟨hA, hN⟩ (2)) := by
                  show _ = _
                  simp [waysK, hge]
                gi_wp2
                refine ⟨fun f h => (by cases h), ?_⟩
                gi_wp2
                go_roundw
                case rel => exact ⟨2, by omega, by go_num, by rw [← HQ.out]; exact HD.out⟩
                case measure => simp [intOf]
            | 2, _, HD =>
              gi_wp2
              go_roundw
              case rel => exact ⟨k + 1, by omega, by go_num, by rw [HS.out, HE.out]; exact HD.out.1, HD.out.2.1, HD.out.2.2⟩
              case measure => simp [intOf]; omega
        · have htg : (hl : Int) ≤ (q : Int) := by omega
          have q0 : (0 : Int) ≤ (q : Int) := by omega
          have HE : Hid (poolT q k ⟨v, f0, f1, hp, hl, hc, hss⟩ = []) := by
            show _ = _
            unfold poolT
            rw [if_neg]
            simp [hasAt]
            omega
          gi_wp2
          go_roundw
          case rel => exact ⟨k + 1, by omega, by go_num, by rw [HS.out, HE.out, List.append_nil]; exact HJ2.out, HB2.out, HZ2.out⟩
          case measure => simp [intOf]; omega
    · have e1 : ¬ (k : Int) < (m : Int) := by omega
      obtain rfl : k = m := by omega
      gi_wp2
      go_end0
      exact ⟨⟨_, rfl⟩, .inl hJs⟩
end Go.Proofs.YtfdanocpbhbieaaGreat
namespace Go.Proofs.YtfdanocpbhbieaaGreat
open Go.RowKit Go.Shelf
attribute [local go_sem] Oper.semAt_some

theorem rcells_snoc2 (l : List Tri) (x : Tri) : rcells (l ++ [x]) = rcells l ++ [.int .i64 x.a, .int .i64 x.b, .int .i64 x.n] := by simp [rcells, tric]
set_option maxRecDepth 100000 in
set_option maxHeartbeats 2000000 in
theorem appendR_in (n : Nat) (hn : 2 ≤ n) (g : Nat) (lb : Array Value) (eg : ∀ args w, (callFunc g args).run Tryz.prog w = .ok (.enter g args) w) (S Sp : List Tri → Prop) (N : Nat) (hN : N ≤ maxLen) (hNb : N * 24 ≤ 140737488355328) (w : World)
    (hseq : SeqStopsK Fence.wide (n - 1) Tryz.prog g lb encT (Below w.heap.size) S Sp N w) :
    CallsIn Fence.wide n Tryz.prog 123 #[.slice none 0 0, .func (.func g) #[] lb] w fun e w' => ∃ (v : Value) (ss : List Tri), e = .returned v ∧ S ss ∧ ss.length ≤ N ∧ w'.ownsRow w.heap.size 82 3 v ss.length (rcells ss) ∧ Below w.heap.size w w' := by
  have h1 : 1 ≤ n := by omega
  obtain ⟨i0, hi, hz0, hz1, hz2⟩ := info_parts right_info
  refine callsIn_of_wp_marks Tryz.func123 rfl trivial ?_ rfl
  simp only [Tryz.ntmps123, List.size_toArray, List.length_cons, List.length_nil, Nat.reduceAdd, Nat.reduceSub, Array.replicate_succ, Array.replicate_zero, List.push_toArray, List.append_toArray, List.nil_append, List.cons_append]
  gi_wp2
  have bO := Boxed.new w 60 (.slice none 0 0)
  have hB0 : Below w.heap.size w (w.alloc (.cells #[.slice none 0 0] 60)) := (Below.refl _ w).alloc (Nat.le_refl _) _
  refine wpIn_rangeFunc_ownH rfl h1 (gf := g) (lb := lb) rfl trivial eg hseq belowK_t (belowK_b (by simp)) hB0 (fun _ => rfl)
    (fun pre W => (∃ v, Boxed W w.heap.size 60 v ∧ W.ownsRow w.heap.size 82 3 v pre.length (rcells pre) ∧ pre.length ≤ N) ∧ Below w.heap.size w W)
    (fun _ _ _ => False)
    (OwnFrom.and (Own.from (holdsRow_own w.heap.size w.heap.size 60 82 3 (fun pre => pre.length) rcells (fun pre _ => pre.length ≤ N)) _) (ownFrom_below (Nat.le_refl _) (by simp)))
    (fun _ _ _ _ _ hs _ _ => hs)
    ⟨⟨_, bO, World.ownsRow_nil _ _ _ _, Nat.zero_le _⟩, hB0⟩
    (fun x a' W => ∃ Bx, W.heap[Bx]? = some (.cells #[.int .i64 x.a, .int .i64 x.b, .int .i64 x.n] 82 (0, 0)) ∧ a' = { tmps := #[.slice none 0 0, .func (.func g) #[] lb, .pointer (some ⟨w.heap.size, 0, none⟩), undef, .slice none 0 0, .pointer (some ⟨Bx, 0, none⟩), .func (.func g) #[] lb, .agg #[.int .i64 x.a, .int .i64 x.b, .int .i64 x.n], undef, undef, undef, undef, undef], defers := [] })
    (fun x a' s X Y row hs hg hr => by obtain ⟨Bx, h1, h2⟩ := hs; exact ⟨Bx, Own.from (cells_own Bx _ _ _) _ s X Y row h1 hg hr, h2⟩) ?assign ?body ?done ?stop
  case assign =>
    rintro l pre x W K ⟨⟨v, hv, hrow, hpn⟩, hB⟩ hK
    simp only [encT]
    gi_wp2
    exact hK _ _ ((KeepsOthers.alloc _ _).from _) ((Below.refl _ W).alloc hB.size _) ⟨⟨v, hv.alloc _, hrow.alloc _, hpn⟩, hB.alloc hB.size _⟩ ⟨W.heap.size, heap_alloc_new _ _, rfl⟩
  case body =>
    rintro l pre x a' W hl ⟨r, hr⟩ ⟨⟨v, hv, hrow, _⟩, hB⟩ ⟨Bx, hbx, rfl⟩ hlt
    have hc := hv.cell
    obtain ⟨e0, e1, e2⟩ := ac3 hbx
    gi_wp2_with (gi_at_builtin; refine wpListIn_append_own _ rfl _ _ 60 rfl w.heap.size 82 i0 (.agg #[.int .i64 0, .int .i64 0, .int .i64 0]) 3 24 Tryz.underlying60 hi hz0 hz1 hz2 rfl (by decide) _ _ _ rfl (hrow.alloc _) ⟨W.heap.size, 0, none⟩ 1 1 [.int .i64 x.a, .int .i64 x.b, .int .i64 x.n] rfl rfl (three_new _ _ _ _ _) (by simp [Value.oneCell']) (by omega) (by omega) (by have := hB.size; simp; omega) ?_; intro v' w1 hown' hgrow _; obtain ⟨g', cap', rfl⟩ := ownsRow_succ hown'; obtain ⟨hv1, hv2, hr2, hk2, hb2⟩ := hv.appended (by decide) hrow hB.size (Nat.le_refl _) hown' hgrow; have hc1 := hv1.cell; have hf1 := hv1.frozen)
    exact ⟨hk2.from _, hb2, ⟨_, hv2, by rw [rcells_snoc2, List.length_append]; exact hr2, by rw [List.length_append]; exact hlt⟩, hB.trans hb2⟩
  case done =>
    rintro D ys W hD hS ⟨⟨v, hv, hrow, hyn⟩, hB⟩ hK
    have hc := hv.cell
    gi_wp2
    refine ⟨by simp, .inl ⟨_, _, rfl, run_takeDeferred hK, ?_⟩⟩
    exact ⟨_, results_tmp rfl _ _ _, v, ys, rfl, hS, hyn, ownsRow_putObj hrow _ hK rfl, hB.trans (belowK_b (w := w) (Nat.le_refl _) W D _ _ (by simp at hD; omega) hK rfl rfl)⟩
  case stop =>
    rintro D c pre W _ _ h _
    exact h.elim

set_option maxHeartbeats 1000000 in
theorem collectR_in (n : Nat) (hn : 3 ≤ n) (g : Nat) (lb : Array Value) (eg : ∀ args w, (callFunc g args).run Tryz.prog w = .ok (.enter g args) w) (S Sp : List Tri → Prop) (N : Nat) (hN : N ≤ maxLen) (hNb : N * 24 ≤ 140737488355328) (w : World)
    (hseq : SeqStopsK Fence.wide (n - 1 - 1) Tryz.prog g lb encT (Below w.heap.size) S Sp N w) :
    CallsIn Fence.wide n Tryz.prog 86 #[.func (.func g) #[] lb] w fun e w' => ∃ (v : Value) (ss : List Tri), e = .returned v ∧ S ss ∧ ss.length ≤ N ∧ w'.ownsRow w.heap.size 82 3 v ss.length (rcells ss) ∧ Below w.heap.size w w' := by
  have h1 : 1 ≤ n := by omega
  refine callsIn_of_wp Tryz.func86 rfl trivial ?_ rfl
  simp only [Tryz.ntmps86, List.size_toArray, List.length_cons, List.length_nil, Nat.reduceAdd, Nat.reduceSub, Array.replicate_succ, Array.replicate_zero, List.push_toArray, List.append_toArray, List.nil_append, List.cons_append]
  gi_wp2_with (refine ⟨trivial, ?_⟩; gi_at_call 123; refine (appendR_in (n - 1) (by omega) g lb eg S Sp N hN hNb _ hseq).mono ?_; rintro e w' ⟨v, ss, rfl, hS, hle, hrow, hb⟩)
  go_ret
  exact ⟨v, ss, rfl, hS, hle, hrow, hb⟩

set_option maxRecDepth 100000 in
set_option maxHeartbeats 1000000 in
theorem holdings_in (n : Nat) (s : Sta) (t : Int) (w : World) :
    CallsIn Fence.wide n Tryz.prog 87 #[.agg s.arr, .int .i64 t] w fun e w' => e = .returned (.func (.func 124) #[] #[.pointer (some ⟨w.heap.size, 0, none⟩), .pointer (some ⟨w.heap.size + 1, 0, none⟩)]) ∧ w' = (w.alloc (.cells s.arr 51)).alloc (.cells #[.int .i64 t] 3) := by
  show CallsIn Fence.wide n Tryz.prog 87 #[.agg #[.int .u64 s.pos, .slice s.pp s.pn s.pc, .slice s.rp s.rn s.rc, .slice s.lp s.ln s.lc, .slice s.gp s.gn s.gc, .slice s.op s.on s.oc], .int .i64 t] w _
  refine callsIn_of_wp Tryz.func87 rfl trivial ?_ rfl
  simp only [Tryz.ntmps87, List.size_toArray, List.length_cons, List.length_nil, Nat.reduceAdd, Nat.reduceSub, Array.replicate_succ, Array.replicate_zero, List.push_toArray, List.append_toArray, List.nil_append, List.cons_append]
  gi_wp2
  go_ret
  exact ⟨rfl, rfl⟩
theorem hold_stops (n : Nat) (hn : 2 ≤ n) (Bs Bt : Nat) (t : Int) (s : Sta) (w : World) (hs : StaOk w s) (hpn : s.pn ≤ 4194304) (hhl : ∀ p ∈ s.pools, p.hl ≤ 4194304) (hBsl : Bs < w.heap.size) (hBs : w.cell? ⟨Bs, 1, none⟩ = some (.slice s.pp s.pn s.pc)) (hBtl : Bt < w.heap.size) (hBt : w.cell? ⟨Bt, 0, none⟩ = some (.int .i64 t)) :
    SeqStopsK Fence.wide n Tryz.prog 124 #[.pointer (some ⟨Bs, 0, none⟩), .pointer (some ⟨Bt, 0, none⟩)] encT (Below w.heap.size) (fun ys => ys = heldK t s.pools s.pn) (fun _ => True) (2 * s.pn) w := fun l J Jx W hW hJ _ hY h0 =>
  hold1_in n hn l w Bs Bt t s hs hpn hhl hBsl hBs hBtl hBt J Jx hY W hJ hW h0
set_option maxRecDepth 100000 in
set_option maxHeartbeats 4000000 in
theorem bheld_any (w : World) (s : Sta) (hs : StaOk w s) (hpn : s.pn ≤ 4194304) (hhl : ∀ p ∈ s.pools, p.hl ≤ 4194304) (t : Int) :
    Calls Tryz.prog 46 #[.agg s.arr, .int .i64 t] w fun e w' => ∃ v, e = .returned v ∧ w'.ownsRow w.heap.size 82 3 v (heldK t s.pools s.pn).length (rcells (heldK t s.pools s.pn)) ∧ Below w.heap.size w w' := by
  show Calls Tryz.prog 46 #[.agg #[.int .u64 s.pos, .slice s.pp s.pn s.pc, .slice s.rp s.rn s.rc, .slice s.lp s.ln s.lc, .slice s.gp s.gn s.gc, .slice s.op s.on s.oc], .int .i64 t] w _
  have h9 : 1 ≤ 9 := by omega
  refine (callsIn_wide (n := 9)).1 ?_
  obtain ⟨w1, hw1⟩ : ∃ w1, w.alloc (.cells #[.int .u64 s.pos, .slice s.pp s.pn s.pc, .slice s.rp s.rn s.rc, .slice s.lp s.ln s.lc, .slice s.gp s.gn s.gc, .slice s.op s.on s.oc] 51) = w1 := ⟨_, rfl⟩
  have HB1 : Hid (Below w.heap.size w w1) := by show Below _ _ _; rw [← hw1]; exact (Below.refl _ _).alloc (Nat.le_refl _) _
  have hg1 : w1.heap[w.heap.size]? = some (.cells #[.int .u64 s.pos, .slice s.pp s.pn s.pc, .slice s.rp s.rn s.rc, .slice s.lp s.ln s.lc, .slice s.gp s.gn s.gc, .slice s.op s.on s.oc] 51 (0, 0)) := by rw [← hw1]; exact heap_alloc_new _ _
  obtain ⟨c0, c1, c2, c3, c4, c5⟩ := ac6 hg1
  obtain ⟨w3, hw3⟩ : ∃ w3, (w1.alloc (.cells #[.int .u64 s.pos, .slice s.pp s.pn s.pc, .slice s.rp s.rn s.rc, .slice s.lp s.ln s.lc, .slice s.gp s.gn s.gc, .slice s.op s.on s.oc] 51)).alloc (.cells #[.int .i64 t] 3) = w3 := ⟨_, rfl⟩
  have HB3 : Hid (Below w1.heap.size w1 w3) := by show Below _ _ _; rw [← hw3]; exact ((Below.refl _ _).alloc (Nat.le_refl _) _).alloc (by simp) _
  have HB03 : Hid (Below w.heap.size w w3) := HB1.out.trans (HB3.out.mono HB1.out.size)
  have hcs : w3.cell? ⟨w1.heap.size, 1, none⟩ = some (.slice s.pp s.pn s.pc) := by rw [← hw3]; simp
  have hct : w3.cell? ⟨w1.heap.size + 1, 0, none⟩ = some (.int .i64 t) := by rw [← hw3]; simp
  have hsz : w3.heap.size = w1.heap.size + 2 := by rw [← hw3]; simp
  have HHo : Hid (∀ n, CallsIn Fence.wide n Tryz.prog 87 #[.agg #[.int .u64 s.pos, .slice s.pp s.pn s.pc, .slice s.rp s.rn s.rc, .slice s.lp s.ln s.lc, .slice s.gp s.gn s.gc, .slice s.op s.on s.oc], .int .i64 t] w1 fun e w' => e = .returned (.func (.func 124) #[] #[.pointer (some ⟨w1.heap.size, 0, none⟩), .pointer (some ⟨w1.heap.size + 1, 0, none⟩)]) ∧ w' = (w1.alloc (.cells #[.int .u64 s.pos, .slice s.pp s.pn s.pc, .slice s.rp s.rn s.rc, .slice s.lp s.ln s.lc, .slice s.gp s.gn s.gc, .slice s.op s.on s.oc] 51)).alloc (.cells #[.int .i64 t] 3)) := fun n => holdings_in n s t w1
  have HCo := hide (collectR_in 8 (by omega) 124 #[.pointer (some ⟨w1.heap.size, 0, none⟩), .pointer (some ⟨w1.heap.size + 1, 0, none⟩)] (enters_of Tryz.func124 (by kernel_rfl) rfl) _ _ (2 * s.pn) (by unfold maxLen; omega) (by omega) w3 (hold_stops 6 (by omega) w1.heap.size (w1.heap.size + 1) t s w3 (hs.below HB03.out) hpn hhl (by omega) hcs (by omega) hct))
  have HW1 := hide hw1
  have HW3 := hide hw3
  have HSz : Hid (w.heap.size ≤ w3.heap.size) := HB03.out.size
  clear hw1 hw3 hcs hct hsz hg1
  refine callsIn_of_wp Tryz.func46 rfl trivial ?_ rfl
  simp only [Tryz.ntmps46, List.size_toArray, List.length_cons, List.length_nil, Nat.reduceAdd, Nat.reduceSub, Array.replicate_succ, Array.replicate_zero, List.push_toArray, List.append_toArray, List.nil_append, List.cons_append]
  gi_wp2_with (first | (refine ⟨trivial, ?_⟩; gi_at_call 87; (first | rw [HW1.out] | skip); refine (HHo.out _).mono ?_; rintro e w' ⟨rfl, hw'⟩; rw [HW3.out] at hw'; subst hw') | (refine ⟨trivial, ?_⟩; gi_at_call 86; refine HCo.out.mono ?_; rintro e w5 ⟨v, ss, rfl, hss, _, hrow, hb5⟩))
  go_ret
  subst hss
  exact ⟨v, rfl, owns_mono hrow HSz.out, HB03.out.trans (hb5.mono HB03.out.size)⟩
end Go.Proofs.YtfdanocpbhbieaaGreat
