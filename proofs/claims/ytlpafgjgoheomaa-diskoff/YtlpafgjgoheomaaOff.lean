import Derived.Test.YtlpafgjgoheomaaOffP
import Derived.Test.YtlpafgjgoheomaaFull
namespace Go.Proofs.Ytlpafgjgoheomaa
open Go.RowKit Go.Maps

set_option maxRecDepth 100000 in
set_option maxHeartbeats 2000000 in
theorem gone_any (w : World) (K : Knd) (d : Nat) (S : St) (h : Dk w K 2 d S) (hv : Inv S) (k : Nat) (hz : Sz S k) (hk : k ≤ 274877906944) (hoff : S.off = true) (oa : Option Addr) (N oc : Nat) (fo : List Opm) (ho : Opk w K oa N oc fo) (hN : N ≤ 200) (hqs : ∀ q ∈ fo, 1 ≤ q.x.kind ∧ q.x.kind ≤ 6 ∧ q.x.b.length ≤ 4096) :
    Calls Try.prog 32 #[.pointer (some ⟨d, 0, none⟩), .slice oa N oc] w fun e w' => ∃ K', e = .returned (.bool true) ∧ Dk w' K' 2 d S ∧ Kp (Ow 2) K K' w w' := by
  have HD := hide h
  have HV := hide hv
  have HZ := hide hz
  have HO := hide ho
  have HOf := hide hoff
  have HQs := hide hqs
  clear h hv hz ho hoff hqs
  go_enter Try.func32, Try.ntmps32
  go_wp2
  go_loopw [5] (fun i wr => ∃ (j : Nat) (K' : Knd), j ≤ N ∧ i = .int .i64 (j : Int) ∧ Hid (Dk wr K' 2 d S) ∧ Hid (Kp (Ow 2) K K' w wr)) (fun i _ => N - (intOf i).toNat)
  case atStart => exact ⟨0, K, Nat.zero_le _, rfl, HD, Kp.refl _ _ _⟩
  case round =>
    obtain ⟨j, K', hj, rfl, HDj, HKj⟩ := hrel
    clear HD
    by_cases hlt : j < N
    · have hlt' : (j : Int) < (N : Int) := by omega
      have hj0 : (0 : Int) ≤ (j : Int) := by omega
      have HOj := hide (HO.out.kept HKj.out (by simp))
      obtain ⟨q, hq⟩ : ∃ q, fo[j]? = some q := ⟨_, List.getElem?_eq_getElem (by rw [HOj.out.len]; exact hlt)⟩
      have hqm := List.mem_of_getElem? hq
      obtain ⟨g, o, hoa, hg, c0, c1, c2, c3, c4, c5, c6, c7, c8, c9⟩ := (owns_ops HOj.out.row.own).at hq
      have HQ := hide (HQs.out q hqm)
      have HPl := hide (play_any wr K' 2 d (by omega) S HDj.out HV.out k HZ.out q (HOj.out.ok q hqm) (by have := HQ.out.2.2; omega))
      rw [play_gone HOf.out q.x ⟨HQ.out.1, HQ.out.2.1⟩] at HPl
      have k1 : (1 : Int) ≤ q.x.kind := HQ.out.1
      have k6 : q.x.kind ≤ (6 : Int) := HQ.out.2.1
      subst hoa
      unfold opc at HPl
      clear hq
      go_wp2_with fail
      refine HPl.out.mono ?_
      rintro e w2 ⟨K2, rfl, hd2, hk2⟩
      have HD2 := hide hd2
      have HK2 := hide (HKj.out.trans hk2)
      clear hd2 hk2
      go_wp2
      go_roundw
      case rel => exact ⟨j + 1, K2, by omega, by go_num, HD2, HK2⟩
      case measure => simp [intOf]; omega
    · obtain rfl : j = N := by omega
      have HPn := hide (Plan_any wr K' 2 d S HDj.out 0 0 0)
      rw [plan_gone HOf.out] at HPn
      go_wp2_with fail
      refine HPn.out.mono ?_
      rintro e w2 ⟨K2, rfl, hd2, hk2⟩
      have HAp := hide (Append_any w2 K2 2 d S hd2 k [97] (by simp) none 0 0 [] rfl ⟨HV.out, HZ.out, by simp; omega, ⟨fun _ h => (by cases h), Or.inl rfl⟩, Or.inl rfl, Or.inl rfl⟩)
      rw [show S.appendR [97] [] = (45, S) by unfold St.appendR; rw [if_pos HOf.out]] at HAp
      have HK2 := hide (HKj.out.trans hk2)
      clear hd2 hk2
      go_wp2_with fail
      refine HAp.out.mono ?_
      rintro e w3 ⟨K3, rfl, hd3, hk3⟩
      have HD3 := hide hd3
      have HK3 := hide (HK2.out.trans hk3)
      clear hd3 hk3
      go_wp2_with fail
      refine (num_any _ 45).mono ?_
      rintro e w4 ⟨rfl, rfl⟩
      go_wp2
      go_ret
      exact ⟨K3, rfl, HD3.out, HK3.out⟩

def nOp : Opm := ⟨⟨4, 0, [], [], []⟩, 0, none, 0, 0, 0, 0, none, 0, 0⟩
theorem opvs_two (ops : List Opm) (p q : Opm) : opvs (ops ++ [p, q]) = opvs ops ++ (opc p ++ opc q) := by simp [opvs]
/-- The steps, with the last two. -/
theorem ops_end2 {W w5 w6 w7 : World} {K5 : Knd} {oa : Option Addr} {N oc g' cap' : Nat} {fo : List Opm} (hB5 : Below W.heap.size W w5) (hK : ∀ x, x < W.heap.size + 1 → K5 x = (0, 0)) (hB6 : Below w5.heap.size w5 w6) (hR6 : w6.ownsRow w5.heap.size 57 10 (.slice oa N oc) N (opvs fo)) (hN : fo.length = N) (hFo : ∀ q ∈ fo, OpOk W K0 q)
    (ho : w7.ownsRow w5.heap.size 57 10 (.slice (some ⟨g', 0, none⟩) (N + 2) cap') (N + 2) (opvs fo ++ (opc nOp ++ opc (zOp w6.heap.size)))) (hg : ((w6.alloc (.cells #[.int .u8 101, .int .u8 110, .int .u8 100] 5 (3, 4))).alloc (.cells (opc nOp ++ opc (zOp w6.heap.size)).toArray 57)).grownBy w7 (Value.slice oa N oc).ownBlock) :
    Below w5.heap.size w5 w7 ∧ Opk w7 (ext K5 w5.heap.size (0, 0)) (some ⟨g', 0, none⟩) (N + 2) cap' (fo ++ [nOp, zOp w6.heap.size]) := by
  have hs6 := hB6.size
  have hs5 := hB5.size
  have hown : ∀ g2, (Value.slice oa N oc).ownBlock = some g2 → w5.heap.size ≤ g2 ∧ g2 < w6.heap.size := fun g2 e => by
    have h1 := rk_lt hR6 e
    rcases hR6.2 with ⟨e1, _⟩ | ⟨g3, _, _, e1, e2, _⟩
    · rw [e1] at e; simp [Value.ownBlock] at e
    · rw [e1] at e; simp [Value.ownBlock] at e; omega
  have hB7 : Below w5.heap.size w5 w7 := ((hB6.alloc hs6 _).alloc (by simp; omega) _).grown hg (by simp; omega) (fun g2 e => (hown g2 e).1)
  have hsz := hg.size
  have hkp : Kp (fun _ => False) K0 (ext K5 w5.heap.size (0, 0)) W w7 := ⟨(hB5.trans (hB7.mono hs5)).os, (hB5.trans (hB7.mono hs5)).tape, (hB5.trans (hB7.mono hs5)).output, (hB5.trans (hB7.mono hs5)).size, fun b hb => by rw [ext_old _ _ (by omega), hK b (by omega)], fun b hb _ => (hB5.trans (hB7.mono hs5)).block b hb⟩
  have hlt : w6.heap.size < w7.heap.size := by
    have : ((w6.alloc (.cells #[.int .u8 101, .int .u8 110, .int .u8 100] 5 (3, 4))).alloc (.cells (opc nOp ++ opc (zOp w6.heap.size)).toArray 57)).heap.size = w6.heap.size + 2 := by simp
    omega
  have hblk : w7.heap[w6.heap.size]? = (w6.alloc (.cells #[.int .u8 101, .int .u8 110, .int .u8 100] 5 (3, 4))).heap[w6.heap.size]? :=
    (hg.block w6.heap.size (by simp; omega) (fun e => by have := hown _ e.symm; omega)).trans (Below.heap_alloc _ _ _ (by simp))
  refine ⟨hB7, ⟨⟨by rw [opvs_two]; exact ho.1, ?_⟩, fun g e => ?_⟩, by simp [hN], fun q hq => ?_⟩
  · rw [opvs_two]
    refine ho.2.imp id ?_
    rintro ⟨g, cap, cur, h1, _, r⟩
    exact ⟨g, cap, cur, h1, Nat.zero_le _, r⟩
  · refine ext_new _ _ ?_
    rcases ho.2 with ⟨e1, _⟩ | ⟨g2, _, _, e1, e2, _⟩
    · rw [e1] at e; simp [Value.ownBlock] at e
    · rw [e1] at e; simp [Value.ownBlock] at e; omega
  · rcases List.mem_append.1 hq with e | e
    · exact (hFo q e).kept (p := fun _ => False) hkp (fun h => h)
    · simp only [List.mem_cons, List.not_mem_nil, or_false] at e
      rcases e with e | e
      · subst e
        exact ⟨by simp [nOp], by simp [nOp], by simp [nOp], ⟨fun _ h => (by cases h), Or.inl rfl⟩, Or.inl rfl, by simp [nOp]⟩
      subst e
      refine ⟨by simp [zOp], by simp [zOp], by simp [zOp], ?_, Or.inr (fun g o e => ?_), by simp [zOp]⟩
      · exact bytes_kept (lit3 w6 101 110 100 (by decide) (3, 4)) (by simp; omega) (fun g o e hg2 => by cases e; exact hblk)
      · cases e; exact ⟨ext_new _ _ hs6, hlt⟩

end Go.Proofs.Ytlpafgjgoheomaa
