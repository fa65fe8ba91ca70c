import Derived.Test.YtllpikijakilnaaRwM
import Derived.Test.YtllpikijakilnaaNdU
import Derived.Lib.QuietBelow
import Derived.Shelf.RegionOpenPlain
import Derived.BigQuiet
namespace Go.Proofs.Ytllpikijakilnaa
open Go.RowKit Go.Shelf Go.Sort
attribute [local go_sem] Oper.semAt_some

/-- What a tally holds of a kind. -/
def lkD (D : DataW Unit) (k : Int × Int) : Int := numD (D.atKey (klit k) (.lit (.int .i64 0)))
/-- How much MergeClamp takes. -/
def cutN (amt f : Int) : Int := max (min amt (max f 0)) (wrap64 (-(max f 0)))
def takeN (s : Sta) (D : DataW Unit) (k : Int × Int) (amt : Int) : Int :=
  cutN amt (wrap64 (wrap64 (s.free k.1 k.2 - lkD D k) + lkD D (k.1, wrap64 (1 - k.2))))
theorem map_kept {w w' : World} {M n : Nat} {D : DataW Unit} (h : w.ownsMap Try.prog 71 (plainElem (H := Unit) Try.prog 2) M n D) (hb : w'.heap[M]? = w.heap[M]?) : w'.ownsMap Try.prog 71 (plainElem (H := Unit) Try.prog 2) M n D := by
  obtain ⟨es, ck, h1, h2⟩ := h
  exact ⟨es, ck, hb.trans h1, h2⟩
theorem look_kind {w : World} {M n : Nat} {D : DataW Unit} (h : w.ownsMap Try.prog 71 (plainElem (H := Unit) Try.prog 2) M n D) (x : K64) :
    (Instr.lookup 66 (.map (some M)) (.agg #[.int .i64 x.1.1, .int .i64 x.1.2]) false).run Try.prog w = .ok (.int .i64 (lkD D x.1)) w := by
  obtain ⟨c, hlook, hat, hwc⟩ := h.lookup_int kind_keyed Try.underlying66 Try.underlying2 (Try.zeroValue2 _) (kind_mk x)
  have e : lkD D x.1 = c := by unfold lkD; rw [hat]; rfl
  rw [e]
  exact hlook
theorem map_lt {w : World} {M n : Nat} {D : DataW Unit} (h : w.ownsMap Try.prog 71 (plainElem (H := Unit) Try.prog 2) M n D) : M < w.heap.size := h.lt
theorem grown_below {w w' : World} (hb : Below w.heap.size w w') (r : Option Nat) : w.grownBy w' r := ⟨hb.os, hb.tape, hb.output, hb.size, fun k hk _ => hb.block k hk⟩
theorem grown_trans {A B C : World} {r : Option Nat} (h1 : A.grownBy B r) (h2 : B.grownBy C r) : A.grownBy C r := ⟨h2.os.trans h1.os, h2.tape.trans h1.tape, h2.output.trans h1.output, Nat.le_trans h1.size h2.size, fun k hk hn => (h2.block k (Nat.lt_of_lt_of_le hk h1.size) hn).trans (h1.block k hk hn)⟩

set_option maxRecDepth 100000 in
set_option maxHeartbeats 4000000 in
theorem take_gen (w : World) (s : Sta) (hs : StaOk w s) (S T M n : Nat) (D : DataW Unit) (hS : w.heap[S]? = some (.cells s.arr 32 (0, 0))) (hT : w.heap[T]? = some (.cells #[.map (some M)] 66 (0, 0))) (hm : w.ownsMap Try.prog 71 (plainElem (H := Unit) Try.prog 2) M n D) (hn : n < maxLen) (x : K64) (amt : Int) :
    Calls Try.prog 89 #[.agg #[.int .i64 x.1.1, .int .i64 x.1.2], .int .i64 amt, .pointer (some ⟨S, 0, none⟩), .pointer (some ⟨T, 0, none⟩)] w fun e w' => e = .returned (.int .i64 (takeN s D x.1 amt)) ∧ w'.ownsMap Try.prog 71 (plainElem (H := Unit) Try.prog 2) M (n + 1) (bumpD D x.1 (takeN s D x.1 amt)) ∧ w.grownBy w' (some M) := by
  have hmx : Try.prog.follows .mixedOrders = true := by kernel_rfl
  obtain ⟨w2, hw2, hb2, hk2⟩ := box_one w #[.int .i64 x.1.1, .int .i64 x.1.2] 71
  have hS2 := (hb2.block S (ac_lt hS)).trans hS
  have hT2 := (hb2.block T (ac_lt hT)).trans hT
  have hm2 := map_kept hm (hb2.block M (map_lt hm))
  have hs2 := hs.below hb2
  obtain ⟨y, hy⟩ : ∃ y : K64, y = ⟨(x.1.1, wrap64 (1 - x.1.2)), x.2.1, wrap64_wf _⟩ := ⟨_, rfl⟩
  have hmG : ∀ d os, (grow (redrawn w2 d) os).ownsMap Try.prog 71 (plainElem (H := Unit) Try.prog 2) M n D := fun d os => map_kept hm2 ((below_regrown w2 d os).block M (map_lt hm2))
  have l1 := fun d os => look_kind (hmG d os) x
  have l2 := fun d os => look_kind (hmG d os) y
  rw [hy] at l2
  obtain ⟨c0, c1, c2, c3, c4, c5⟩ := ac6 hS2
  obtain ⟨k0, k1⟩ := ac2 hk2
  have t0 : w2.cell? ⟨T, 0, none⟩ = some (.map (some M)) := by simp [World.cell?, hT2]
  have r0 := cell_regrown c0
  have r1 := cell_regrown c1
  have r2 := cell_regrown c2
  have r3 := cell_regrown c3
  have r4 := cell_regrown c4
  have r5 := cell_regrown c5
  have u0 := cell_regrown k0
  have u1 := cell_regrown k1
  have u2 := cell_regrown t0
  have HFr := hide (fun d os => Calls.regrown_of (w := w2) (d := d) (os := os) (free_gen (grow (redrawn w2 d) os) s (hs2.below (below_regrown w2 d os)) x.1.1 x.1.2))
  have HOt := hide (fun d os => Calls.regrown_of (w := w2) (d := d) (os := os) (other_any (grow (redrawn w2 d) os) x.1.1 x.1.2))
  have HCu : Hid (∀ d os b, Calls Try.prog 90 #[.int .i64 amt, .int .i64 b] (grow (redrawn w2 d) os) fun e w'' => e = .returned (.int .i64 (cutN amt b)) ∧ ∃ p : Regrown, w'' = grow (redrawn w2 p.d) p.os) := fun d os b => (cutN_any _ amt b).mono fun _ _ ⟨he, hw⟩ => ⟨he, ⟨d, os⟩, hw⟩
  have HW2 := hide hw2
  have HB2 := hide hb2
  have HK2 := hide hk2
  have HT2 := hide hT2
  have HM2 := hide hm2
  obtain ⟨A, hA⟩ : ∃ A, takeN s D x.1 amt = A := ⟨_, rfl⟩
  have HA := hide hA
  rw [hA]
  obtain ⟨fr, hfr⟩ : ∃ fr, s.free x.1.1 x.1.2 = fr := ⟨_, rfl⟩
  obtain ⟨la, hla⟩ : ∃ la, lkD D x.1 = la := ⟨_, rfl⟩
  obtain ⟨lb, hlb⟩ : ∃ lb, lkD D (x.1.1, wrap64 (1 - x.1.2)) = lb := ⟨_, rfl⟩
  have HAe : Hid (A = cutN amt (wrap64 (wrap64 (fr - la) + lb))) := by show _ = _; rw [← hA, ← hfr, ← hla, ← hlb]; rfl
  have HLa := hide hla
  rw [hfr] at HFr
  rw [hla] at l1
  simp only [hlb] at l2
  clear hw2 hb2 hk2 hS hS2 hT hT2 hm hm2 hs hs2 hmG hA hfr hla hlb hy c0 c1 c2 c3 c4 c5 k0 k1 t0
  go_enter Try.func89, Try.ntmps89
  go_upto_region 1 with (fail)
  rw [HW2.out]
  refine wp_region_quiet_below (by kernel_rfl) (by kernel_rfl) ?_
  repeat (go_big_quiet_step (first | (go_at_call 29; exact HFr.out _ _) | (go_at_call 91; exact HOt.out _ _) | (go_at_call 90; exact HCu.out _ _ _)))
  refine wpQuiet_nil ?_
  intro _ hw'
  obtain ⟨⟨dq, osq⟩, hw''⟩ := hw'
  obtain ⟨w3, hw3⟩ : ∃ w3, grow (redrawn w2 dq) osq = w3 := ⟨_, rfl⟩
  have hw4 := (hw''.trans hw3).symm
  subst hw4
  have hb3 : Below w2.heap.size w2 w3 := by rw [← hw3]; exact below_regrown w2 dq osq
  rw [← HAe.out]
  have hm3 := map_kept HM2.out (hb3.block M (map_lt HM2.out))
  have hT3 := (hb3.block T (ac_lt HT2.out)).trans HT2.out
  have hk3 := (hb3.block _ (ac_lt HK2.out)).trans HK2.out
  obtain ⟨k0, k1⟩ := ac2 hk3
  have t0 : w3.cell? ⟨T, 0, none⟩ = some (.map (some M)) := by simp [World.cell?, hT3]
  have hlook := look_kind (World.ownsMap.drew hm3) x
  rw [HLa.out] at hlook
  obtain ⟨v0, st, w4, hent, hst⟩ := owns_entry (World.ownsMap.drew hm3) hn x
  have hlook1 := owns_entry_look (World.ownsMap.drew hm3) hn x (c := la) hlook hent
  obtain ⟨w5, hsto, hown5, hg5⟩ := hst (wrap64 (la + A)) (wrap64_wf _)
  simp only [kv] at hent hlook1
  rw [← wrap_eq] at hsto
  have HF : Hid (w5.ownsMap Try.prog 71 (plainElem (H := Unit) Try.prog 2) M (n + 1) (bumpD D x.1 A) ∧ w.grownBy w5 (some M)) := by
    refine ⟨?_, grown_trans (grown_below HB2.out _) (grown_trans (grown_below hb3 _) (grown_of_drew hg5))⟩
    unfold bumpD
    rw [show numD (D.atKey (klit x.1) (.lit (.int .i64 0))) = la from HLa.out]
    exact hown5
  clear hst hown5 hg5 hm3 hT3 hk3 hb3 hw3 hw'' HFr HOt HCu HAe l1 l2 r0 r1 r2 r3 r4 r5 u0 u1 u2
  go_upto_region 2 with (fail)
  go_region_with_o (fail)
  all_goals go_wp2
  all_goals go_ret
  all_goals exact ⟨rfl, HF.out⟩
end Go.Proofs.Ytllpikijakilnaa
