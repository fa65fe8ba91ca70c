import Derived.Test.YtecbidaljchmoaaRqF
namespace Go.Proofs.Ytecbidaljchmoaa
open Go.RowKit

theorem SlOwn.grown {α : Type} {B B' : Nat} {w w' : World} {e t : TypeId} {sz s n : Nat} {f : α → List Value} {sl : Sli α} {v : Value} {ys : List Value} (h : SlOwn B w e sz f sl) (hown : w.ownsRow B' t s v n ys) (ht : t ≠ e) (hg : w.grownBy w' v.ownBlock) : SlOwn B w' e sz f sl :=
  ⟨owns_grown h.1 hg (fun g e1 e' => by
    rcases owns_two hown h.1 ht with e2 | e2
    · rw [e2] at e'; cases e'
    · exact e2 (by rw [← e', e1])), h.2⟩
theorem EnOwn.grown {B B' : Nat} {w w' : World} {e : Eda} {v : Value} {n : Nat} {ys : List Value} (h : EnOwn B w e) (hown : w.ownsRow B' 82 22 v n ys) (hg : w.grownBy w' v.ownBlock) : EnOwn B w' e :=
  ⟨⟨h.ac.lines.grown hown (by decide) hg, h.ac.guards.grown hown (by decide) hg, h.ac.sets.grown hown (by decide) hg, h.ac.other.grown hown (by decide) hg, h.ac.rights.grown hown (by decide) hg⟩, h.made.grown hown (by decide) hg, h.sets.grown hown (by decide) hg⟩
/-- Entries of one's own. -/
structure Ecp (B : Nat) (w : World) (v : Value) (es : List Eda) : Prop where
  row : w.ownsRow B 82 22 v es.length (flat Eda.list es)
  each : ∀ e ∈ es, EnOwn B w e
theorem ecp_nil (B : Nat) (w : World) : Ecp B w (.slice none 0 0) [] := ⟨World.ownsRow_nil _ _ _ _, fun e h => by simp at h⟩
theorem ecp_append {B : Nat} {wr w2 : World} {v : Value} {es : List Eda} (y : Eda) (ty : TypeId) (hI : Ecp B wr v es) (hl : es.length ≤ 1073741824) (hB : B ≤ wr.heap.size) (hb2 : Below wr.heap.size wr w2) (hy : EnOwn wr.heap.size w2 y) (A : Array Value) (hA : y.arr = A) :
    ∃ v' w4, (Builtin.append_ #[26, 26] ty #[v, .slice (some ⟨w2.heap.size, 0, none⟩) 1 1]).run Try.prog (w2.alloc (.cells A 82)) = .ok v' w4 ∧ Ecp B w4 v' (es ++ [y]) ∧ wr.grownBy w4 v.ownBlock := by
  obtain ⟨w3, hw3⟩ : ∃ w3, w2.alloc (.cells A 82) = w3 := ⟨_, rfl⟩
  have hb3 : Below wr.heap.size wr w3 := by rw [← hw3]; exact hb2.alloc hb2.size _
  have hn3 : Below w2.heap.size w2 w3 := by rw [← hw3]; exact (Below.refl _ w2).alloc (Nat.le_refl _) _
  have hcel : Cel w3 (some ⟨w2.heap.size, 0, none⟩) 22 ([y].map Eda.list) := by rw [← hw3]; exact cel_one (by rw [← hA]; rfl)
  rw [hw3]
  have hro := owns_keep hI.row hb3
  have hsz : B ≤ w3.heap.size := Nat.le_trans hB hb3.size
  obtain ⟨v', w4, hr, ho, hg, _⟩ := elt_entry.run_append w3 ty B es.length v (flat Eda.list es) hro (some ⟨w2.heap.size, 0, none⟩) 1 1 [y] rfl hcel (by omega) hsz
  have ho' : w4.ownsRow B 82 22 v' (es ++ [y]).length (flat Eda.list (es ++ [y])) := by
    rw [List.length_append, flat_app]; exact ho
  refine ⟨v', w4, hr, ⟨ho', fun e he => ?_⟩, ?_⟩
  · refine EnOwn.grown ?_ hro hg
    rcases List.mem_append.1 he with h1 | h1
    · exact (hI.each e h1).below hb3
    · simp at h1; subst h1; exact (hy.below hn3).le hB
  · exact ⟨hg.os.trans hb3.os, hg.tape.trans hb3.tape, hg.output.trans hb3.output, Nat.le_trans hb3.size hg.size, fun k hk hne => (hg.block k (Nat.lt_of_lt_of_le hk hb3.size) hne).trans (hb3.block k hk)⟩
theorem below_grown {w0 w w' : World} {n s : Nat} {t : TypeId} {v : Value} {ys : List Value} (hb : Below w0.heap.size w0 w) (ho : w.ownsRow w0.heap.size t s v n ys) (hg : w.grownBy w' v.ownBlock) : Below w0.heap.size w0 w' := hb.grown hg hb.size (fun k e => owns_base ho k e)

set_option maxRecDepth 100000 in
set_option maxHeartbeats 4000000 in
theorem copyEntries_any (w : World) (s : Sli Eda) (hs : Ents w s) :
    Calls Try.prog 24 #[.slice s.p s.n s.c] w fun r w' => ∃ v es, r = .returned v ∧ Ecp w.heap.size w' v es ∧ es.map Eda.d = s.xs.map Eda.d ∧ Below w.heap.size w w' := by
  obtain ⟨p, n, c, xs⟩ := s
  have hlen : xs.length = n := hs.row.len
  have hmost : n ≤ 4194304 := hs.row.most
  have HC := hide hs.row.cel
  have HE := hide hs.each
  clear hs
  simp only at HC HE ⊢
  go_enter Try.func24, Try.ntmps24
  go_wp2
  go_loopw [3, 4] (fun l i wr => ∃ k : Nat, k ≤ n ∧ i = .int .i64 k ∧ Hid (∃ es, Ecp w.heap.size wr l es ∧ es.map Eda.d = (xs.take k).map Eda.d ∧ Below w.heap.size w wr)) (fun _ i _ => n - (intOf i).toNat)
  case atStart => exact ⟨0, Nat.zero_le _, rfl, [], ecp_nil _ _, rfl, Below.refl _ _⟩
  case round =>
    obtain ⟨k, hk, rfl, HI⟩ := hrel
    obtain ⟨es, hI, hd, hbw⟩ := HI.out
    obtain ⟨la, lc, rfl, hlc⟩ := slice_form hI.row
    have hel : es.length = k := by
      have := congrArg List.length hd
      simp at this
      omega
    by_cases hlt : k < n
    · obtain ⟨x, hx⟩ : ∃ x, xs[k]? = some x := ⟨_, List.getElem?_eq_getElem (by omega)⟩
      have hlt' : (k : Int) < (n : Int) := by omega
      obtain ⟨b, o, e, hb, hcl⟩ := HC.out.get (i := k) (r := x.list) (by simp [hx])
      subst e
      have f : ∀ i v, x.list[i]? = some v → wr.cell? ⟨b, o + k * 22 + i, none⟩ = some v := fun i v hv => (hbw.cell (p := ⟨b, o + k * 22 + i, none⟩) hb).trans (hcl i v hv)
      obtain ⟨A, hA⟩ : ∃ A, x.arr = A := ⟨_, rfl⟩
      have HL1 : Hid ((Instr.loadAt 82 (.pointer (some ⟨b, o + k * 22, none⟩))).run Try.prog wr = .ok (.agg A) wr) := by
        show _ = _
        rw [← hA]
        exact run_loadAt_mid (P := Try.prog) wr b (o + k * 22) 82 x.list _ f Try.underlying82 rfl Try.sizeE
      have HCe := hide (copyEntry_any wr x ((HE.out x (List.mem_of_getElem? hx)).below hbw) A hA)
      have HX := hide hx
      have HD := hide hd
      have HB := hide hbw
      have HII := hide hI
      have HEl := hide hel
      have hlc2 : es.length ≤ lc := hlc
      clear hcl f hx hA hbw HI hd hI
      clear hel hlc
      go_wp2_with (
        first
        | ((with_reducible show wpList _ _ _ (⟨_, .load 82 (.tmp 14), _, _, _, _⟩ :: _) _ _); refine lp_load b (o + k * 22) A rfl HL1.out ?_)
        | (go_at_call 32; refine HCe.out.mono ?_; rintro r w2 ⟨y, rfl, hyd, hyo, hb2⟩; obtain ⟨E, hE⟩ : ∃ E, y.arr = E := ⟨_, rfl⟩; rw [hE]; have HEs : Hid (E.size = 22) := (by show _ = _; rw [← hE]; rfl); obtain ⟨v', w4, hr, hI4, hg4⟩ := ecp_append y 26 HII.out (by have := HEl.out; omega) HB.out.size hb2 hyo E hE; have HR := hide hr; have HI4 := hide hI4; have HG4 := hide hg4; have HYd := hide hyd; clear hr hI4 hg4 hyd hyo hE hb2)
        | ((with_reducible show wpList _ _ _ (⟨_, .buildSlice 26 _ _, _, _, _, _⟩ :: _) _ _); refine lp_build_one rfl 26 82 (.tmp 16) rfl E rfl 22 (by omega) (by omega) Try.underlying26 info_Entry HEs.out ?_)
        | (at_builtin; refine lp_append (.slice la es.length lc) (.slice (some ⟨w2.heap.size, 0, none⟩) 1 1) rfl rfl ⟨v', w4, HR.out, ?_⟩))
      go_roundw
      case rel =>
        refine ⟨k + 1, by omega, by go_num, es ++ [y], HI4.out, ?_, below_grown HB.out HII.out.row HG4.out⟩
        rw [List.map_append, take_snoc HX.out, List.map_append, HD.out, List.map_singleton, HYd.out, List.map_singleton]
      case measure => simp [intOf]; omega
    · obtain rfl : k = n := by omega
      rw [List.take_of_length_le (by omega)] at hd
      have HR := hide (And.intro hI (And.intro hd hbw))
      clear hI hd hbw HI
      go_wp2
      go_ret
      exact ⟨_, es, rfl, HR.out.1, HR.out.2.1, HR.out.2.2⟩
end Go.Proofs.Ytecbidaljchmoaa
