import Derived.Test.YtlpafgjgoheomaaCopyI
import Derived.Test.YtlpafgjgoheomaaSafeM
namespace Go.Proofs.Ytlpafgjgoheomaa
open Go.RowKit Go.Maps Go.WideAt Go.WideShapes

theorem lit1 (w : World) (a : Nat) (h : a < 256) (fr : Nat × Nat) : Bytes (w.alloc (.cells #[.int .u8 a] 5 fr)) (some ⟨w.heap.size, 0, none⟩) [a] := by
  refine ⟨fun u hu => ?_, Or.inr ⟨w.heap.size, 0, rfl, by simp, fun j hj => ?_⟩⟩
  · simp at hu; omega
  · simp at hj
    subst hj
    have key : ∀ (w3 : World) (g : Nat), w3.heap[g]? = some (.cells #[.int .u8 a] 5 fr) → w3.cell? ⟨g, 0 + 0, none⟩ = some (.int .u8 (([a].getD 0 0 : Nat) : Int)) := fun w3 g hb => by simp [World.cell?, hb]
    exact key _ _ (heap_alloc_new w (.cells #[.int .u8 a] 5 fr))
/-- The append of DiskAgain. -/
def fOp (g : Nat) : Opm := ⟨⟨1, 0, [102, 105, 114, 115, 116], [], [49]⟩, 0, some ⟨g, 0, none⟩, 1, 0, 0, 0, none, 0, 0⟩
theorem first_len (g : Nat) : ((St.new 16777216).play (fOp g).x).2.image.length = 1 := by
  show ((St.new 16777216).play (⟨1, 0, [102, 105, 114, 115, 116], [], [49]⟩ : Opx)).2.image.length = 1
  decide +kernel

theorem L1.other {W w w' : World} {K K' : Knd} {d : Nat} {S : St} {k : Nat} {bx : Obj} (h : L1 W w K d S k bx) (hk : Kp (Ow 2) K K' w w') : L1 W w' K' d S k bx :=
  have hl := lt_of_block h.box
  ⟨h.dk.kept hk (fun k => by simp), h.inv, h.sz, fun b hb => (hk.same b (Nat.lt_of_lt_of_le hb h.bel.size)).trans (h.old b hb), hk.below h.bel (fun b hb => by rw [h.old b hb]; simp), (hk.block _ hl (by rw [h.kbx]; simp)).trans h.box, (hk.same _ hl).trans h.kbx⟩
/-- Two disks, the second one loaded. -/
structure L2 (W w : World) (K : Knd) (d : Nat) (S : St) (k : Nat) (r : Nat) (R : St) (m : Nat) (bx : Obj) : Prop where
  one : L1 W w K d S k bx
  dk : Dk w K 2 r R
  inv : Inv R
  sz : Sz R m
theorem L2.below {W w w' : World} {K : Knd} {d : Nat} {S : St} {k r : Nat} {R : St} {m : Nat} {bx : Obj} (h : L2 W w K d S k r R m bx) (hb : Below w.heap.size w w') : L2 W w' (ext K w.heap.size (0, 0)) d S k r R m bx :=
  ⟨h.one.below hb, h.dk.kept (kp_below hb (fun _ => False) K (0, 0)) (fun _ h => h), h.inv, h.sz⟩
theorem L2.drewN {W w : World} {K : Knd} {d : Nat} {S : St} {k r : Nat} {R : St} {m : Nat} {bx : Obj} (h : L2 W w K d S k r R m bx) (n : Nat) : L2 W (w.drewN n) K d S k r R m bx :=
  ⟨h.one.drewN n, h.dk.kept ((Kp.refl (fun _ => False) K w).drewN n) (fun _ h => h), h.inv, h.sz⟩
theorem L2.played {W w w' : World} {K K' : Knd} {d : Nat} {S : St} {k r : Nat} {R R' : St} {m m' : Nat} {bx : Obj} (h : L2 W w K d S k r R m bx) (hd : Dk w' K' 2 r R') (hv : Inv R') (hz : Sz R' m') (hk : Kp (Ow 2) K K' w w') : L2 W w' K' d S k r R' m' bx :=
  ⟨h.one.other hk, hd, hv, hz⟩

/-- What a crash leaves can be loaded. -/
theorem before_nil {x : Nm} (h : isNm x = true) : bytesBefore [] x = true := by
  cases x with
  | nil => have := (nm_len h).1; simp at this
  | cons a l => rfl
theorem crash_ok {S : St} (hv : Inv S) (hp : Past S) (ps : List Int) {r : Nat} (ht : S.tot ≤ r) : okB (S.crash ps) r = true := by
  have hnm : ∀ p ∈ S.crash ps, isNm p.1 = true := fun p hp => by
    unfold St.crash at hp
    obtain ⟨i, hi, rfl⟩ := List.mem_mapIdx.1 hp
    exact (left_in hv ps _ (List.getElem_mem hi)).2
  have hs : (S.crash ps).Pairwise fun p q => bytesBefore p.1 q.1 = true := by
    have h := left_srt hv ps
    unfold Srt at h
    rw [List.pairwise_iff_getElem] at h ⊢
    intro i j hi hj hij
    have := h i j (by rw [crash_len] at hi; exact hi) (by rw [crash_len] at hj; exact hj) hij
    simpa [St.crash] using this
  unfold okB
  rw [chn_of hnm hs [] (fun p hp => before_nil (hnm p hp)), decide_eq_true (by rw [crash_len]; exact hp.most _), decide_eq_true (show sumI (S.crash ps) ≤ r from Nat.le_trans (crash_tot hv hp ps) ht)]
  rfl
theorem crash_nm {S : St} (hv : Inv S) (ps : List Int) : ∀ p ∈ S.crash ps, p.1.length ≤ 140737488355328 := fun p hp => by
  unfold St.crash at hp
  obtain ⟨i, hi, rfl⟩ := List.mem_mapIdx.1 hp
  have := (nm_len (left_in hv ps _ (List.getElem_mem hi)).2).2
  show ((S.leftN ps)[i]).1.length ≤ _
  omega

end Go.Proofs.Ytlpafgjgoheomaa
