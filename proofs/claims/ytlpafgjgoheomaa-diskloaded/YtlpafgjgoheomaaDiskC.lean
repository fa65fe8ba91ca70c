import Derived.Test.YtlpafgjgoheomaaDiskB
namespace Go.Proofs.Ytlpafgjgoheomaa
open Go.RowKit Go.Maps

theorem Try.infoCh : (Try.prog.info? 77).map (fun i => (i.zero, i.size, i.bytes)) = some (some (.agg #[.string ⟨#[]⟩, .string ⟨#[]⟩, .pointer none]), 3, 40) := by kernel_rfl

theorem Dm.turnG {p : Nat × Nat → Prop} {K K' : Knd} {w w' : World} {o d : Nat} {loc : Nat → Nat} {sv nv cv sv' nv' cv' : Value} {S S' : St} (h : Dm w K o d loc sv nv cv S) (hk : Kp p K K' w w') (hp : ∀ k, p k → ∃ j, j ≤ 4 ∧ k = (o, j))
    (hb : w'.heap[d]? = some (.cells (dcells S' sv' nv' cv') 82 (0, 0))) (sf : Mk w' K' (o, 2) sv' (mapN loc S'.safe)) (sn : Mk w' K' (o, 3) nv' (mapN loc S'.seen)) (ch : Rk w' K' (o, 4) 77 3 cv' S'.chg.length (chvs loc S'.chg)) (e4 : S'.files = S.files) :
    Dm w' K' o d loc sv' nv' cv' S' := by
  have np : ∀ k, 5 ≤ k → ¬ p (o, k) := fun k hk5 hpk => by
    obtain ⟨j, hj, e⟩ := hp _ hpk
    simp at e; omega
  exact ⟨hb, (hk.same d h.lt).trans h.kd, sf, sn, ch, fun i f hf => (h.fl i f (by rw [← e4]; exact hf)).kept hk ⟨np _ (by omega), np _ (by omega), np _ (by omega)⟩⟩

theorem Kp.alloc {p : Nat × Nat → Prop} {K K' : Knd} {w w' : World} (h : Kp p K K' w w') (ob : Obj) : Kp p K K' w (w'.alloc ob) :=
  ⟨h.os, h.tape, h.output, Nat.le_trans h.size (by simp), h.same, fun b hb hn => (Below.heap_alloc _ _ _ (Nat.lt_of_lt_of_le hb h.size)).trans (h.block b hb hn)⟩
theorem Kp.grown {p : Nat × Nat → Prop} {K K' : Knd} {w w1 w2 : World} {r : Option Nat} (h : Kp p K K' w w1) (k : w1.grownBy w2 r) (hr : ∀ g, r = some g → w.heap.size ≤ g ∨ p (K g)) : Kp p K K' w w2 :=
  ⟨k.os.trans h.os, k.tape.trans h.tape, k.output.trans h.output, Nat.le_trans h.size k.size, h.same, fun b hb hn => (k.block b (Nat.lt_of_lt_of_le hb h.size) (fun e => by
    rcases hr b e.symm with h1 | h1
    · omega
    · exact hn h1)).trans (h.block b hb hn)⟩
theorem mk_cong {w : World} {K K' : Knd} {k : Nat × Nat} {v : Value} {l : List (Nm × Nat)} (h : Mk w K k v l) (hk : ∀ b, b < w.heap.size → K' b = K b) : Mk w K' k v l :=
  ⟨h.mp, fun b hb => (hk b (h.mp.lt hb)).trans (h.kind b hb)⟩
/-- A map's block is no row's and no cells'. -/
theorem mk_set {w : World} {K : Knd} {k : Nat × Nat} {v : Value} {l : List (Nm × Nat)} (h : Mk w K k v l) {d i : Nat} {u : Value} {C : Array Value} {t : TypeId} {fr : Nat × Nat} (hd : w.heap[d]? = some (.cells C t fr)) : Mk (w.setCell ⟨d, i, none⟩ u) K k v l :=
  ⟨h.mp.same (fun b hb => Below.heap_setCell _ _ _ _ (by rintro rfl; exact h.mp.ne hd hb.symm)), h.kind⟩
theorem rk_set {w : World} {K : Knd} {k : Nat × Nat} {e : TypeId} {s n : Nat} {v : Value} {xs : List Value} (h : Rk w K k e s v n xs) {d i : Nat} {u : Value} {C : Array Value} {t : TypeId} {fr : Nat × Nat} (hd : w.heap[d]? = some (.cells C t fr)) (ht : t ≠ e) : Rk (w.setCell ⟨d, i, none⟩ u) K k e s v n xs :=
  ⟨owns_set h.own (owns_ne h.own hd ht), h.kind⟩

/-- Behind 'd.seen = d.seen.with(c)'. -/
theorem seen_turned {w w2 : World} {K : Knd} {o d b : Nat} {loc : Nat → Nat} {sv nv cv : Value} {S : St} {c : Chg} {ob : Obj} (h : Dm w K o d loc sv nv cv S) (hm : Mp w2 (.map (some b)) (withN (mapN loc S.seen) (lc loc c))) (hg : (w.alloc ob).drew.grownBy w2 (mblk nv)) (hat : some b = mblk nv ∨ w.heap.size + 1 ≤ b) :
    Dm (w2.setCell ⟨d, 2, none⟩ (.map (some b))) (ext K w.heap.size (o, 3)) o d loc sv (.map (some b)) cv { S with seen := withN S.seen c } ∧ Kp (fun k => k = (o, 1) ∨ k = (o, 3)) K (ext K w.heap.size (o, 3)) w (w2.setCell ⟨d, 2, none⟩ (.map (some b))) := by
  have k0 : Kp (fun k => k = (o, 1) ∨ k = (o, 3)) K (ext K w.heap.size (o, 3)) w w := ⟨rfl, rfl, rfl, Nat.le_refl _, fun _ hb => ext_old K _ hb, fun _ _ _ => rfl⟩
  have k1 := ((k0.alloc ob).drew).grown hg (fun g e => Or.inr (Or.inr (h.sn.kind g e)))
  have hdb : w2.heap[d]? = some (.cells (dcells S sv nv cv) 82 (0, 0)) := (hg.block d (by have := h.lt; simp; omega) (h.sn.mp.ne h.blk)).trans ((Below.heap_alloc _ _ _ h.lt).trans h.blk)
  have k2 := k1.setCell (b := d) (Or.inr (Or.inl h.kd)) 2 (.map (some b))
  have kk : Kp (fun k => k = (o, 3)) K (ext K w.heap.size (o, 3)) w w2 := ((Kp.alloc (p := fun k => k = (o, 3)) (K' := ext K w.heap.size (o, 3)) ⟨rfl, rfl, rfl, Nat.le_refl _, fun _ hb => ext_old K _ hb, fun _ _ _ => rfl⟩ ob).drew).grown hg (fun g e => Or.inr (h.sn.kind g e))
  refine ⟨h.turnG k2 (fun k hk => ?_) ?_ ?_ ?_ ?_ rfl, k2⟩
  · rcases hk with e | e
    · exact ⟨1, by omega, e⟩
    · exact ⟨3, by omega, e⟩
  · rw [block_set hdb]; rfl
  · exact mk_set (h.sf.kept kk (by simp)) hdb
  · refine mk_set ⟨by rw [mapN_with]; exact hm, fun g e => ?_⟩ hdb
    simp [mblk] at e
    subst e
    rcases hat with h1 | h1
    · rw [ext_old K _ (h.sn.mp.lt h1.symm)]; exact h.sn.kind _ h1.symm
    · exact ext_new K _ (by omega)
  · exact rk_set (h.ch.kept kk (by simp)) hdb (by decide)

/-- Behind 'd.changes = append(d.changes, c)'. -/
theorem chg_turned {w w2 : World} {K : Knd} {o d g cap : Nat} {loc : Nat → Nat} {sv nv cv : Value} {S : St} {c : Chg} {ob : Obj} (h : Dm w K o d loc sv nv cv S)
    (ho : w2.ownsRow 0 77 3 (.slice (some ⟨g, 0, none⟩) (S.chg.length + 1) cap) (S.chg.length + 1) (chvs loc S.chg ++ chv loc c)) (hg : (w.alloc ob).drew.grownBy w2 cv.ownBlock) (hat : cv.ownBlock = some g ∨ w.heap.size ≤ g) :
    Dm (w2.setCell ⟨d, 3, none⟩ (.slice (some ⟨g, 0, none⟩) (S.chg.length + 1) cap)) (ext K w.heap.size (o, 4)) o d loc sv nv (.slice (some ⟨g, 0, none⟩) (S.chg.length + 1) cap) { S with chg := S.chg ++ [c] } ∧ Kp (fun k => k = (o, 1) ∨ k = (o, 4)) K (ext K w.heap.size (o, 4)) w (w2.setCell ⟨d, 3, none⟩ (.slice (some ⟨g, 0, none⟩) (S.chg.length + 1) cap)) := by
  have k0 : Kp (fun k => k = (o, 1) ∨ k = (o, 4)) K (ext K w.heap.size (o, 4)) w w := ⟨rfl, rfl, rfl, Nat.le_refl _, fun _ hb => ext_old K _ hb, fun _ _ _ => rfl⟩
  have k1 := ((k0.alloc ob).drew).grown hg (fun g e => Or.inr (Or.inr (h.ch.kind g e)))
  have hdb : w2.heap[d]? = some (.cells (dcells S sv nv cv) 82 (0, 0)) := (hg.block d (by have := h.lt; simp; omega) (owns_ne h.ch.own h.blk (by decide))).trans ((Below.heap_alloc _ _ _ h.lt).trans h.blk)
  have k2 := k1.setCell (b := d) (Or.inr (Or.inl h.kd)) 3 (.slice (some ⟨g, 0, none⟩) (S.chg.length + 1) cap)
  have kk : Kp (fun k => k = (o, 4)) K (ext K w.heap.size (o, 4)) w w2 := ((Kp.alloc (p := fun k => k = (o, 4)) (K' := ext K w.heap.size (o, 4)) ⟨rfl, rfl, rfl, Nat.le_refl _, fun _ hb => ext_old K _ hb, fun _ _ _ => rfl⟩ ob).drew).grown hg (fun g e => Or.inr (h.ch.kind g e))
  refine ⟨h.turnG k2 (fun k hk => ?_) ?_ ?_ ?_ ?_ rfl, k2⟩
  · rcases hk with e | e
    · exact ⟨1, by omega, e⟩
    · exact ⟨4, by omega, e⟩
  · rw [block_set hdb]; rfl
  · exact mk_set (h.sf.kept kk (by simp)) hdb
  · exact mk_set (h.sn.kept kk (by simp)) hdb
  · refine rk_set ⟨?_, fun g' e => ?_⟩ hdb (by decide)
    · rw [chvs_app]
      simpa using ho
    · simp [Value.ownBlock] at e
      subst e
      rcases hat with h1 | h1
      · rw [ext_old K _ (rk_lt h.ch.own h1)]; exact h.ch.kind _ h1
      · exact ext_new K _ h1

set_option maxRecDepth 100000 in
set_option maxHeartbeats 2000000 in
theorem rename_any (w : World) (K : Knd) (o d : Nat) (loc : Nat → Nat) (sv nv cv : Value) (S : St) (h : Dm w K o d loc sv nv cv S) (c : Chg) (fp : Option Addr) (hfp : fp = if c.to = [] then none else some ⟨loc c.file, 0, none⟩) (h1 : c.frm.length ≤ 64) (h2 : c.to.length ≤ 64) (hl : S.seen.length < 1099511627776) (hc : S.chg.length < 1099511627776) :
    Calls Try.prog 38 #[.pointer (some ⟨d, 0, none⟩), .agg #[.string ⟨c.frm.toArray⟩, .string ⟨c.to.toArray⟩, .pointer fp]] w fun e w' => ∃ nv' cv' K', e = .returned (.tuple #[]) ∧ Dm w' K' o d loc sv nv' cv' (S.ren c) ∧ Kp (fun k => k.1 = o) K K' w w' := by
  obtain ⟨i0, hi, hz0, hz1, hz2⟩ := info_parts Try.infoCh
  have HD := hide h
  have hb := h.blk
  unfold dcells at hb
  have HB := hide hb
  obtain ⟨q0, q1, q2, q3, q4, q5, q6, q7, q8, q9, qf⟩ := blk10 hb
  have hbl := lt_of_block hb
  obtain ⟨ca, cc, hcv, _, _⟩ := h.ch.form
  subst hcv
  have HFp := hide hfp
  have HC := hide hc
  have HBx : Hid ((w.alloc (.cells #[.string ⟨c.frm.toArray⟩, .string ⟨c.to.toArray⟩, .pointer fp] 77)).heap[w.heap.size]? = some (.cells #[.string ⟨c.frm.toArray⟩, .string ⟨c.to.toArray⟩, .pointer fp] 77 (0, 0))) := heap_alloc_new _ _
  have HW := hide (with_any (w.alloc (.cells #[.string ⟨c.frm.toArray⟩, .string ⟨c.to.toArray⟩, .pointer fp] 77)).drew nv (mapN loc S.seen) (lc loc c) (.pointer fp) (fun hne => by rw [hfp, if_neg (show ¬ c.to = [] from hne)]; rfl) (h.sn.mp.same (fun b hb => Below.heap_alloc _ _ _ (h.sn.mp.lt hb))) h1 h2 (by rw [mapN_len]; exact hl) ⟨_, rfl⟩)
  have HNd : Hid (some w.heap.size ≠ mblk nv) := hide (fun e => by have := h.sn.mp.lt e.symm; omega)
  have HWl : Hid ((w.alloc (.cells #[.string ⟨c.frm.toArray⟩, .string ⟨c.to.toArray⟩, .pointer fp] 77)).drew.heap.size = w.heap.size + 1) := by show _ = _; simp [World.drew]
  rw [show lc loc c = ⟨c.frm, c.to, loc c.file⟩ from rfl] at HW
  simp only at HW
  have HE : Hid ([.string ⟨c.frm.toArray⟩, .string ⟨c.to.toArray⟩, .pointer fp] = chv loc c) := by show _ = _; unfold chv; rw [hfp]
  clear h hb hfp h1 h2 hl hc
  generalize hsA : (⟨c.frm.toArray⟩ : ByteArray) = sA at *
  generalize hsB : (⟨c.to.toArray⟩ : ByteArray) = sB at *
  clear hsA hsB
  go_enter Try.func38, Try.ntmps38
  go_wp2
  go_region_law (first | (go_simp; go_at_call 48; refine HW.out.mono ?_; rintro e w2 ⟨b, rfl, hmp, hgr, hat⟩; have HT := hide (seen_turned HD.out hmp hgr (by rw [HWl.out] at hat; exact hat)); have HX : Hid (w2.heap[w.heap.size]? = _) := (hgr.block w.heap.size (by rw [HWl.out]; omega) HNd.out).trans HBx.out; obtain ⟨x0, x1, x2, xf⟩ := blk3 HX.out; have hdb : w2.heap[d]? = _ := (hgr.block d (by rw [HWl.out]; omega) (HD.out.sn.mp.ne HD.out.blk)).trans ((Below.heap_alloc _ _ _ hbl).trans HB.out); obtain ⟨y0, y1, y2, y3, y4, y5, y6, y7, y8, y9, yf⟩ := blk10 hdb; have hd2 := lt_of_block hdb; have hx2 := lt_of_block HX.out; clear hmp hgr hat hdb))
  all_goals
    have n1 : ¬ d = w.heap.size := by omega
    have n2 : ¬ w.heap.size = d := by omega
    have HD2 := hide HT.out.1
    have HK2 := hide HT.out.2
    have hw3 : (w2.setCell ⟨d, 2, none⟩ (.map (some b))).heap[d]? = some (.cells #[.int .i64 (S.room : Int), sv, .map (some b), .slice ca S.chg.length cc, .int .i64 (S.strokes : Int), .int .i64 S.pOff, .int .i64 S.pFrom, .int .i64 S.pTo, .int .i64 (S.planned : Int), .bool S.off] 82 (0, 0)) := HD2.out.blk
    have hx3 : (w2.setCell ⟨d, 2, none⟩ (.map (some b))).heap[w.heap.size]? = _ := (Below.heap_setCell _ _ _ _ n2).trans HX.out
    generalize w2.setCell ⟨d, 2, none⟩ (.map (some b)) = w3 at *
    have HB3 := hide hw3
    obtain ⟨t0, t1, t2, t3, t4, t5, t6, t7, t8, t9, tf⟩ := blk10 hw3
    obtain ⟨p0, p1, p2, pf⟩ := blk3 hx3
    have hd3 := lt_of_block hw3
    have hx4 := lt_of_block hx3
    have HNe : Hid (some d ≠ (Value.slice ca S.chg.length cc).ownBlock) := owns_ne HD2.out.ch.own hw3 (by decide)
    clear hw3 hx3 y0 y1 y2 y3 y4 y5 y6 y7 y8 y9 yf x0 x1 x2 xf q0 q1 q2 q3 q4 q5 q6 q7 q8 q9 qf
    go_wp2
    go_region_law ((refine step_append_lies _ (by rfl) (.tmp 17) (.tmp 19) 80 (by rfl) 0 77 i0 (.agg #[.string ⟨#[]⟩, .string ⟨#[]⟩, .pointer none]) 3 40 Try.underlying80 hi hz0 hz1 hz2 rfl (by omega) (.slice ca S.chg.length cc) S.chg.length (chvs loc S.chg) (by rfl) ((HD2.out.ch.own.alloc _).drew) ⟨w3.heap.size, 0, none⟩ 1 1 [.string sA, .string sB, .pointer fp] (by rfl) rfl (World.news_of_block (heap_alloc_new w3 (.cells #[.string sA, .string sB, .pointer fp] 77))) (by simp [Value.oneCell']) (by omega) (by have := HC.out; unfold maxLen; omega) (by have := HC.out; omega) (by omega) _ rfl ?_; intro g' cap' w4 hown4 hgrow4 hat4 hltg; have HT4 := hide (chg_turned HD2.out (c := c) (by rw [← HE.out]; exact hown4) hgrow4 (by rcases hat4 with h | h; exact Or.inl h; right; simp at h; omega)); have hdb : w4.heap[d]? = _ := (hgrow4.block d (by simp; omega) HNe.out).trans ((Below.heap_alloc _ _ _ hd3).trans HB3.out); obtain ⟨y0, y1, y2, y3, y4, y5, y6, y7, y8, y9, yf⟩ := blk10 hdb; have hd4 := lt_of_block hdb; clear hdb hown4 hgrow4 hat4))
    all_goals go_wp2
    all_goals
      go_end0
      exact ⟨rfl, _, _, _, HT4.out.1, (HK2.out.mono (fun k hk => by rcases hk with e | e <;> (subst e; rfl))).trans (HT4.out.2.mono (fun k hk => by rcases hk with e | e <;> (subst e; rfl)))⟩

end Go.Proofs.Ytlpafgjgoheomaa
