import Derived.Test.YtlpafgjgoheomaaDiskC
import Derived.Laws.CopyRow
namespace Go.Proofs.Ytlpafgjgoheomaa
open Go.RowKit Go.Maps

theorem zCh (w : World) : (zeroValue 77).run Try.prog w = .ok (.agg #[.string ⟨#[]⟩, .string ⟨#[]⟩, .pointer none]) w := by kernel_rfl

theorem clear_row {w : World} {a : Option Addr} {n c : Nat} {xs : List Value} (h : w.ownsRow 0 77 3 (.slice a n c) n xs) (ty : TypeId) :
    ∃ w', (Builtin.clear_ #[80] ty #[.slice a n c]).run Try.prog w = .ok (.tuple #[]) w' ∧ w'.ownsRow 0 77 3 (.slice a 0 c) 0 [] ∧ w.grownBy w' (Value.slice a n c).ownBlock := by
  rcases h.2 with ⟨h1, h2⟩ | ⟨g, cap, cur, h1, _, hg, h3, h4, h5, h6⟩
  · cases h1
    exact ⟨w, by simp [Builtin.clear_, run_underlying Try.underlying80], ⟨rfl, Or.inl ⟨rfl, rfl⟩⟩, ⟨rfl, rfl, rfl, Nat.le_refl _, fun _ _ _ => rfl⟩⟩
  · cases h1
    by_cases h0 : n = 0
    · subst h0
      exact ⟨w, by simp [Builtin.clear_, run_underlying Try.underlying80], ⟨rfl, Or.inr ⟨g, c, cur, rfl, Nat.zero_le _, hg, Nat.zero_le _, h4, h5, by simp⟩⟩, ⟨rfl, rfl, rfl, Nat.le_refl _, fun _ _ _ => rfl⟩⟩
    · obtain ⟨vs, hvs⟩ : ∃ vs, (Builtin.zeroCells (Value.agg #[.string ⟨#[]⟩, .string ⟨#[]⟩, .pointer none]).cells n).toList = vs := ⟨_, rfl⟩
      have hl : vs.length = n * 3 := by rw [← hvs, Array.length_toList, size_zeroCells]; rfl
      have ho : ∀ v ∈ vs, v.oneCell' = true := by
        intro v hv
        rw [← hvs] at hv
        simp only [Builtin.zeroCells, Array.toList_map, List.mem_map] at hv
        obtain ⟨j, _, rfl⟩ := hv
        have h3' : j % 3 = 0 ∨ j % 3 = 1 ∨ j % 3 = 2 := by omega
        show (#[Value.string ⟨#[]⟩, .string ⟨#[]⟩, .pointer none][j % 3]!).oneCell' = true
        rcases h3' with e | e | e <;> rw [e] <;> rfl
      have hr := run_storeCells_at (P := Try.prog) g 0 77 vs 0 cur w hg (by rw [hl, h5]; simp; exact Nat.mul_le_mul_right _ h3) ho
      refine ⟨w.setRow g (List.take (0 + 0) cur.toList ++ vs ++ List.drop (0 + 0 + vs.length) cur.toList).toArray, ?_, ⟨rfl, Or.inr ⟨g, c, _, rfl, Nat.zero_le _, setRow_heap w g cur _ _ _ hg, Nat.zero_le _, h4, ?_, by simp⟩⟩, ⟨rfl, rfl, rfl, by simp, fun k _ hk => setRow_other w g k _ (fun e => hk (by simp [Value.ownBlock, e]))⟩⟩
      · simp only [Nat.zero_add, List.take_zero, List.nil_append] at hr ⊢
        have hn0 : ∃ m, n = m + 1 := ⟨n - 1, by omega⟩
        obtain ⟨m, rfl⟩ := hn0
        simp [Builtin.clear_, run_underlying Try.underlying80, hvs, Result.andThen, hr]
      · simp [hl, h5]
        have := Nat.mul_le_mul_right 3 h3
        omega

/-- Behind 'd.safe = d.safe.with(c)'. -/
theorem safe_turned {w wq w2 : World} {K : Knd} {o d b : Nat} {loc : Nat → Nat} {sv nv cv : Value} {S : St} {c : Chg} (h : Dm w K o d loc sv nv cv S) (hq : Below w.heap.size w wq) (hm : Mp w2 (.map (some b)) (withN (mapN loc S.safe) (lc loc c))) (hg : wq.grownBy w2 (mblk sv)) (hat : some b = mblk sv ∨ w.heap.size ≤ b) :
    Dm (w2.setCell ⟨d, 1, none⟩ (.map (some b))) (ext K w.heap.size (o, 2)) o d loc (.map (some b)) nv cv { S with safe := withN S.safe c } ∧ Kp (fun k => k = (o, 1) ∨ k = (o, 2)) K (ext K w.heap.size (o, 2)) w (w2.setCell ⟨d, 1, none⟩ (.map (some b))) := by
  have k1 := (kp_below hq (fun k => k = (o, 1) ∨ k = (o, 2)) K (o, 2)).grown hg (fun g e => Or.inr (Or.inr (h.sf.kind g e)))
  have hdb : w2.heap[d]? = some (.cells (dcells S sv nv cv) 82 (0, 0)) := (hg.block d (Nat.lt_of_lt_of_le h.lt hq.size) (h.sf.mp.ne h.blk)).trans ((hq.block d h.lt).trans h.blk)
  have k2 := k1.setCell (b := d) (Or.inr (Or.inl h.kd)) 1 (.map (some b))
  have kk : Kp (fun k => k = (o, 2)) K (ext K w.heap.size (o, 2)) w w2 := (kp_below hq (fun k => k = (o, 2)) K (o, 2)).grown hg (fun g e => Or.inr (h.sf.kind g e))
  refine ⟨h.turnG k2 (fun k hk => ?_) ?_ ?_ ?_ ?_ rfl, k2⟩
  · rcases hk with e | e
    · exact ⟨1, by omega, e⟩
    · exact ⟨2, by omega, e⟩
  · rw [block_set hdb]; rfl
  · refine mk_set ⟨by rw [mapN_with]; exact hm, fun g e => ?_⟩ hdb
    simp [mblk] at e
    subst e
    rcases hat with h1 | h1
    · rw [ext_old K _ (h.sf.mp.lt h1.symm)]; exact h.sf.kind _ h1.symm
    · exact ext_new K _ h1
  · exact mk_set (h.sn.kept kk (by simp)) hdb
  · exact rk_set (h.ch.kept kk (by simp)) hdb (by decide)

theorem len_with (l : List (Nm × Nat)) (c : Chg) : (withN l c).length ≤ l.length + 1 := by
  unfold withN
  split
  · exact Nat.le_succ_of_le (len_del _ _)
  · unfold putN
    rw [len_ins]
    have h1 := len_del c.to (delN c.frm l)
    have h2 := len_del c.frm l
    omega
theorem len_fold (l : List (Nm × Nat)) (cs : List Chg) : (cs.foldl withN l).length ≤ l.length + cs.length := by
  induction cs generalizing l with
  | nil => simp
  | cons c cs ih =>
    have h1 := ih (withN l c)
    have h2 := len_with l c
    simp only [List.foldl_cons, List.length_cons]; omega
/-- The changes' cells. -/
theorem chg_cells {w : World} {a : Option Addr} {n c : Nat} {loc : Nat → Nat} {l : List Chg} (h : w.ownsRow 0 77 3 (.slice a n c) n (chvs loc l)) {k : Nat} {x : Chg} (hk : l[k]? = some x) :
    ∃ g, a = some ⟨g, 0, none⟩ ∧ g < w.heap.size ∧ w.cell? ⟨g, k * 3, none⟩ = some (.string ⟨x.frm.toArray⟩) ∧ w.cell? ⟨g, k * 3 + 1, none⟩ = some (.string ⟨x.to.toArray⟩) ∧ w.cell? ⟨g, k * 3 + 2, none⟩ = some (.pointer (if x.to = [] then none else some ⟨loc x.file, 0, none⟩)) := by
  have hl := h.1
  rw [chvs_len] at hl
  have hkl := (List.getElem?_eq_some_iff.1 hk).1
  rcases h.2 with ⟨h1, h2⟩ | ⟨g, cap, cur, h1, _, hg, h3, h4, h5, h6⟩
  · omega
  · cases h1
    have hc : ∀ j, j < 3 → w.cell? ⟨g, k * 3 + j, none⟩ = (chv loc x)[j]? := fun j hj => by
      have := chvs_at loc l k x hk j hj
      rw [← this, ← h6, List.getElem?_take, if_pos (by omega)]
      simp only [World.cell?, hg]
      rw [Nat.mul_comm]
      simp
    exact ⟨g, rfl, lt_of_block hg, hc 0 (by omega), hc 1 (by omega), hc 2 (by omega)⟩

set_option maxRecDepth 100000 in
set_option maxHeartbeats 2000000 in
theorem settleNames_any (w : World) (K : Knd) (o d : Nat) (loc : Nat → Nat) (sv nv cv : Value) (S : St) (h : Dm w K o d loc sv nv cv S) (hlen : ∀ c ∈ S.chg, c.frm.length ≤ 64 ∧ c.to.length ≤ 64) (hb0 : S.safe.length + S.chg.length < 1099511627776) :
    Calls Try.prog 40 #[.pointer (some ⟨d, 0, none⟩)] w fun e w' => ∃ sv' cv' K', e = .returned (.tuple #[]) ∧ Dm w' K' o d loc sv' nv cv' S.settledN ∧ Kp (fun k => k.1 = o) K K' w w' := by
  have HD := hide h
  have hb := h.blk
  unfold dcells at hb
  obtain ⟨q0, q1, q2, q3, q4, q5, q6, q7, q8, q9, qf⟩ := blk10 hb
  have hbl := lt_of_block hb
  obtain ⟨ca, cc, hcv, hn1, hn2⟩ := h.ch.form
  subst hcv
  have HLen := hide hlen
  have HB0 := hide hb0
  obtain ⟨n, hn⟩ : ∃ n, S.chg.length = n := ⟨_, rfl⟩
  have HN := hide hn
  rw [hn] at q3
  have hnb : n < 1099511627776 := by omega
  clear h hb hlen hb0 hn hn1 hn2
  go_enter Try.func40, Try.ntmps40
  go_wp2
  go_loopw [9] (fun i wr => ∃ (k : Nat) (sv' : Value) (K' : Knd), k ≤ n ∧ i = .int .i64 k ∧ Hid (Dm wr K' o d loc sv' nv (.slice ca n cc) { S with safe := (S.chg.take k).foldl withN S.safe }) ∧ Hid (Kp (fun k => k.1 = o) K K' w wr)) (fun i _ => n - (intOf i).toNat)
  case atStart =>
    refine ⟨0, sv, K, Nat.zero_le _, rfl, ?_, Kp.refl _ _ _⟩
    have := HD.out
    rw [HN.out] at this
    exact this
  case round =>
    obtain ⟨k, sv', K', hk, rfl, HDr, HKr⟩ := hrel
    have hbr := HDr.out.blk
    unfold dcells at hbr
    obtain ⟨t0, t1, t2, t3, t4, t5, t6, t7, t8, t9, tf⟩ := blk10 hbr
    have hbl2 := lt_of_block hbr
    clear q0 q1 q2 q3 q4 q5 q6 q7 q8 q9 qf
    by_cases hlt : k < n
    · have hlt' : (k : Int) < (n : Int) := by omega
      obtain ⟨c, hc⟩ : ∃ c, S.chg[k]? = some c := ⟨_, List.getElem?_eq_getElem (by rw [HN.out]; exact hlt)⟩
      have HC := hide hc
      have hown := HDr.out.ch.own
      have e1 : (S.chg).length = n := HN.out
      simp only at hown
      rw [e1] at hown
      obtain ⟨g, rfl, hg, c0, c1, c2⟩ := chg_cells hown hc
      have HT : Hid (S.chg.take (k + 1) = S.chg.take k ++ [c]) := take_snoc' _ _ _ hc
      obtain ⟨l1, l2⟩ := HLen.out c (List.mem_of_getElem? hc)
      have HL1 := hide l1
      have HL2 := hide l2
      obtain ⟨fp, hfp⟩ : ∃ fp : Option Addr, (if c.to = [] then none else some ⟨loc c.file, 0, none⟩) = fp := ⟨_, rfl⟩
      rw [hfp] at c2
      have HFp := hide hfp
      clear hc hown e1 l1 l2 hfp
      obtain ⟨sA, hsA⟩ : ∃ sA : ByteArray, (⟨c.frm.toArray⟩ : ByteArray) = sA := ⟨_, rfl⟩
      obtain ⟨sB, hsB⟩ : ∃ sB : ByteArray, (⟨c.to.toArray⟩ : ByteArray) = sB := ⟨_, rfl⟩
      rw [hsA] at c0
      rw [hsB] at c1
      have HSA := hide hsA
      have HSB := hide hsB
      clear hsA hsB
      go_wp2
      have hx1 : Below wr.heap.size wr (wr.alloc (.cells #[.string sA, .string sB, .pointer fp] 77)) := (Below.refl _ _).alloc (Nat.le_refl _) _
      have hx2 : (wr.alloc (.cells #[.string sA, .string sB, .pointer fp] 77)).heap[wr.heap.size]? = some (.cells #[.string sA, .string sB, .pointer fp] 77 (0, 0)) := heap_alloc_new _ _
      have hx3 : (wr.alloc (.cells #[.string sA, .string sB, .pointer fp] 77)).heap.size = wr.heap.size + 1 := by simp
      generalize wr.alloc (.cells #[.string sA, .string sB, .pointer fp] 77) = wq at *
      have HX1 := hide hx1
      have HX3 := hide hx3
      have HBx := hide hx2
      obtain ⟨p0, p1, p2, pf⟩ := blk3 hx2
      have hdq : wq.heap[d]? = _ := (hx1.block d hbl2).trans hbr
      have HDq := hide hdq
      obtain ⟨y0, y1, y2, y3, y4, y5, y6, y7, y8, y9, yf⟩ := blk10 hdq
      have hd4 := lt_of_block hdq
      have hd5 := lt_of_block hx2
      have HBk : Hid (((S.chg.take k).foldl withN S.safe).length < 1099511627776) := by
        show _ < _
        have e1 := len_fold S.safe (S.chg.take k)
        have e2 := HB0.out
        have e4 : (S.chg.take k).length ≤ S.chg.length := by rw [List.length_take]; omega
        omega
      have HW := hide (with_any wq.drew sv' (mapN loc ((S.chg.take k).foldl withN S.safe)) (lc loc c) (.pointer fp) (fun hne => by rw [← HFp.out, if_neg (show ¬ c.to = [] from hne)]; rfl) (HDr.out.sf.mp.same (fun b hb => hx1.block b (HDr.out.sf.mp.lt hb))) HL1.out HL2.out (by rw [mapN_len]; exact HBk.out) ⟨_, rfl⟩)
      rw [show lc loc c = ⟨c.frm, c.to, loc c.file⟩ from rfl] at HW
      simp only at HW
      rw [HSA.out, HSB.out] at HW
      clear hx1 hx2 hx3 hdq hbr c0 c1 c2 t0 t1 t2 t3 t4 t5 t6 t7 t8 t9 tf
      go_region_law (first | (go_simp; go_at_call 48; refine HW.out.mono ?_; rintro e w2 ⟨b, rfl, hmp, hgr, hat⟩; have HT2 := hide (safe_turned HDr.out HX1.out.drew hmp hgr (by rcases hat with h | h; exact Or.inl h; right; have := HX3.out; have h' : wq.heap.size ≤ b := h; omega)); have hdb : w2.heap[d]? = _ := (hgr.block d hd4 (HDr.out.sf.mp.ne HDr.out.blk)).trans HDq.out; obtain ⟨r0, r1, r2, r3, r4, r5, r6, r7, r8, r9, rf⟩ := blk10 hdb; have hd6 := lt_of_block hdb; clear hmp hgr hat hdb))
      all_goals go_wp2
      all_goals
        go_roundw
        case rel =>
          refine ⟨k + 1, .map (some b), _, by omega, by go_num, ?_, hide (HKr.out.trans (HT2.out.2.mono (fun k hk => by rcases hk with e | e <;> (subst e; rfl))))⟩
          have e := HT2.out.1
          show Dm _ _ _ _ _ _ _ _ _
          rw [HT.out, List.foldl_append]
          exact e
        case measure => simp [intOf]; omega
    · obtain rfl : k = n := by omega
      have hown : wr.ownsRow 0 77 3 (.slice ca S.chg.length cc) S.chg.length (chvs loc S.chg) := by have := HDr.out.ch.own; simpa [HN.out] using this
      rw [HN.out] at hown
      have HOn := hide hown
      obtain ⟨w5, hcl, ho5, hg5⟩ := clear_row hown 0
      have hcl2 : ∀ ty, (Builtin.clear_ #[80] ty #[.slice ca k cc]).run Try.prog wr = .ok (.tuple #[]) w5 := fun ty => hcl
      have hd5 : w5.heap[d]? = _ := (hg5.block d hbl2 (owns_ne hown hbr (by decide))).trans hbr
      obtain ⟨y0, y1, y2, y3, y4, y5, y6, y7, y8, y9, yf⟩ := blk10 hd5
      have hd6 := lt_of_block hd5
      have HO5 := hide ho5
      have HG5 := hide hg5
      have HD5 := hide hd5
      clear hcl ho5 hg5 hown hd5 hbr
      have hcz : (0 : Int) ≤ (cc : Int) := by omega
      go_wp2
      go_end0
      have e1 : S.chg.take k = S.chg := List.take_of_length_le (by rw [HN.out]; exact Nat.le_refl _)
      have HDr' := HDr.out
      rw [e1] at HDr'
      have k1 : Kp (fun k => k = (o, 1) ∨ k = (o, 4)) K' K' wr w5 := (Kp.refl _ K' wr).grown HG5.out (fun g e => Or.inr (Or.inr (HDr'.ch.kind g e)))
      have k2 := k1.setCell (b := d) (Or.inr (Or.inl HDr'.kd)) 3 (.slice ca 0 cc)
      have kk : Kp (fun k => k = (o, 4)) K' K' wr w5 := (Kp.refl _ K' wr).grown HG5.out (fun g e => Or.inr (HDr'.ch.kind g e))
      refine ⟨rfl, sv', .slice ca 0 cc, K', HDr'.turnG k2 (fun k hk => ?_) ?_ ?_ ?_ ?_ rfl, HKr.out.trans (k2.mono (fun k hk => by rcases hk with e | e <;> (subst e; rfl)))⟩
      · rcases hk with e | e
        · exact ⟨1, by omega, e⟩
        · exact ⟨4, by omega, e⟩
      · rw [block_set HD5.out]; rfl
      · exact mk_set (HDr'.sf.kept kk (by simp)) HD5.out
      · exact mk_set (HDr'.sn.kept kk (by simp)) HD5.out
      · refine rk_set ⟨HO5.out, fun g e => ?_⟩ HD5.out (by decide)
        rw [own_len ca 0 k cc cc] at e
        exact HDr'.ch.kind g e

end Go.Proofs.Ytlpafgjgoheomaa
