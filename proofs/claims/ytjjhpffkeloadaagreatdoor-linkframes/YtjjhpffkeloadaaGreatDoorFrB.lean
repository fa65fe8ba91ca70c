import Derived.Test.YtjjhpffkeloadaaGreatDoorFrA
namespace Go.Proofs.YtjjhpffkeloadaaGreatDoor
open Go.RowKit

/-! What bytes say -/
def decF (xs : List Nat) : Fr := (decB xs).getD fr0
def decT (xs : List Nat) : Bool := (decB xs).isSome
theorem decF_ok {xs : List Nat} (hs : ∀ x ∈ xs, x < 256) : (decF xs).small ∧ (decF xs).body.length ≤ 2048 := by
  unfold decF
  cases h : decB xs with
  | none => exact ⟨fun x hx => by simp [fr0] at hx, by simp [fr0]⟩
  | some f =>
    obtain ⟨h1, h2, _⟩ := dec_some hs h
    exact ⟨h2, h1.2.2.2.2.2.2.1⟩
theorem dec_uni (w : World) (sp : Option Addr) (n cap : Nat) (xs : List Nat) (hl : xs.length = n) (hcap : n ≤ cap) (hc : cap ≤ 9223372036854775807) (hx : Bytes w sp xs) (hT : C.Tab w) :
    Calls Tryz.prog 15 #[.slice sp n cap] w fun e w' => ∃ sq, e = .returned (.tuple #[frV (decF xs) sq (decF xs).body.length, .bool (decT xs)]) ∧ C.Mine w.heap.size w' sq (decF xs).body ∧ Below w.heap.size w w' := by
  refine (dec_any w sp n cap xs hl hcap hc hx hT).mono ?_
  rintro e w' (⟨f, sq, h1, h2, h3, h4⟩ | ⟨h1, h2, h3⟩)
  · have e1 : decF xs = f := by unfold decF; rw [h1]; rfl
    have e2 : decT xs = true := by unfold decT; rw [h1]; rfl
    rw [e1, e2]
    exact ⟨sq, h2, h3, h4⟩
  · have e1 : decF xs = fr0 := by unfold decF; rw [h1]; rfl
    have e2 : decT xs = false := by unfold decT; rw [h1]; rfl
    rw [e1, e2]
    exact ⟨none, h2, Or.inl ⟨rfl, rfl⟩, h3⟩
theorem rdec_uni (w : World) (sp : Option Addr) (n cap : Nat) (xs : List Nat) (hl : xs.length = n) (hcap : n ≤ cap) (hc : cap ≤ 9223372036854775807) (hn : n ≤ 140737488351232) (hx : Bytes w sp xs) (hform : (cap = 0 ∧ xs = []) ∨ ∃ g o, sp = some ⟨g, o, none⟩) :
    Calls Tryz.prog 16 #[.slice sp n cap] w fun e w' => ∃ sq k, e = .returned (.tuple #[frV (decF xs) sq k, .bool (decT xs)]) ∧ Bytes w' sq (decF xs).body ∧ (∀ p, sq = some p → w.heap.size ≤ p.block) ∧ Below w.heap.size w w' := by
  refine (rdec_any w sp n cap xs hl hcap hc hn hx.c hform).mono ?_
  rintro e w' (⟨f, sq, k, h1, h2, h3, h4, h5⟩ | ⟨h1, h2, h3⟩)
  · have e1 : decF xs = f := by unfold decF; rw [h1]; rfl
    have e2 : decT xs = true := by unfold decT; rw [h1]; rfl
    rw [e1, e2]
    exact ⟨sq, k, h2, Bytes.of_c h3, h4, h5⟩
  · have e1 : decF xs = fr0 := by unfold decF; rw [h1]; rfl
    have e2 : decT xs = false := by unfold decT; rw [h1]; rfl
    rw [e1, e2]
    exact ⟨none, 0, h2, ⟨fun _ h => (by cases h), Or.inl rfl⟩, fun p hp => (by cases hp), h3⟩

theorem Plc1.kept {p : Nat × Nat → Prop} {K K' : Knd} {w w' : World} {pb : Nat} {X : Value} {m : Nat} {ys : List Nat} (h : U.Plc1 w K pb X m ys) (hk : Kp p K K' w w') (hp : ∀ j, ¬ p (8, j)) : U.Plc1 w' K' pb X m ys := by
  obtain ⟨O, I, no, os, h⟩ := h
  exact ⟨O, I, no, os, (hk.block _ (C.lt_of_block h.blk) (by rw [h.kb]; exact hp _)).trans h.blk, (hk.same _ (C.lt_of_block h.blk)).trans h.kb, h.o.kept hk (hp _), h.i.kept hk (hp _), h.x.kept hk (hp _)⟩
/-- What the turn of a list of bytes has in hand. -/
structure Bi (w wr : World) (K : Knd) (bb lb pb : Nat) (G V : Value) (xs : List Q.Gt) (a : Option Addr) (n c : Nat) (cur : List Nat) (op : Option Addr) (ys : List Nat) : Prop where
  z : Fz w wr K bb lb G V xs
  pl : U.Plc1 wr K pb (.slice a n c) n cur
  ot : Wt wr K (9, 4) op ys
  sm : ∀ x ∈ cur, x < 256
  ln : cur.length = n
section
variable {w wr w2 : World} {K K' : Knd} {bb lb pb : Nat} {G V : Value} {xs : List Q.Gt} {a : Option Addr} {n c : Nat} {cur : List Nat} {op : Option Addr} {ys : List Nat} {p : Nat × Nat → Prop}
theorem Bi.kp (h : Bi w wr K bb lb pb G V xs a n c cur op ys) (m : Kp p K K' wr w2) (h0 : ¬ p (0, 0)) (h5 : ∀ j, ¬ p (5, j)) (h6 : ¬ p (6, 0)) (h7 : ∀ j, j < xs.length → ¬ p (7, j)) (h8 : ∀ j, ¬ p (8, j)) (h94 : ¬ p (9, 4)) : Bi w w2 K' bb lb pb G V xs a n c cur op ys :=
  ⟨h.z.kp m h0 h5 h6 h7, Plc1.kept h.pl m h8, h.ot.kp m h94, h.sm, h.ln⟩
theorem Bi.below (h : Bi w wr K bb lb pb G V xs a n c cur op ys) (hb : Below wr.heap.size wr w2) (kd : Nat × Nat) : Bi w w2 (ext K wr.heap.size kd) bb lb pb G V xs a n c cur op ys :=
  h.kp (kpf hb K kd) (fun e => e) (fun _ e => e) (fun e => e) (fun _ _ e => e) (fun _ e => e) (fun e => e)
theorem Bi.bytes (h : Bi w wr K bb lb pb G V xs a n c cur op ys) : Bytes wr a cur ∧ n ≤ c ∧ c ≤ maxLen := by
  obtain ⟨O, I, no, os, h1⟩ := h.pl
  refine ⟨owns_bytes h1.x.own h.sm, ?_⟩
  obtain ⟨a', c', e, h2, h3⟩ := h1.x.form
  cases e
  exact ⟨h2, h3⟩
theorem Bi.more {G' V' : Value} {xs' : List Q.Gt} (h : Bi w wr K bb lb pb G V xs a n c cur op ys) (hl : Q.Lt K' w2 lb G' V' xs') (m : Kp (fun q => q = (6, 0)) K K' wr w2) : Bi w w2 K' bb lb pb G' V' xs' a n c cur op ys :=
  ⟨h.z.more hl m, Plc1.kept h.pl m (by simp), h.ot.kp m (by simp), h.sm, h.ln⟩
/-- 'Into(b, other)'. -/
theorem Bi.into (h : Bi w wr K bb lb pb G V xs a n c cur op ys) (oc : Nat) (hy : ys.length = n) (hn : n ≤ 140737488351232) :
    Calls Tryz.prog 14 #[.slice a n c, .slice op n oc] wr fun e w' => e = .returned (.tuple #[]) ∧ Bi w w' K bb lb pb G V xs a n c ys op ys ∧ Below w.heap.size w w' := by
  by_cases h0 : n = 0
  · subst h0
    refine (U.into_none wr a c _).mono ?_
    rintro e w' ⟨rfl, rfl⟩
    have e1 : cur = [] := List.eq_nil_of_length_eq_zero h.ln
    have e2 : ys = [] := List.eq_nil_of_length_eq_zero hy
    rw [e2]
    rw [e1, e2] at h
    exact ⟨rfl, h, h.z.bel⟩
  · obtain ⟨O, I, no, os, h1⟩ := h.pl
    obtain ⟨ga, rfl⟩ : ∃ ga, a = some ⟨ga, 0, none⟩ := by
      rcases h1.x.own.2 with ⟨e, e2⟩ | ⟨g, _, _, e, _⟩
      · exact absurd e2 h0
      · cases e; exact ⟨g, rfl⟩
    obtain ⟨go, oo, rfl, hgo, -⟩ : ∃ g o, op = some ⟨g, o, none⟩ ∧ g < wr.heap.size ∧ True := by
      rcases h.ot.by_.lie with e | ⟨g, o, e, hg, _⟩
      · rw [e] at hy; simp at hy; omega
      · exact ⟨g, o, e, hg, trivial⟩
    have kg : K ga = (8, 3) := h1.x.kind ga rfl
    have ko : K go = (9, 4) := by
      rcases h.ot.kind with e | e
      · rw [e] at hy; simp at hy; omega
      · exact (e go oo rfl).2
    refine (U.into_rk wr K (8, 3) ga n c go oo oc cur ys h.ln hy h.sm h1.x (fun e => by rw [e, kg] at ko; cases ko) h.ot.by_ hn).mono ?_
    rintro e w' ⟨rfl, hr, hk⟩
    have hz := h.z.kp hk (by simp) (by simp) (by simp) (by simp)
    refine ⟨rfl, ⟨hz, ⟨O, I, no, os, (hk.block _ (C.lt_of_block h1.blk) (by rw [h1.kb]; simp)).trans h1.blk, (hk.same _ (C.lt_of_block h1.blk)).trans h1.kb, h1.o.kept hk (by simp), h1.i.kept hk (by simp), hr⟩, h.ot.kp hk (by simp), h.ot.by_.small, hy⟩, hz.bel⟩
end
end Go.Proofs.YtjjhpffkeloadaaGreatDoor
namespace Go.Proofs.YtjjhpffkeloadaaGreatDoor
open Go.RowKit

set_option maxRecDepth 100000 in
set_option maxHeartbeats 8000000 in
theorem frames_all (w : World) (hT : C.Tab w) (fp : Option Addr) (fl fc : Nat) (es : List Fe) (hes : es.length = fl) (hF : Frs w fp es) (pp : Option Addr) (pl pc : Nat) (ps : List (List Nat)) (hps : ps.length = pl) (hP : PtF w pp ps) (hfl : fl ≤ 140737488351232) (hpl : pl ≤ 140737488351232) :
    Calls Tryz.prog 3 #[.agg #[.slice fp fl fc, .slice pp pl pc]] w fun e w' => e = .returned (.bool true) ∧ Below w.heap.size w w' := by
  obtain ⟨w1, hw1⟩ : ∃ w1, w.alloc (.cells #[.slice fp fl fc, .slice pp pl pc] 25) = w1 := ⟨_, rfl⟩
  have hb1 : Below w.heap.size w w1 := by rw [← hw1]; exact (Below.refl _ _).alloc (Nat.le_refl _) _
  have hk1 : w1.heap[w.heap.size]? = some (.cells #[.slice fp fl fc, .slice pp pl pc] 25 (0, 0)) := by rw [← hw1]; exact heap_alloc_new _ _
  have HT : Hid (∀ w', Below w1.heap.size w1 w' → C.Tab w') := fun w' hb => (hT.below hb1 hT.pos).below hb (hT.below hb1 hT.pos).pos
  have HF := hide (hF.below hb1)
  have HP := hide (hP.below hb1)
  have HBx : Hid (∀ w', Below w1.heap.size w1 w' → w'.cell? ⟨w.heap.size, 0, none⟩ = some (.slice fp fl fc) ∧ w'.cell? ⟨w.heap.size, 1, none⟩ = some (.slice pp pl pc)) := fun w' hb => by
    have h := (hb.block _ (C.lt_of_block hk1)).trans hk1
    exact ⟨by simp [World.cell?, h], by simp [World.cell?, h]⟩
  have HB1 := hide hb1
  have HEs := hide hes
  have HPs := hide hps
  have HW1 := hide hw1
  have HBg := hide (fun w' h => begun_any w' (HT.out w' h))
  clear hw1 hb1 hk1 hT hF hP hes hps
  go_enter Tryz.func3, Tryz.ntmps3
  go_upto_region 1 with (fail)
  rw [HW1.out]
  go_wp2_with fail
  refine (HBg.out w1 (Below.refl _ _)).mono ?_
  rintro e w2 ⟨rfl, hb2⟩
  obtain ⟨w3, hw3⟩ : ∃ w3, w2.alloc (.cells U.bk0 47) = w3 := ⟨_, rfl⟩
  obtain ⟨w4, hw4⟩ : ∃ w4, w3.alloc (.cells #[.slice none 0 0, .slice none 0 0] 50) = w4 := ⟨_, rfl⟩
  obtain ⟨w5, hw5⟩ : ∃ w5, w4.alloc (.cells #[.slice none 0 0, .slice none 0 0] 53) = w5 := ⟨_, rfl⟩
  have hs3 : w3.heap.size = w2.heap.size + 1 := by rw [← hw3]; simp
  have hs4 : w4.heap.size = w2.heap.size + 2 := by rw [← hw4]; simp [hs3]
  obtain ⟨K, hK⟩ : ∃ K : Knd, K = ext (ext (ext (fun _ => (0, 0)) w2.heap.size (5, 1)) (w2.heap.size + 1) (6, 0)) (w2.heap.size + 2) (8, 0) := ⟨_, rfl⟩
  have hZ : Fz w1 w5 K w2.heap.size (w2.heap.size + 1) (.slice none 0 0) (.slice none 0 0) [] ∧ U.Plc w5 K (w2.heap.size + 2) := by
    have b3 : Below w2.heap.size w2 w3 := by rw [← hw3]; exact (Below.refl _ _).alloc (Nat.le_refl _) _
    have b4 : Below w3.heap.size w3 w4 := by rw [← hw4]; exact (Below.refl _ _).alloc (Nat.le_refl _) _
    have b5 : Below w4.heap.size w4 w5 := by rw [← hw5]; exact (Below.refl _ _).alloc (Nat.le_refl _) _
    have k3 : w3.heap[w2.heap.size]? = some (.cells U.bk0 47 (0, 0)) := by rw [← hw3]; exact heap_alloc_new _ _
    have k4 : w4.heap[w2.heap.size + 1]? = some (.cells #[.slice none 0 0, .slice none 0 0] 50 (0, 0)) := by rw [← hs3, ← hw4]; exact heap_alloc_new _ _
    have k5 : w5.heap[w2.heap.size + 2]? = some (.cells #[.slice none 0 0, .slice none 0 0] 53 (0, 0)) := by rw [← hs4, ← hw5]; exact heap_alloc_new _ _
    have hsz := hb2.size
    have bel : Below w1.heap.size w1 w5 := hb2.trans ((b3.mono hsz).trans ((b4.mono (by omega)).trans (b5.mono (by omega))))
    have kb : K w2.heap.size = (5, 1) := by rw [hK]; simp [ext]
    have kl : K (w2.heap.size + 1) = (6, 0) := by rw [hK]; simp [ext]
    have kp : K (w2.heap.size + 2) = (8, 0) := by rw [hK]; simp [ext]
    exact ⟨⟨bel, fun b hb => by rw [hK]; simp only [ext]; rw [if_pos (by omega), if_pos (by omega), if_pos (by omega)], lt_nil ((b5.block _ (by omega)).trans k4) kl, Q.bt_empty ((b5.block _ (by omega)).trans ((b4.block _ (by omega)).trans k3)) kb⟩, Or.inl ⟨k5, kp⟩⟩
  have HZ := hide hZ
  have HW3 := hide hw3
  have HW4 := hide hw4
  have HW5 := hide hw5
  have HS3 := hide hs3
  have HS4 := hide hs4
  clear hb2 hw3 hw4 hw5 hs3 hs4 hK hZ
  go_wp2_with fail
  refine book_build rfl ?_
  go_upto_region 4 with (fail)
  rw [HW3.out]
  go_upto_region 5 with (fail)
  rw [HW4.out, HS3.out]
  go_upto_region 6 with (fail)
  rw [HW5.out, HS4.out]
  generalize w2.heap.size = bb at *
  clear HW3 HW4 HW5 HS3 HS4
  go_wp2
  go_loopw [6] (fun iv w' => ∃ (i : Nat) (K : Knd) (G V : Value) (xs : List Q.Gt), i ≤ fl ∧ iv = .int .i64 (i : Int) ∧ Hid (Fz w1 w' K bb (bb + 1) G V xs ∧ U.Plc w' K (bb + 2) ∧ xs.length ≤ 2 * i ∧ xs.length ≤ 4000)) (fun iv _ => fl - (intOf iv).toNat)
  case atStart => exact ⟨0, K, _, _, [], Nat.zero_le _, rfl, hide ⟨HZ.out.1, HZ.out.2, Nat.zero_le _, Nat.zero_le _⟩⟩
  case round =>
  clear HZ K
  obtain ⟨i, K, G, V, xs, hi, rfl, HR⟩ := hrel
  rename World => wr
  obtain ⟨x0, x1⟩ := HBx.out wr HR.out.1.bel
  by_cases hlt : i < fl
  · have i1 : (i : Int) < (fl : Int) := by omega
    have i2 : (0 : Int) ≤ (i : Int) := by omega
    obtain ⟨e, he⟩ : ∃ e, es[i]? = some e := ⟨_, List.getElem?_eq_getElem (by rw [HEs.out]; exact hlt)⟩
    obtain ⟨⟨fr, tt, mine, yours, seq, ack, body⟩, bp, bc⟩ := e
    obtain ⟨g, o, hfp, -⟩ := HF.out.at he
    subst hfp
    obtain ⟨n, hn⟩ : ∃ n, body.length = n := ⟨_, rfl⟩
    have HCe : Hid (∀ w', Below w1.heap.size w1 w' → (Bytes w' bp body ∧ n ≤ 140737488351232) ∧ w'.cell? ⟨g, o + i * 7, none⟩ = some (.int .i64 fr) ∧ w'.cell? ⟨g, o + i * 7 + 1, none⟩ = some (.int .i64 tt) ∧ w'.cell? ⟨g, o + i * 7 + 2, none⟩ = some (.int .u64 (mine : Int)) ∧ w'.cell? ⟨g, o + i * 7 + 3, none⟩ = some (.int .u64 (yours : Int)) ∧ w'.cell? ⟨g, o + i * 7 + 4, none⟩ = some (.int .u64 (seq : Int)) ∧ w'.cell? ⟨g, o + i * 7 + 5, none⟩ = some (.int .u64 (ack : Int)) ∧ w'.cell? ⟨g, o + i * 7 + 6, none⟩ = some (.slice bp n bc)) := fun w' hb => by
      obtain ⟨g', o', h1, _, h2, h3⟩ := (HF.out.below hb).at he
      cases h1
      have h4 := h2.len
      simp only [hn] at h3 h4
      exact ⟨⟨h2.by_, h4⟩, h3⟩
    have hnl := (HCe.out wr HR.out.1.bel).1.2
    obtain ⟨-, y0, y1, y2, y3, y4, y5, y6⟩ := HCe.out wr HR.out.1.bel
    have HN := hide hn
    clear he hn
    go_upto_region 10 with (fail)
    obtain ⟨wa, hwa⟩ : ∃ wa, wr.alloc (.cells #[.int .i64 fr, .int .i64 tt, .int .u64 (mine : Int), .int .u64 (yours : Int), .int .u64 (seq : Int), .int .u64 (ack : Int), .slice bp n bc] 57) = wa := ⟨_, rfl⟩
    rw [hwa]
    have hba : Below wr.heap.size wr wa := by rw [← hwa]; exact (Below.refl _ _).alloc (Nat.le_refl _) _
    have hka : wa.heap[wr.heap.size]? = some (.cells #[.int .i64 fr, .int .i64 tt, .int .u64 (mine : Int), .int .u64 (yours : Int), .int .u64 (seq : Int), .int .u64 (ack : Int), .slice bp n bc] 57 (0, 0)) := by rw [← hwa]; exact heap_alloc_new _ _
    have mka := kpf hba K (9, 1)
    have hZa := HR.out.1.kp mka (fun e => e) (fun _ e => e) (fun e => e) (fun _ _ e => e)
    have HPa := hide (HR.out.2.1.kept mka (fun _ e => e))
    have HFa : Hid (Fb wa (ext K wr.heap.size (9, 1)) wr.heap.size #[.int .i64 fr, .int .i64 tt, .int .u64 (mine : Int), .int .u64 (yours : Int), .int .u64 (seq : Int), .int .u64 (ack : Int), .slice bp n bc]) := ⟨hka, ext_new _ _ (Nat.le_refl _)⟩
    have HZa := hide hZa
    clear y0 y1 y2 y3 y4 y5 y6 x0 x1
    obtain ⟨x0, x1⟩ := HBx.out wa hZa.bel
    obtain ⟨⟨hby, -⟩, y0, y1, y2, y3, y4, y5, y6⟩ := HCe.out wa hZa.bel
    have HEn := hide (renc_any wa ⟨fr, tt, mine, yours, seq, ack, body⟩ bp bc hby.c)
    obtain ⟨E, hE⟩ : ∃ E, encB ⟨fr, tt, mine, yours, seq, ack, body⟩ = E := ⟨_, rfl⟩
    have hEl := encB_len ⟨fr, tt, mine, yours, seq, ack, body⟩
    have hEs : ∀ x ∈ encB ⟨fr, tt, mine, yours, seq, ack, body⟩, x < 256 := encB_small (f := ⟨fr, tt, mine, yours, seq, ack, body⟩) hby.small
    rw [hE] at hEl hEs
    unfold frV at HEn
    simp only [hE, HN.out] at HEn
    have HE := hide hE
    have HEss := hide hEs
    have HBs := hide hby.small
    clear hwa hba hka mka hZa hby hE hEs
    go_wp2_with fail
    refine HEn.out.mono ?_
    rintro e0 wb ⟨sa, q, cc, rfl, ho, hbb⟩
    obtain ⟨m, hm⟩ : ∃ m, E.length = m := ⟨_, rfl⟩
    obtain rfl : m = q := by have := ho.1; simp [C.vals] at this; omega
    have HFi : Hid (Fi w1 wb (ext (ext K wr.heap.size (9, 1)) wa.heap.size (9, 3)) bb (bb + 1) (bb + 2) G V xs wr.heap.size #[.int .i64 fr, .int .i64 tt, .int .u64 (mine : Int), .int .u64 (yours : Int), .int .u64 (seq : Int), .int .u64 (ack : Int), .slice bp n bc] sa E) := by
      have mk := kpf hbb (ext K wr.heap.size (9, 1)) (9, 3)
      refine ⟨HZa.out.kp mk (fun e => e) (fun _ e => e) (fun e => e) (fun _ _ e => e), HPa.out.kept mk (fun _ e => e), HFa.out.kp mk (fun e => e), Wt.new (9, 3) (owns_bytes ho HEss.out) (fun p hp => ?_)⟩
      rcases ho.2 with ⟨h1, _⟩ | ⟨g2, _, _, h1, h2, _⟩
      · rw [hp] at h1; cases h1
      · rw [hp] at h1; cases h1; exact h2
    have HM := hide hm
    rw [hm] at hEl
    clear ho hbb hm y0 y1 y2 y3 y4 y5 y6 x0 x1 HZa HPa HFa HEn
    go_wp2
    go_loopw [9] (fun kv w' => ∃ (k : Nat) (K : Knd) (G V : Value) (xs : List Q.Gt) (bv : Value), k ≤ 2 ∧ kv = .int .i64 (k : Int) ∧ Hid (Fi w1 w' K bb (bb + 1) (bb + 2) G V xs wr.heap.size #[.int .i64 fr, .int .i64 tt, .int .u64 (mine : Int), .int .u64 (yours : Int), .int .u64 (seq : Int), .int .u64 (ack : Int), bv] sa E ∧ (i < 2000 → xs.length ≤ 2 * i + k) ∧ (2000 ≤ i → xs.length ≤ 4000))) (fun kv _ => 2 - (intOf kv).toNat)
    case atStart => exact ⟨0, _, G, V, xs, _, Nat.zero_le _, rfl, hide ⟨HFi.out, fun _ => by have := HR.out.2.2; omega, fun _ => HR.out.2.2.2⟩⟩
    case round =>
    clear HFi
    obtain ⟨k, K2, G2, V2, xs2, bv, hk, rfl, HI⟩ := hrel
    rename World => wk
    by_cases hk2 : k < 2
    · have k1 : (k : Int) < 2 := by omega
      obtain ⟨x0, x1⟩ := HBx.out wk HI.out.1.z.bel
      obtain ⟨⟨hby, -⟩, y0, y1, y2, y3, y4, y5, y6⟩ := HCe.out wk HI.out.1.z.bel
      have HL := hide (U.lend_any wk bp n bc body HN.out hby hnl)
      clear hby
      go_wp2_with fail
      refine HL.out.mono ?_
      rintro e0 wl ⟨gl, cl, rfl, hol, hbl⟩
      have HI1 := hide (HI.out.1.below hbl (9, 2))
      have HLe1 : Hid (Le wl (ext K2 wk.heap.size (9, 2)) gl cl body) := Le.new hol HBs.out
      clear hol hbl HL y0 y1 y2 y3 y4 y5 y6 x0 x1
      obtain ⟨c0, c1, c2, c3, c4, c5, c6, cf⟩ := blk7 HI1.out.fr.blk
      have hlt7 := C.lt_of_block HI1.out.fr.blk
      go_upto_region 15 with (fail)
      obtain ⟨wm, hwm⟩ : ∃ wm, wl.setCell ⟨wr.heap.size, 6, none⟩ (.slice (some ⟨gl, 0, none⟩) n cl) = wm := ⟨_, rfl⟩
      rw [hwm]
      have HI2 := hide (HI1.out.set 6 (.slice (some ⟨gl, 0, none⟩) n cl))
      have HLe2 := hide (HLe1.out.kp (kp91 (i := 6) (v := .slice (some ⟨gl, 0, none⟩) n cl) HI1.out.fr.kind) (by simp))
      rw [hwm] at HI2 HLe2
      simp only [List.setIfInBounds_toArray, List.set_cons_succ, List.set_cons_zero] at HI2
      clear hwm HI1 HLe1 c0 c1 c2 c3 c4 c5 c6 cf hlt7
      generalize ext K2 wk.heap.size (9, 2) = K3 at *
      obtain ⟨c0, c1, c2, c3, c4, c5, c6, cf⟩ := blk7 HI2.out.fr.blk
      have HEc := hide (enc_any wm ⟨fr, tt, mine, yours, seq, ack, body⟩ (some ⟨gl, 0, none⟩) cl HLe2.out.bytes (HT.out wm HI2.out.z.bel))
      unfold frV at HEc
      simp only [HE.out, HM.out, HN.out] at HEc
      go_wp2_with fail
      refine HEc.out.mono ?_
      rintro e0 wn ⟨sq, rfl, hmi, hbn⟩
      have HI3 := hide (HI2.out.below hbn (7, xs2.length))
      have HLe3 := hide (HLe2.out.kp (kpf hbn K3 (7, xs2.length)) (fun e => e))
      have HAn3 : Hid (An wn (ext K3 wm.heap.size (7, xs2.length)) xs2.length sq m E) := by
        have := An.new (K := K3) xs2.length hmi HEss.out (by rw [HM.out]; omega)
        rw [HM.out] at this
        exact this
      generalize ext K3 wm.heap.size (7, xs2.length) = K4 at *
      clear hmi hbn HEc HI2 HLe2 c0 c1 c2 c3 c4 c5 c6 cf
      -- Eq, Intact
      obtain ⟨c0, c1, c2, c3, c4, c5, c6, cf⟩ := blk7 HI3.out.fr.blk
      obtain ⟨x0, x1⟩ := HBx.out wn HI3.out.z.bel
      obtain ⟨⟨hby, -⟩, -, -, -, -, -, -, y6⟩ := HCe.out wn HI3.out.z.bel
      have HQ1 := hide (fun q => eq_val (wn.drewN q) sq sa m m m cc E E HM.out HM.out (by omega) (by omega) (HAn3.out.bytes.drewN q) (HI3.out.wt.by_.drewN q))
      rw [decide_eq_true (rfl : E = E)] at HQ1
      have HQ2 := hide (fun q => U.intact_any (wn.drewN q) 0 gl cl n bp bc body HN.out (U.own_kept HLe3.out.own rfl) (hby.drewN q) hnl)
      clear hby
      go_upto_region 16 with (fail)
      go_quiet (first
        | (go_at_call 8; exact Calls.quiet_of (HQ1.out _))
        | (go_at_call 9; exact Calls.quiet_of (HQ2.out _)))
      have HI4 := hide (HI3.out.below (drew_below wn nq) (9, 9))
      have HLe4 := hide (HLe3.out.kp (kpf (drew_below wn nq) K4 (9, 9)) (fun e => e))
      have HAn4 := hide (HAn3.out.kp (kpf (drew_below wn nq) K4 (9, 9)) (fun e => e))
      generalize wn.drewN nq = wo at *
      generalize ext K4 wn.heap.size (9, 9) = K5 at *
      clear HQ1 HQ2 HI3 HLe3 HAn3 c0 c1 c2 c3 c4 c5 c6 cf x0 x1 y6
      -- Over
      obtain ⟨c0, c1, c2, c3, c4, c5, c6, cf⟩ := blk7 HI4.out.fr.blk
      have HOv := hide (U.over_own wo K5 (9, 2) gl n cl cl (body ++ U.marks) (by rw [List.length_append, HN.out]; omega) HLe4.out.own HLe4.out.kind hnl)
      go_wp2_with fail
      refine HOv.out.mono ?_
      rintro e0 wq ⟨rfl, hov, hkp⟩
      rw [List.drop_left' HN.out] at hov
      have HI5 := hide (HI4.out.kp hkp (by simp) (by simp) (by simp) (by simp) (by simp) (by simp) (by simp))
      have HAn5 := hide (HAn4.out.kp hkp (by simp))
      have HBy5 : Hid (Bytes wq (some ⟨gl, 0, none⟩) (List.replicate n 238)) := hov.front
      clear hov hkp HOv HI4 HAn4 HLe4 c0 c1 c2 c3 c4 c5 c6 cf
      obtain ⟨c0, c1, c2, c3, c4, c5, c6, cf⟩ := blk7 HI5.out.fr.blk
      obtain ⟨B2, hB2⟩ : ∃ B2, List.replicate n 238 = B2 := ⟨_, rfl⟩
      have HN2 : Hid (B2.length = n) := by show _ = _; rw [← hB2]; simp
      rw [hB2] at HBy5
      clear hB2
      obtain ⟨E2, hE2⟩ : ∃ E2, encB ⟨fr, tt, mine, yours, seq, ack, B2⟩ = E2 := ⟨_, rfl⟩
      have HE2 := hide hE2
      have hEl2 := encB_len ⟨fr, tt, mine, yours, seq, ack, B2⟩
      have HEs2 : Hid (∀ x ∈ encB ⟨fr, tt, mine, yours, seq, ack, B2⟩, x < 256) := encB_small (f := ⟨fr, tt, mine, yours, seq, ack, B2⟩) HBy5.out.small
      rw [hE2] at hEl2 HEs2
      obtain ⟨m2, hm2⟩ : ∃ m2, E2.length = m2 := ⟨_, rfl⟩
      rw [hm2] at hEl2
      have HM2 := hide hm2
      have HEc := hide (fun w' hb ht => enc_any w' ⟨fr, tt, mine, yours, seq, ack, B2⟩ (some ⟨gl, 0, none⟩) cl hb ht)
      have HRn := hide (fun w' hb => renc_any w' ⟨fr, tt, mine, yours, seq, ack, B2⟩ (some ⟨gl, 0, none⟩) cl hb)
      unfold frV at HEc HRn
      simp only [hE2, hm2, HN2.out] at HEc HRn
      clear hE2 hm2
      have md := (Kp.refl (fun _ => False) K5 wq).drew
      have HI5d := hide (HI5.out.kp md (fun e => e) (fun _ e => e) (fun e => e) (fun _ _ e => e) (fun _ e => e) (fun e => e) (fun e => e))
      have HAn5d := hide (HAn5.out.kp md (fun e => e))
      have HBy5d : Hid (Bytes wq.drew (some ⟨gl, 0, none⟩) B2) := ⟨HBy5.out.small, HBy5.out.lie⟩
      clear md
      go_upto_region 19 with (fail)
      go_region_law (first
        | (go_simp; go_at_call 7; refine (HEc.out _ HBy5d.out (HT.out _ HI5d.out.z.bel)).mono ?_; rintro e0 wt ⟨sq2, rfl, hmi2, hbt⟩; have HI6 := hide (HI5d.out.below hbt (9, 9)); have HAn6 := hide (HAn5d.out.kp (kpf hbt K5 (9, 9)) (fun e => e)); have HBy6 : Hid (Bytes wt (some ⟨gl, 0, none⟩) B2) := HBy5d.out.below hbt; have HQ6 : Hid (Bytes wt sq2 E2) := Bytes.of_c (hmi2.bytes HEs2.out); obtain ⟨d0, d1, d2, d3, d4, d5, d6, df⟩ := blk7 HI6.out.fr.blk; clear hmi2 hbt)
        | (go_simp; go_at_call 5; refine (HRn.out _ HBy6.out.c).mono ?_; rintro e0 wu ⟨sa2, q2, cc2, rfl, ho2, hbu⟩; obtain rfl : m2 = q2 := (by have h1 := ho2.1; simp [C.vals] at h1; have h2 := HM2.out; omega); have HI7 := hide (HI6.out.below hbu (9, 9)); have HAn7 := hide (HAn6.out.kp (kpf hbu _ (9, 9)) (fun e => e)); have HQ7 : Hid (Bytes wu sq2 E2) := HQ6.out.below hbu; have HR7 : Hid (Bytes wu sa2 E2) := owns_bytes ho2 HEs2.out; clear ho2 hbu)
        | (go_simp; go_at_call 8; refine (eq_val _ sq2 sa2 m2 m2 m2 cc2 E2 E2 HM2.out HM2.out (by omega) (by omega) HQ7.out HR7.out).mono ?_; rintro e0 wv ⟨he0, qv, hwv⟩; rw [decide_eq_true (rfl : E2 = E2)] at he0; subst he0; have hbv : Below wu.heap.size wu wv := (by rw [hwv]; exact drew_below wu qv); have HI8 := hide (HI7.out.below hbv (9, 9)); have HAn8 := hide (HAn7.out.kp (kpf hbv _ (9, 9)) (fun e => e)); clear hwv hbv))
      all_goals
        have HBd := HI.out.2
        clear HEc HRn HI HI5 HI5d HAn5 HAn5d HBy5 HBy5d HI6 HAn6 HBy6 HQ6 HI7 HAn7 HQ7 HR7 HM2 HE2 HEs2 HN2 hEl2
        by_cases h2000 : i < 2000
        · have i3 : (i : Int) < 2000 := by omega
          have hxs2 : xs2.length ≤ 20000 := by have := HBd.1 h2000; omega
          have HA := hide (Q.late_add _ wv (bb + 1) G2 V2 xs2 sq m m E sa cc HI8.out.z.late HAn8.out.row HAn8.out.kind (HI8.out.wt.late (by simp)) (by omega) hxs2)
          go_wp2_with fail
          refine HA.out.mono ?_
          rintro e0 wy ⟨rfl, G9, V9, wp, wc, hl9, hk9⟩
          have HI9 := hide (HI8.out.more hl9 hk9)
          clear hl9 hk9 HA
          go_wp2
          exact ⟨⟨k + 1, _, G9, V9, _, _, by omega, by go_num, hide ⟨HI9.out, fun h => by have := HBd.1 h; simp; omega, fun h => by omega⟩⟩, by simp [intOf]; omega⟩
        · have i3 : ¬ (i : Int) < 2000 := by omega
          go_wp2
          exact ⟨⟨k + 1, _, G2, V2, xs2, _, by omega, by go_num, hide ⟨HI8.out, fun h => by omega, HBd.2⟩⟩, by simp [intOf]; omega⟩
    · obtain rfl : k = 2 := by omega
      have k1 : ¬ ((2 : Nat) : Int) < 2 := by omega
      go_wp2
      exact ⟨⟨i + 1, K2, G2, V2, xs2, by omega, by go_num, hide ⟨HI.out.1.z, HI.out.1.pl, by have := HI.out.2; omega, by have := HI.out.2; omega⟩⟩, by simp [intOf]; omega⟩
  · obtain rfl : i = fl := by omega
    have i1 : ¬ (i : Int) < (i : Int) := by omega
    have hx4 := HR.out.2.2.2
    go_wp2
    clear hx4
    go_loopw [11] (fun jv w' => ∃ (j : Nat) (K : Knd) (G V : Value) (xs : List Q.Gt), j ≤ pl ∧ jv = .int .i64 (j : Int) ∧ Hid (Fz w1 w' K bb (bb + 1) G V xs ∧ U.Plc w' K (bb + 2) ∧ xs.length ≤ 4000 + 4 * j ∧ xs.length ≤ 12000)) (fun jv _ => pl - (intOf jv).toNat)
    case atStart => exact ⟨0, K, G, V, xs, Nat.zero_le _, rfl, hide ⟨HR.out.1, HR.out.2.1, by have := HR.out.2.2.2; omega, by have := HR.out.2.2.2; omega⟩⟩
    case round =>
    clear HR x0 x1
    obtain ⟨j, K, G, V, xs, hj, rfl, HR⟩ := hrel
    rename World => ws
    obtain ⟨x0, x1⟩ := HBx.out ws HR.out.1.bel
    by_cases hlt : j < pl
    · have j1 : (j : Int) < (pl : Int) := by omega
      have j2 : (0 : Int) ≤ (j : Int) := by omega
      obtain ⟨p, hp⟩ : ∃ p, ps[j]? = some p := ⟨_, List.getElem?_eq_getElem (by rw [HPs.out]; exact hlt)⟩
      obtain ⟨g, o, ap, cp, hpp, hg, hc, hy, hcp1, hcp2, hform⟩ := HP.out.lie j p hp
      subst hpp
      have hnl := HP.out.len p (List.mem_of_getElem? hp)
      obtain ⟨n, hn⟩ : ∃ n, p.length = n := ⟨_, rfl⟩
      rw [hn] at hc hcp1 hnl
      have HCp : Hid (∀ w', Below w1.heap.size w1 w' → Bytes w' ap p ∧ w'.cell? ⟨g, o + j, none⟩ = some (.slice ap n cp)) := fun w' hb => ⟨hy.below hb, (hb.cell (p := ⟨g, o + j, none⟩) hg).trans hc⟩
      have HBl := hide (bytes_blk hy)
      have HN := hide hn
      have HFm := hide hform
      clear hp hg hc hy hform hn
      obtain ⟨hby, y0⟩ := HCp.out ws HR.out.1.bel
      have HO := hide (U.other_any ws ap n cp p HN.out hby hnl)
      clear hby
      go_wp2_with fail
      refine HO.out.mono ?_
      rintro e0 wa ⟨op, oc, ys, rfl, hyl, hyb, hylo, hyf, hyc, hyc2, hba⟩
      have mka := kpf hba K (9, 4)
      have HZa := hide (HR.out.1.kp mka (fun e => e) (fun _ e => e) (fun e => e) (fun _ _ e => e))
      have HPa := hide (HR.out.2.1.kept mka (fun _ e => e))
      have HOt : Hid (Wt wa (ext K ws.heap.size (9, 4)) (9, 4) op ys) := Wt.new (9, 4) hyb (fun p hp => (hylo p hp).1)
      have HYl := hide hyl
      have HYf := hide hyf
      have hoc2 : oc ≤ 9223372036854775807 := by unfold maxLen at hyc2; omega
      generalize ext K ws.heap.size (9, 4) = Ka at *
      clear hyl hyb hylo hyf hyc2 hba mka HO x0 x1 y0
      obtain ⟨x0, x1⟩ := HBx.out wa HZa.out.bel
      obtain ⟨hby, y0⟩ := HCp.out wa HZa.out.bel
      have HPb := hide (U.pbytes_any wa Ka (bb + 2) HPa.out ap n cp p hby HN.out hnl (HBl.out.imp id (fun e g2 q e2 => ⟨Nat.lt_of_lt_of_le (e g2 q e2) HZa.out.bel.size, HZa.out.kz g2 (e g2 q e2)⟩)))
      have HPsm := hide hby.small
      clear hby
      go_wp2_with fail
      refine HPb.out.mono ?_
      rintro e0 wb ⟨Kb, a, c, rfl, hab, hpl1, hkb, hak⟩
      have HBi : Hid (Bi w1 wb Kb bb (bb + 1) (bb + 2) G V xs a n c p op ys) := ⟨HZa.out.kp hkb (fun e => by cases e) (fun _ e => by cases e) (fun e => by cases e) (fun _ _ e => by cases e), hpl1, HOt.out.kp hkb (fun e => by cases e), HPsm.out, HN.out⟩
      clear hab hpl1 hkb hak HPb HZa HPa HOt x0 x1 y0
      go_wp2
      go_loopw [14] (fun kv w' => ∃ (k : Nat) (K : Knd) (G V : Value) (xs : List Q.Gt), k ≤ 4 ∧ kv = .int .i64 (k : Int) ∧ Hid (Bi w1 w' K bb (bb + 1) (bb + 2) G V xs a n c (if k ≤ 2 then p else ys) op ys ∧ (j < 2000 → xs.length ≤ 4000 + 4 * j + k) ∧ (2000 ≤ j → xs.length ≤ 12000))) (fun kv _ => 4 - (intOf kv).toNat)
      case atStart => exact ⟨0, Kb, G, V, xs, Nat.zero_le _, rfl, hide ⟨HBi.out, fun _ => by have := HR.out.2.2; omega, fun _ => HR.out.2.2.2⟩⟩
      case round =>
      clear HBi HR
      obtain ⟨k, Kz, G3, V3, xs3, hk, rfl, HI⟩ := hrel
      rename World => wz
      obtain ⟨x0, x1⟩ := HBx.out wz HI.out.1.z.bel
      obtain ⟨hby, y0⟩ := HCp.out wz HI.out.1.z.bel
      have HBd := hide HI.out.2
      have HNp := hide hby
      clear hby
      by_cases hk4 : k < 4
      · have k1 : (k : Int) < 4 := by omega
        go_upto_if 122 with (fail)
        go_cut [] from 114 to 161 (fun wc => ∃ (Kc : Knd) (cur : List Nat), Hid (Bi w1 wc Kc bb (bb + 1) (bb + 2) G3 V3 xs3 a n c cur op ys ∧ cur = if k + 1 ≤ 2 then p else ys))
        case first =>
          by_cases hk2 : k = 2
          · subst hk2
            have HBy : Hid (Bi w1 wz Kz bb (bb + 1) (bb + 2) G3 V3 xs3 a n c p op ys) := HI.out.1
            have HIn := hide (HBy.out.into oc HYl.out hnl)
            go_wp2_with fail
            refine HIn.out.mono ?_
            rintro e0 wy ⟨rfl, hbi, hbel⟩
            have HBz := hide hbi
            clear hbi hbel HIn HBy
            go_wp2
            go_meet
            exact ⟨Kz, ys, hide ⟨HBz.out, rfl⟩⟩
          · have k2 : ((k : Int) == 2) = false := by simp; omega
            go_wp2
            go_meet
            refine ⟨Kz, _, hide ⟨HI.out.1, ?_⟩⟩
            by_cases h2 : k ≤ 2
            · rw [if_pos h2, if_pos (by omega)]
            · rw [if_neg h2, if_neg (by omega)]
        case rest =>
          obtain ⟨Kc, cur, HBc⟩ := hcut
          have HBz := hide HBc.out.1
          have HCk := hide HBc.out.2
          clear HBc HI x0 x1 y0 HNp
          rename World => wz2
          have HNp := hide (HCp.out wz2 HBz.out.z.bel).1
          go_upto_if 127 with (fail)
          go_cut [15] from 114 to 161 (fun s15 wc => ∃ (np : Option Addr) (nc : Nat), s15 = .slice np n nc ∧ n ≤ nc ∧ nc ≤ 9223372036854775807 ∧ Hid (wc = wz2) ∧ Hid (Bytes wz2 np cur ∧ ((nc = 0 ∧ cur = []) ∨ ∃ g o, np = some ⟨g, o, none⟩)))
          case first =>
            by_cases hk2 : k < 2
            · have k3 : ¬ (2 : Int) ≤ (k : Int) := by omega
              have e1 : cur = p := by rw [HCk.out, if_pos (by omega)]
              have HS : Hid (Bytes wz2 ap cur ∧ ((cp = 0 ∧ cur = []) ∨ ∃ g o, ap = some ⟨g, o, none⟩)) := by show _ ∧ _; rw [e1]; exact ⟨HNp.out, HFm.out⟩
              clear e1
              go_wp2
              go_meet
              exact ⟨ap, cp, rfl, hcp1, by omega, rfl, HS⟩
            · have k3 : (2 : Int) ≤ (k : Int) := by omega
              have e1 : cur = ys := by rw [HCk.out, if_neg (by omega)]
              have HS : Hid (Bytes wz2 op cur ∧ ((oc = 0 ∧ cur = []) ∨ ∃ g o, op = some ⟨g, o, none⟩)) := by show _ ∧ _; rw [e1]; exact ⟨HBz.out.ot.by_, HYf.out⟩
              clear e1
              go_wp2
              go_meet
              exact ⟨op, oc, rfl, hyc, hoc2, rfl, HS⟩
          case rest =>
            obtain ⟨np, nc, rfl, hnc, hnc2, hwz, HS⟩ := hcut
            rename World => wz
            have hwz' : wz = wz2 := hwz
            subst hwz'
            have HNw := hide HS.out.1
            have HNf := hide HS.out.2
            clear hwz HS HNp
            obtain ⟨Kz, hKz⟩ : ∃ Kz, Kc = Kz := ⟨_, rfl⟩
            subst hKz
            have hcb := HBz.out.bytes
            have HDc := hide (dec_uni wz a n c cur HBz.out.ln hcb.2.1 (by have := hcb.2.2; unfold maxLen at this; omega) hcb.1 (HT.out wz HBz.out.z.bel))
            obtain ⟨hFs, hFl⟩ := decF_ok HBz.out.sm
            obtain ⟨r, hr⟩ : ∃ r, decT cur = r := ⟨_, rfl⟩
            obtain ⟨F, hF⟩ : ∃ F, decF cur = F := ⟨_, rfl⟩
            have HRd := hide (fun w' hb => rdec_uni w' np n nc cur HBz.out.ln hnc hnc2 hnl hb HNf.out)
            rw [hr, hF] at HDc HRd
            rw [hF] at hFs hFl
            obtain ⟨fr, tt, mine, yours, seq, ack, bd⟩ := F
            obtain ⟨n2, hn2⟩ : ∃ n2, bd.length = n2 := ⟨_, rfl⟩
            have HEf := hide (fun w' sp sq c1 c2 h1 h2 => eqfr_any w' ⟨fr, tt, mine, yours, seq, ack, bd⟩ ⟨fr, tt, mine, yours, seq, ack, bd⟩ sp sq c1 c2 h1 h2 (by have := hFl; show bd.length ≤ _; simp only at this; omega) (by have := hFl; show bd.length ≤ _; simp only at this; omega))
            simp only [frV, hn2] at HDc HRd HEf
            have hFl2 : n2 ≤ 2048 := by rw [← hn2]; exact hFl
            have HFs : Hid (∀ x ∈ bd, x < 256) := hFs
            have HN2 := hide hn2
            have hrr : (r != r) = false := by cases r <;> rfl
            clear hr hF hFs hFl hn2 hcb
            go_wp2_with fail
            refine HDc.out.mono ?_
            rintro e0 wA ⟨sq, rfl, hmi, hbA⟩
            have HAn1 : Hid (An wA (ext Kc wz.heap.size (7, xs3.length)) xs3.length sq n2 bd) := by
              have := An.new (K := Kc) xs3.length hmi HFs.out (by rw [HN2.out]; omega)
              rw [HN2.out] at this
              exact this
            have HB1 := hide (HBz.out.below hbA (7, xs3.length))
            have HNw1 : Hid (Bytes wA np cur) := HNw.out.below hbA
            generalize ext Kc wz.heap.size (7, xs3.length) = KA at *
            clear hmi hbA HDc
            go_upto_region 37 with (fail)
            obtain ⟨wA1, hwA1⟩ : ∃ v, wA.alloc (.cells #[.int .i64 fr, .int .i64 tt, .int .u64 (mine : Int), .int .u64 (yours : Int), .int .u64 (seq : Int), .int .u64 (ack : Int), .slice sq n2 n2] 57) = v := ⟨_, rfl⟩
            rw [hwA1]
            have hbA1 : Below wA.heap.size wA wA1 := by rw [← hwA1]; exact (Below.refl _ _).alloc (Nat.le_refl _) _
            have HB2 := hide (HB1.out.below hbA1 (9, 1))
            have HAn2 := hide (HAn1.out.kp (kpf hbA1 KA (9, 1)) (fun e => e))
            have HX2 : Hid (Fb wA1 (ext KA wA.heap.size (9, 1)) wA.heap.size #[.int .i64 fr, .int .i64 tt, .int .u64 (mine : Int), .int .u64 (yours : Int), .int .u64 (seq : Int), .int .u64 (ack : Int), .slice sq n2 n2]) := ⟨by rw [← hwA1]; exact heap_alloc_new _ _, ext_new _ _ (Nat.le_refl _)⟩
            have HNw2 : Hid (Bytes wA1 np cur) := HNw1.out.below hbA1
            generalize ext KA wA.heap.size (9, 1) = KA1 at *
            clear hwA1 hbA1 HB1 HAn1 HNw1
            go_wp2_with fail
            refine (HRd.out _ HNw2.out).mono ?_
            rintro e0 wB ⟨sq2, k2, rfl, hby2, hlo2, hbB⟩
            have HB3 := hide (HB2.out.below hbB (9, 5))
            have HAn3 := hide (HAn2.out.kp (kpf hbB KA1 (9, 5)) (fun e => e))
            have HX3 := hide (HX2.out.kp (kpf hbB KA1 (9, 5)) (fun e => e))
            have HW3 : Hid (Wt wB (ext KA1 wA1.heap.size (9, 5)) (9, 5) sq2 bd) := Wt.new (9, 5) hby2 hlo2
            have HNw3 : Hid (Bytes wB np cur) := HNw2.out.below hbB
            generalize ext KA1 wA1.heap.size (9, 5) = KB at *
            clear hby2 hlo2 hbB HB2 HAn2 HX2 HNw2 HRd
            go_upto_region 38 with (fail)
            obtain ⟨wB1, hwB1⟩ : ∃ v, wB.alloc (.cells #[.int .i64 fr, .int .i64 tt, .int .u64 (mine : Int), .int .u64 (yours : Int), .int .u64 (seq : Int), .int .u64 (ack : Int), .slice sq2 n2 k2] 57) = v := ⟨_, rfl⟩
            rw [hwB1]
            have hbB1 : Below wB.heap.size wB wB1 := by rw [← hwB1]; exact (Below.refl _ _).alloc (Nat.le_refl _) _
            have HB4 := hide (HB3.out.below hbB1 (9, 1))
            have HAn4 := hide (HAn3.out.kp (kpf hbB1 KB (9, 1)) (fun e => e))
            have HX4 := hide (HX3.out.kp (kpf hbB1 KB (9, 1)) (fun e => e))
            have HW4 := hide (HW3.out.kp (kpf hbB1 KB (9, 1)) (fun e => e))
            have HY4 : Hid (Fb wB1 (ext KB wB.heap.size (9, 1)) wB.heap.size #[.int .i64 fr, .int .i64 tt, .int .u64 (mine : Int), .int .u64 (yours : Int), .int .u64 (seq : Int), .int .u64 (ack : Int), .slice sq2 n2 k2]) := ⟨by rw [← hwB1]; exact heap_alloc_new _ _, ext_new _ _ (Nat.le_refl _)⟩
            have HNw4 : Hid (Bytes wB1 np cur) := HNw3.out.below hbB1
            generalize ext KB wB.heap.size (9, 1) = KB1 at *
            clear hwB1 hbB1 HB3 HAn3 HX3 HW3 HNw3
            obtain ⟨c0, c1, c2, c3, c4, c5, c6, cf⟩ := blk7 HX4.out.blk
            obtain ⟨d0, d1, d2, d3, d4, d5, d6, df⟩ := blk7 HY4.out.blk
            go_wp2_with fail
            refine (HEf.out _ sq sq2 n2 k2 HAn4.out.bytes HW4.out.by_).mono ?_
            rintro e0 wC ⟨rq, rfl, hrq, hbC⟩
            obtain rfl : rq = true := hrq.2 (by first | trivial | rfl)
            have HB5 := hide (HB4.out.below hbC (9, 9))
            have HAn5 := hide (HAn4.out.kp (kpf hbC KB1 (9, 9)) (fun e => e))
            have HX5 := hide (HX4.out.kp (kpf hbC KB1 (9, 9)) (fun e => e))
            have HY5 := hide (HY4.out.kp (kpf hbC KB1 (9, 9)) (fun e => e))
            have HW5 := hide (HW4.out.kp (kpf hbC KB1 (9, 9)) (fun e => e))
            have HNw5 : Hid (Bytes wC np cur) := HNw4.out.below hbC
            generalize ext KB1 wB1.heap.size (9, 9) = KC at *
            clear hrq hbC HB4 HAn4 HX4 HY4 HW4 HNw4 HEf c0 c1 c2 c3 c4 c5 c6 cf d0 d1 d2 d3 d4 d5 d6 df
            have HQ := hide (eq_val wC a np n n c nc cur cur HB5.out.ln HB5.out.ln (by omega) (by omega) HB5.out.bytes.1 HNw5.out)
            rw [decide_eq_true (rfl : cur = cur)] at HQ
            go_wp2_with fail
            refine HQ.out.mono ?_
            rintro e0 wD ⟨rfl, qd, hwD⟩
            have hbD : Below wC.heap.size wC wD := by rw [hwD]; exact drew_below wC qd
            have HB6 := hide (HB5.out.below hbD (9, 9))
            have HAn6 := hide (HAn5.out.kp (kpf hbD KC (9, 9)) (fun e => e))
            have HX6 := hide (HX5.out.kp (kpf hbD KC (9, 9)) (fun e => e))
            have HY6 := hide (HY5.out.kp (kpf hbD KC (9, 9)) (fun e => e))
            have HW6 := hide (HW5.out.kp (kpf hbD KC (9, 9)) (fun e => e))
            generalize ext KC wC.heap.size (9, 9) = KD at *
            clear hwD hbD HB5 HAn5 HX5 HY5 HW5 HNw5 HQ
            obtain ⟨c0, c1, c2, c3, c4, c5, c6, cf⟩ := blk7 HX6.out.blk
            obtain ⟨d0, d1, d2, d3, d4, d5, d6, df⟩ := blk7 HY6.out.blk
            by_cases h2000 : j < 2000
            · have j3 : (j : Int) < 2000 := by omega
              have hxs3 : xs3.length ≤ 20000 := by have := HBd.out.1 h2000; omega
              have HA := hide (Q.late_add _ wD (bb + 1) G3 V3 xs3 sq n2 n2 bd sq2 k2 HB6.out.z.late HAn6.out.row HAn6.out.kind (HW6.out.late (by simp)) (by omega) hxs3)
              go_wp2_with fail
              refine HA.out.mono ?_
              rintro e0 wE ⟨rfl, G9, V9, wp, wc, hl9, hk9⟩
              have HB7 := hide (HB6.out.more hl9 hk9)
              clear hl9 hk9 HA
              have HF : Hid (Bi w1 wE (ext KD wD.heap.size (6, 0)) bb (bb + 1) (bb + 2) G9 V9 (xs3 ++ [⟨sq, n2, n2, bd, wp, wc⟩]) a n c (if k + 1 ≤ 2 then p else ys) op ys) := by have h1 := HB7.out; rw [HCk.out] at h1; exact h1
              go_wp2
              go_roundw
              case rel => first | exact ⟨k + 1, _, G9, V9, _, by omega, by go_num, hide ⟨HF.out, fun h => (by have := HBd.out.1 h; simp; omega), fun h => (by omega)⟩⟩ | ((repeat apply Exists.intro); exact ⟨⟨k + 1, _, G9, V9, _, by omega, by go_num, hide ⟨HF.out, fun h => (by have := HBd.out.1 h; simp; omega), fun h => (by omega)⟩⟩, rfl⟩)
              case measure => simp [intOf]; omega
            · have j3 : ¬ (j : Int) < 2000 := by omega
              have HF : Hid (Bi w1 wD KD bb (bb + 1) (bb + 2) G3 V3 xs3 a n c (if k + 1 ≤ 2 then p else ys) op ys) := by have h1 := HB6.out; rw [HCk.out] at h1; exact h1
              go_wp2
              go_roundw
              case rel => first | exact ⟨k + 1, KD, G3, V3, xs3, by omega, by go_num, hide ⟨HF.out, fun h => (by omega), HBd.out.2⟩⟩ | ((repeat apply Exists.intro); exact ⟨⟨k + 1, KD, G3, V3, xs3, by omega, by go_num, hide ⟨HF.out, fun h => (by omega), HBd.out.2⟩⟩, rfl⟩)
              case measure => simp [intOf]; omega
      · obtain rfl : k = 4 := by omega
        have k1 : ¬ ((4 : Nat) : Int) < 4 := by omega
        have HPl : Hid (U.Plc wz Kz (bb + 2)) := HI.out.1.pl.plc
        have HZ4 := hide HI.out.1.z
        have HL := hide (U.lend_any wz ap n cp p HN.out HNp.out hnl)
        clear HI HNp
        go_wp2_with fail
        refine HL.out.mono ?_
        rintro e0 wl ⟨gl, cl, rfl, hol, hbl⟩
        have mkl := kpf hbl Kz (9, 2)
        have HZ5 := hide (HZ4.out.kp mkl (fun e => e) (fun _ e => e) (fun e => e) (fun _ _ e => e))
        have HP5 := hide (HPl.out.kept mkl (fun _ e => e))
        have HLe5 : Hid (Le wl (ext Kz wz.heap.size (9, 2)) gl cl p) := Le.new hol HPsm.out
        have hcl : n ≤ cl ∧ cl ≤ 9223372036854775807 := by
          rcases hol.2 with ⟨h1, _⟩ | ⟨_, _, _, h1, _, _, h4, h5, _⟩
          · cases h1
          · cases h1; unfold maxLen at h5; omega
        have HDc := hide (dec_uni wl (some ⟨gl, 0, none⟩) n cl p HN.out hcl.1 hcl.2 HLe5.out.bytes (HT.out wl HZ5.out.bel))
        obtain ⟨F, hF⟩ : ∃ F, decF p = F := ⟨_, rfl⟩
        obtain ⟨r, hr⟩ : ∃ r, decT p = r := ⟨_, rfl⟩
        rw [hF, hr] at HDc
        obtain ⟨X, hX⟩ : ∃ X : Option Addr → Value, X = fun sq => frV F sq F.body.length := ⟨_, rfl⟩
        have HDd : Hid (Calls Tryz.prog 15 #[.slice (some ⟨gl, 0, none⟩) n cl] wl fun e w' => ∃ sq, e = .returned (.tuple #[X sq, .bool r]) ∧ Below wl.heap.size wl w') := HDc.out.mono (fun e w' ⟨sq, h1, _, h2⟩ => ⟨sq, by rw [hX]; exact h1, h2⟩)
        generalize ext Kz wz.heap.size (9, 2) = K5 at *
        clear hol hbl mkl HL HZ4 HPl hcl x0 x1 y0 HDc hF hr hX
        go_wp2_with fail
        refine HDd.out.mono ?_
        rintro e0 wm ⟨sq, rfl, hbm⟩
        have mkm := kpf hbm K5 (9, 9)
        have HZ6 := hide (HZ5.out.kp mkm (fun e => e) (fun _ e => e) (fun e => e) (fun _ _ e => e))
        have HP6 := hide (HP5.out.kept mkm (fun _ e => e))
        have HLe6 := hide (HLe5.out.kp mkm (fun e => e))
        generalize ext K5 wl.heap.size (9, 9) = K6 at *
        clear hbm mkm HDd HZ5 HP5 HLe5
        obtain ⟨x0, x1⟩ := HBx.out wm HZ6.out.bel
        obtain ⟨hby, y0⟩ := HCp.out wm HZ6.out.bel
        have HIn := hide (U.intact_any wm 0 gl cl n ap cp p HN.out HLe6.out.own hby hnl)
        clear hby
        go_wp2_with fail
        refine HIn.out.mono ?_
        rintro e0 wn ⟨rfl, qn, hwn⟩
        have hbn : Below wm.heap.size wm wn := by rw [hwn]; exact drew_below wm qn
        have mkn := kpf hbn K6 (9, 9)
        have HZ7 := hide (HZ6.out.kp mkn (fun e => e) (fun _ e => e) (fun e => e) (fun _ _ e => e))
        have HP7 := hide (HP6.out.kept mkn (fun _ e => e))
        have HB7 : Hid (xs3.length ≤ 4000 + 4 * (j + 1) ∧ xs3.length ≤ 12000) := by
          have h1 := HBd.out.1
          have h2 := HBd.out.2
          by_cases hq : j < 2000
          · have := h1 hq; exact ⟨by omega, by omega⟩
          · have := h2 (by omega); exact ⟨by omega, by omega⟩
        generalize ext K6 wm.heap.size (9, 9) = K7 at *
        clear hwn hbn mkn HIn HZ6 HP6 HLe6 x0 x1 y0
        go_wp2
        first
          | exact ⟨⟨j + 1, K7, G3, V3, xs3, by omega, by go_num, hide ⟨HZ7.out, HP7.out, HB7.out.1, HB7.out.2⟩⟩, by simp [intOf]; omega⟩
          | (go_roundw
             case rel => exact ⟨j + 1, K7, G3, V3, xs3, by omega, by go_num, hide ⟨HZ7.out, HP7.out, HB7.out.1, HB7.out.2⟩⟩
             case measure => simp [intOf]; omega)
    · obtain rfl : j = pl := by omega
      have j1 : ¬ (j : Int) < (j : Int) := by omega
      have hx12 := HR.out.2.2.2
      have HSt := hide (Q.late_settle K ws (bb + 1) G V xs bb (.slice none 0 0) (.slice none 0 0) 0 0 0 0 [] 0 HR.out.1.late HR.out.1.book Q.jn_empty (by omega))
      go_wp2_with fail
      refine HSt.out.mono ?_
      rintro e0 wa ⟨rfl, Ka, L2, M2, A2, tn2, dn2, us2, ks2, hbt, hjn, hka⟩
      have HBa : Hid (Below w1.heap.size w1 wa) := hka.below HR.out.1.bel (fun b hb => by rw [HR.out.1.kz b hb]; rintro (e | e | e) <;> cases e)
      have HKa : Hid (∀ b, b < w1.heap.size → Ka b = (0, 0)) := fun b hb => (hka.same b (Nat.lt_of_lt_of_le hb HR.out.1.bel.size)).trans (HR.out.1.kz b hb)
      have HLk := hide (Q.bt_look (Q.PL xs.length) (Or.inl rfl) Ka wa bb L2 M2 A2 tn2 dn2 us2 ks2 (0 + xs.length) hbt hjn (by omega))
      clear hbt hjn hka HSt HR x0 x1
      go_wp2_with fail
      refine HLk.out.mono ?_
      rintro e0 wb ⟨rfl, L3, M3, A3, dn3, ks3, -, -, hkb⟩
      have HBb : Hid (Below w1.heap.size w1 wb) := hkb.below HBa.out (fun b hb => by
        rw [HKa.out b hb]
        rintro (e | e | e | e)
        · cases e
        · cases e
        · cases e
        · exact absurd e.1 (by decide))
      clear hkb HLk
      go_wp2_with fail
      refine (HBg.out wb HBb.out).mono ?_
      rintro e0 wc ⟨rfl, hbc⟩
      have HBc := hide (HB1.out.trans ((HBb.out.trans (hbc.mono HBb.out.size)).mono HB1.out.size))
      clear hbc
      go_wp2
      go_ret
      exact ⟨rfl, HBc.out⟩
end Go.Proofs.YtjjhpffkeloadaaGreatDoor
