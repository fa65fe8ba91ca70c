import Derived.Test.YtfdanocpbhbieaaGreatShF
import Derived.Test.YtfdanocpbhbieaaGreatShH
namespace Go.Proofs.YtfdanocpbhbieaaGreat
open Go.RowKit Go.Shelf

/-! What is left, as data. -/
def negT (x : Tri) : Tri := ⟨x.a, x.b, wrap64 (-x.n)⟩
def subsT (l rs : List Tri) : List Tri := rs.foldl (fun l x => putT l (negT x)) l
def memK (l : List Tri) (k : Int × Int) : Prop := ∃ x ∈ l, keyT x = k
theorem wrap64_wrap (n : Int) : wrap64 (wrap64 n) = wrap64 n := wrap_wf (wrap64_wf n)
theorem subsT_sorted {l : List Tri} (rs : List Tri) (h : l.Pairwise ltT) : (subsT l rs).Pairwise ltT := by
  induction rs generalizing l with
  | nil => exact h
  | cons x rs ih => exact ih (putT_sorted _ h)
theorem subsT_mem (l rs : List Tri) (k : Int × Int) : memK (subsT l rs) k ↔ memK l k ∨ memK rs k := by
  induction rs generalizing l with
  | nil => simp [subsT, memK]
  | cons x rs ih =>
    show memK (subsT (putT l (negT x)) rs) k ↔ _
    rw [ih]
    have h1 : memK (putT l (negT x)) k ↔ memK l k ∨ k = keyT x := putT_mem l (negT x) k
    have h2 : memK (x :: rs) k ↔ keyT x = k ∨ memK rs k := ex_cons
    rw [h1, h2]
    constructor
    · rintro ((h | h) | h)
      · exact Or.inl h
      · exact Or.inr (Or.inl h.symm)
      · exact Or.inr (Or.inr h)
    · rintro (h | h | h)
      · exact Or.inl (Or.inl h)
      · exact Or.inl (Or.inr h.symm)
      · exact Or.inr h
theorem subsT_look {l rs : List Tri} (hs : l.Pairwise ltT) (hn : (rs.map keyT).Nodup) (k : Int × Int) : (memK rs k → lookT (subsT l rs) k = wrap64 (lookT l k + wrap64 (-(lookT rs k)))) ∧ (¬ memK rs k → lookT (subsT l rs) k = lookT l k) := by
  induction rs generalizing l with
  | nil => exact ⟨fun h => by simp [memK] at h, fun _ => rfl⟩
  | cons x rs ih =>
    have hn' := List.nodup_cons.1 hn
    have h2 : memK (x :: rs) k ↔ keyT x = k ∨ memK rs k := ex_cons
    obtain ⟨i1, i2⟩ := ih (putT_sorted (negT x) hs) hn'.2
    have hl := putT_look hs (negT x) (wrap64_wrap _) k
    have hk : keyT (negT x) = keyT x := rfl
    rw [hk] at hl
    constructor
    · intro h
      by_cases hx : keyT x = k
      · have hno : ¬ memK rs k := fun ⟨y, hy, e⟩ => hn'.1 (List.mem_map.2 ⟨y, hy, by rw [e, hx]⟩)
        show lookT (subsT (putT l (negT x)) rs) k = _
        rw [i2 hno, hl, if_pos hx.symm, lookT_cons, if_pos hx]
        rfl
      · have hin : memK rs k := (h2.1 h).resolve_left hx
        show lookT (subsT (putT l (negT x)) rs) k = _
        rw [i1 hin, hl, if_neg (fun e => hx e.symm), lookT_cons, if_neg hx]
    · intro h
      have hx : ¬ keyT x = k := fun e => h (h2.2 (Or.inl e))
      show lookT (subsT (putT l (negT x)) rs) k = _
      rw [i2 (fun e => h (h2.2 (Or.inr e))), hl, if_neg (fun e => hx e.symm)]
theorem sorted_ext {l l' : List Tri} (h : l.Pairwise ltT) (h' : l'.Pairwise ltT) (hm : ∀ k, memK l k ↔ memK l' k) (hv : ∀ k, lookT l k = lookT l' k) : l = l' := by
  have hk : (l.map keyT).Pairwise ltK := List.pairwise_map.2 (h.imp fun h => h)
  have e1 := sorted_look h hk (fun k => by rw [List.mem_map])
  have e2 := sorted_look h' hk (fun k => by rw [List.mem_map]; exact hm k)
  rw [← e1, ← e2]
  refine List.map_congr_left fun k _ => ?_
  rw [hv k]
theorem keys_nodup {l : List Tri} (h : l.Pairwise ltT) : (l.map keyT).Nodup := by
  have hk : (l.map keyT).Pairwise ltK := List.pairwise_map.2 (h.imp fun h => h)
  exact hk.imp fun {a b} h e => by subst e; unfold ltK at h; omega
/-- The keys that have come, with their numbers. -/
def withN (need : List Tri) (ss : List K64) : List Tri := ss.map fun k => ⟨k.1.1, k.1.2, lookT need k.1⟩
theorem withN_snoc (need : List Tri) (ss : List K64) (k : K64) : withN need (ss ++ [k]) = withN need ss ++ [⟨k.1.1, k.1.2, lookT need k.1⟩] := by simp [withN]
theorem subsT_snoc (l rs : List Tri) (x : Tri) : subsT l (rs ++ [x]) = putT (subsT l rs) (negT x) := by simp [subsT]
theorem withN_keys (need : List Tri) (ss : List K64) : (withN need ss).map keyT = ss.map (·.1) := by simp [withN, keyT]
theorem withN_nodup (need : List Tri) {ss : List K64} (h : ss.Nodup) : ((withN need ss).map keyT).Nodup := by
  rw [withN_keys]
  exact List.pairwise_map.2 (h.imp fun {a b} h e => h (Subtype.ext e))
theorem withN_mem (need : List Tri) (ss : List K64) (k : Int × Int) : memK (withN need ss) k ↔ ∃ x ∈ ss, x.1 = k := by
  constructor
  · rintro ⟨x, hx, rfl⟩
    obtain ⟨y, hy, rfl⟩ := List.mem_map.1 hx
    exact ⟨y, hy, rfl⟩
  · rintro ⟨y, hy, rfl⟩
    exact ⟨_, List.mem_map.2 ⟨y, hy, rfl⟩, rfl⟩
theorem withN_look (need : List Tri) {ss : List K64} {k : Int × Int} (h : memK (withN need ss) k) : lookT (withN need ss) k = lookT need k := by
  induction ss with
  | nil => obtain ⟨x, hx, _⟩ := h; simp [withN] at hx
  | cons y ss ih =>
    show lookT (⟨y.1.1, y.1.2, lookT need y.1⟩ :: withN need ss) k = _
    rw [lookT_cons]
    by_cases hy : keyT ⟨y.1.1, y.1.2, lookT need y.1⟩ = k
    · rw [if_pos hy]
      show lookT need y.1 = _
      have : y.1 = k := hy
      rw [this]
    · rw [if_neg hy]
      have h2 : memK (withN need (y :: ss)) k ↔ keyT ⟨y.1.1, y.1.2, lookT need y.1⟩ = k ∨ memK (withN need ss) k := ex_cons
      exact ih ((h2.1 h).resolve_left hy)
theorem subs_all {l need : List Tri} {ss : List K64} (hl : l.Pairwise ltT) (hn : need.Pairwise ltT) (hs : ss.Nodup) (hm : ∀ k, (∃ x ∈ ss, x.1 = k) ↔ memK need k) : subsT l (withN need ss) = subsT l need := by
  refine sorted_ext (subsT_sorted _ hl) (subsT_sorted _ hl) (fun k => ?_) (fun k => ?_)
  · rw [subsT_mem, subsT_mem, withN_mem, hm]
  · obtain ⟨a1, a2⟩ := subsT_look hl (withN_nodup need hs) k
    obtain ⟨b1, b2⟩ := subsT_look hl (keys_nodup hn) k
    by_cases h : memK need k
    · have hw : memK (withN need ss) k := (withN_mem need ss k).2 ((hm k).2 h)
      rw [a1 hw, b1 h, withN_look need hw]
    · have hw : ¬ memK (withN need ss) k := fun e => h ((hm k).1 ((withN_mem need ss k).1 e))
      rw [a2 hw, b2 h]
def leftT (t : Int) (ps : List Pl) (n : Nat) (zs : List Z.Acd) : List Tri := subsT (addsT [] (heldK t ps n)) (neededT t zs)

/-! A range over such a map. -/
def Rng (w : World) (b r nn : Nat) (l : List Tri) (ss : List K64) : Prop := ∃ (D : DataW Unit) (left : Lit → Bool) (cnt : Nat), w.ranges Tryz.prog 93 (plainElem (H := Unit) Tryz.prog 2) b r nn D left cnt ∧ RelD D l ∧ Coll D left ss ∧ ss.length + cnt ≤ nn
theorem Rng.kept {w w' : World} {b r nn : Nat} {l : List Tri} {ss : List K64} {row : Option Nat} (h : Rng w b r nn l ss) (hg : w.grownBy w' row) (hb : some b ≠ row) (hr : some r ≠ row) : Rng w' b r nn l ss ∧ w'.rangeLeft b r = w.rangeLeft b r := by
  obtain ⟨D, left, cnt, h1, h2⟩ := h
  have h3 := h1.kept hg hb hr
  exact ⟨⟨D, left, cnt, h3, h2⟩, h3.left_eq.trans h1.left_eq.symm⟩
theorem Rng.lt {w : World} {b r nn : Nat} {l : List Tri} {ss : List K64} (h : Rng w b r nn l ss) : b < w.heap.size ∧ r < w.heap.size ∧ r ≠ b := by
  obtain ⟨D, left, cnt, h1, _⟩ := h
  exact ⟨h1.owns.lt, h1.lt, h1.ne⟩
theorem Rng.len {w : World} {b r nn : Nat} {l : List Tri} {ss : List K64} (h : Rng w b r nn l ss) : ss.length ≤ nn := by
  obtain ⟨D, left, cnt, _, _, _, h⟩ := h
  omega
theorem Rng.tal {w : World} {b r nn : Nat} {l : List Tri} {ss : List K64} (h : Rng w b r nn l ss) : Tal w b nn l := by
  obtain ⟨D, left, cnt, h1, h2, _⟩ := h
  exact ⟨D, h1.owns, h2⟩
def DoneP (l : List Tri) (ss : List K64) : Prop := ss.Nodup ∧ (∀ k, (∃ x ∈ ss, x.1 = k) → memK l k) ∧ (∀ x : K64, memK l x.1 → x ∈ ss)
def MoreP (w w' : World) (b r nn : Nat) (l : List Tri) (ss : List K64) (x0 x1 c : Int) : Prop := ∃ x : K64, x.1 = (x0, x1) ∧ lookT l x.1 = c ∧ memK l x.1 ∧ Rng w' b r nn l (ss ++ [x]) ∧ w'.rangeLeft b r < w.rangeLeft b r ∧ w.grownBy w' (some r) ∧ w'.heap.size = w.heap.size
section
variable {ops : Array Oper} {rest : List Oper} {o : Oper} {a : Act} {Q : Exit → Act → World → Prop}
theorem range_tal (w : World) (hg : o.guard = none) (m : Operand) (hop : o.op = Op.range 90 m) (b nn : Nat) (l : List Tri) (hm : a.eval m = .map (some b)) (h : Tal w b nn l)
    (hK : ∀ w', Rng w' b w.heap.size nn l [] → w.grownBy w' none → w'.heap.size = w.heap.size + 1 → wpList Tryz.prog ops Q rest (a.put o.dst (.pointer (some ⟨w.heap.size, 0, none⟩))) w') : wpList Tryz.prog ops Q (o :: rest) a w := by
  obtain ⟨D, ho, hr⟩ := h
  refine wpList_range_own w hg m 90 hop 93 2 Sk.kind_keyed Tryz.underlying90 _ b nn D hm ho ?_
  intro w' h1 h2 h3
  exact hK w' ⟨D, _, _, h1, hr, Coll.start D, by have := ho.size_le; simp; exact this⟩ h2 h3
theorem next_tal (w : World) (hg : o.guard = none) (it : Operand) (hop : o.op = Op.next it false) (b r nn : Nat) (l : List Tri) (ss : List K64) (hit : a.eval it = .pointer (some ⟨r, 0, none⟩)) (h : Rng w b r nn l ss)
    (hDone : DoneP l ss → wpList Tryz.prog ops Q rest (a.put o.dst (.tuple #[.bool false])) w)
    (hMore : ∀ (x0 x1 c : Int) (w' : World), MoreP w w' b r nn l ss x0 x1 c → (Instr.entry (.pointer (some ⟨r, 0, none⟩))).run Tryz.prog w' = .ok (.tuple #[.agg #[.int .i64 x0, .int .i64 x1], .int .i64 c]) w' → wpList Tryz.prog ops Q rest (a.put o.dst (.tuple #[.bool true, .agg #[.int .i64 x0, .int .i64 x1], .int .i64 c])) w') :
    wpList Tryz.prog ops Q (o :: rest) a w := by
  obtain ⟨D, left, cnt, h1, h2, h3, h4⟩ := h
  refine wpList_next_ranges w hg it hop 93 Sk.kind_keyed (plainElem (H := Unit) Tryz.prog 2) (fun x : K64 => kv x.1) (Value.int .i64) (fun key kl hk => by obtain ⟨x, hx, _⟩ := Sk.kind_inv hk; exact ⟨x, hx⟩) (fun v y hv => by obtain ⟨c, rfl, _⟩ := plainElem_int_inv Tryz.underlying2 hv; exact ⟨c, rfl⟩) b r nn D left cnt hit h1 ?_ ?_
  · intro _ hl
    refine hDone ⟨h3.1, ?_, ?_⟩
    · rintro k ⟨x, hx, rfl⟩
      exact (h2.has x).1 ((h3.2 x).1 hx).1
    · intro x hx
      exact (h3.2 x).2 ⟨(h2.has x).2 hx, hl _⟩
  · intro x c kl y w' cnt' hkey hlk hv hat hrg hlt hgr hsz hen
    obtain ⟨x', ex, rfl⟩ := Sk.kind_inv hkey
    obtain rfl : x = x' := Subtype.ext (kv_inj ex)
    obtain ⟨c', ec, rfl, _⟩ := plainElem_int_inv Tryz.underlying2 hv
    cases ec
    have hc : lookT l x.1 = c := by
      have := h2.at_ x
      rw [hat] at this
      simpa using this.symm
    have hcl := h3.step kinj hlk hat
    exact hMore x.1.1 x.1.2 c w' ⟨x, rfl, hc, (h2.has x).1 (Maps.has_true_of_atKey hat), ⟨D, _, cnt', hrg, h2, hcl, by simp; omega⟩, by rw [hrg.left_eq, h1.left_eq]; exact hlt, hgr, hsz⟩ hen
end
end Go.Proofs.YtfdanocpbhbieaaGreat
namespace Go.Proofs.YtfdanocpbhbieaaGreat
open Go.RowKit Go.Shelf
open Z (Sli SlOk Acd AcdOk Acts)
attribute [local go_sem] Oper.semAt_some

/-- What the numbers of a state may be. -/
def StaWf (s : Sta) : Prop := ∀ p ∈ s.pools, ∀ h ∈ p.hs, LinWf h
theorem nat_wf {k : Nat} (h : k ≤ 4194304) : (Lit.int .i64 (k : Int)).wf = true := by simp [Lit.wf, IntKind.min, IntKind.max, IntKind.signed, IntKind.bits]; omega
theorem waysK_wf {i q : Nat} {h : Lin} (hi : i ≤ 4194304) (hh : LinWf h) : ∀ r ∈ waysK i h q, TriWf r := by
  have h0 : ∀ r ∈ (if 1 ≤ h.c then [⟨i, 0, h.c⟩] else [] : List Tri), TriWf r := fun r hr => by
    split at hr
    · simp at hr; subst hr; exact ⟨nat_wf hi, rfl, hh.1⟩
    · simp at hr
  have h1 : ∀ r ∈ (if 1 ≤ h.n then [⟨i, 1, h.n⟩] else [] : List Tri), TriWf r := fun r hr => by
    split at hr
    · simp at hr; subst hr; exact ⟨nat_wf hi, rfl, hh.2⟩
    · simp at hr
  match q with
  | 0 => intro r hr; simp [waysK] at hr
  | 1 => exact h0
  | q + 2 => intro r hr; rcases List.mem_append.1 hr with hr | hr; exact h0 r hr; exact h1 r hr
theorem heldK_wf {t : Int} {ps : List Pl} (hw : ∀ p ∈ ps, ∀ h ∈ p.hs, LinWf h) : ∀ (k : Nat), k ≤ 4194304 → ∀ r ∈ heldK t ps k, TriWf r := by
  intro k
  induction k with
  | zero => intro _ r hr; simp [heldK] at hr
  | succ k ih =>
    intro hk r hr
    rw [heldK] at hr
    rcases List.mem_append.1 hr with hr | hr
    · exact ih (by omega) r hr
    · split at hr
      · rename_i p hp
        unfold poolT at hr
        split at hr
        · rename_i ha
          have hm : getAt p.hs ⟨0, 0⟩ t ∈ p.hs := by
            rcases getAt_mem p.hs ⟨0, 0⟩ t with h | h
            · exact h
            · simp only [hasAt, decide_eq_true_eq] at ha
              unfold getAt
              rw [if_pos ha.1, List.getD_eq_getElem?_getD, List.getElem?_eq_getElem (by omega)]
              exact List.getElem_mem _
          exact waysK_wf (by omega) (hw p (List.mem_of_getElem? hp) _ hm) r hr
        · simp at hr
      · simp at hr
theorem putT_wf {l : List Tri} {r : Tri} (hl : ∀ x ∈ l, TriWf x) (hr : TriWf r) : ∀ x ∈ putT l r, TriWf x := by
  induction l with
  | nil => intro x hx; simp [putT] at hx; subst hx; exact hr
  | cons y l ih =>
    intro x hx
    unfold putT at hx
    split at hx
    · rcases List.mem_cons.1 hx with rfl | hx
      · exact ⟨(hl y (List.mem_cons_self ..)).1, (hl y (List.mem_cons_self ..)).2.1, wrap64_wf _⟩
      · exact hl x (List.mem_cons_of_mem _ hx)
    · split at hx
      · rcases List.mem_cons.1 hx with rfl | hx
        · exact hr
        · exact hl x hx
      · rcases List.mem_cons.1 hx with rfl | hx
        · exact hl _ (List.mem_cons_self ..)
        · exact ih (fun z hz => hl z (List.mem_cons_of_mem _ hz)) x hx
theorem addsT_wf {l rs : List Tri} (hl : ∀ x ∈ l, TriWf x) (hr : ∀ x ∈ rs, TriWf x) : ∀ x ∈ addsT l rs, TriWf x := by
  induction rs generalizing l with
  | nil => exact hl
  | cons y rs ih => exact ih (putT_wf hl (hr y (List.mem_cons_self ..))) (fun z hz => hr z (List.mem_cons_of_mem _ hz))
theorem rightsOf_wf {a : Acd} (h : AwS a) : ∀ x ∈ rightsOf a, TriWf x := by
  unfold rightsOf
  split
  · split
    · exact needT_wf h.lines
    · simp
  · split
    · intro x hx; simp at hx; subst hx; exact h.right
    · split
      · exact h.rights
      · simp
theorem neededT_wf {t : Int} {zs : List Acd} (h : ∀ a ∈ zs, AwS a) : ∀ x ∈ neededT t zs, TriWf x := by
  suffices hh : ∀ l : List Tri, (∀ x ∈ l, TriWf x) → ∀ x ∈ zs.foldl (needOne t) l, TriWf x from hh [] (by simp)
  induction zs with
  | nil => intro l hl; exact hl
  | cons a zs ih =>
    intro l hl
    refine ih (fun z hz => h z (List.mem_cons_of_mem _ hz)) _ ?_
    unfold needOne
    split
    · exact addsT_wf hl (rightsOf_wf (h a (List.mem_cons_self ..)))
    · exact hl
theorem sub_wrap (x n : Int) : IntKind.i64.wrap (x - n) = wrap64 (x + wrap64 (-n)) := by
  rw [wrap_eq]
  unfold wrap64
  omega

set_option maxRecDepth 100000 in
set_option maxHeartbeats 4000000 in
theorem left_any (w : World) (s : Sta) (hs : StaOk w s) (hsw : StaWf s) (hpn : s.pn ≤ 4194304) (hhl : ∀ p ∈ s.pools, p.hl ≤ 4194304) (z : Sli Acd) (hz : Acts w z) (hzw : ∀ a ∈ z.xs, AwS a) (hzn : z.n ≤ 65536) (t : Int) :
    Calls Tryz.prog 27 #[.agg s.arr, .slice z.p z.n z.c, .int .i64 t] w fun e w' => ∃ b nn, e = .returned (.map (some b)) ∧ w.heap.size ≤ b ∧ nn ≤ z.n * 4194305 + 8388608 ∧ Tal w' b nn (leftT t s.pools s.pn z.xs) ∧ Below w.heap.size w w' := by
  show Calls Tryz.prog 27 #[.agg #[.int .u64 s.pos, .slice s.pp s.pn s.pc, .slice s.rp s.rn s.rc, .slice s.lp s.ln s.lc, .slice s.gp s.gn s.gc, .slice s.op s.on s.oc], .slice z.p z.n z.c, .int .i64 t] w _
  obtain ⟨b, hb⟩ : ∃ b, w.heap.size + 1 = b := ⟨_, rfl⟩
  obtain ⟨w2, hw2⟩ : ∃ w2, (w.alloc (.cells #[.int .u64 s.pos, .slice s.pp s.pn s.pc, .slice s.rp s.rn s.rc, .slice s.lp s.ln s.lc, .slice s.gp s.gn s.gc, .slice s.op s.on s.oc] 51)).alloc (.map #[] 0) = w2 := ⟨_, rfl⟩
  have hmm : (Instr.makeMap 90 none).run Tryz.prog (w.alloc (.cells #[.int .u64 s.pos, .slice s.pp s.pn s.pc, .slice s.rp s.rn s.rc, .slice s.lp s.ln s.lc, .slice s.gp s.gn s.gc, .slice s.op s.on s.oc] 51)) = .ok (.map (some b)) w2 := by rw [run_makeMap, ← hb, ← hw2, World.size_alloc]
  have HB2 : Hid (Below w.heap.size w w2) := by show Below _ _ _; rw [← hw2]; exact ((Below.refl _ _).alloc (Nat.le_refl _) _).alloc (by simp) _
  have HT2 : Hid (Tal w2 b 0 []) := by
    show Tal _ _ _ _
    have h := tal_new (w.alloc (.cells #[.int .u64 s.pos, .slice s.pp s.pn s.pc, .slice s.rp s.rn s.rc, .slice s.lp s.ln s.lc, .slice s.gp s.gn s.gc, .slice s.op s.on s.oc] 51))
    rw [World.size_alloc, hb, hw2] at h
    exact h
  have hg2 : w2.heap[w.heap.size]? = some (.cells #[.int .u64 s.pos, .slice s.pp s.pn s.pc, .slice s.rp s.rn s.rc, .slice s.lp s.ln s.lc, .slice s.gp s.gn s.gc, .slice s.op s.on s.oc] 51 (0, 0)) := by
    rw [← hw2, Below.heap_alloc _ _ _ (by simp)]
    exact heap_alloc_new _ _
  obtain ⟨c0, c1, c2, c3, c4, c5⟩ := ac6 hg2
  have HBb : Hid (w.heap.size ≤ b) := by show _ ≤ _; omega
  have HHd : Hid (Calls Tryz.prog 46 #[.agg #[.int .u64 s.pos, .slice s.pp s.pn s.pc, .slice s.rp s.rn s.rc, .slice s.lp s.ln s.lc, .slice s.gp s.gn s.gc, .slice s.op s.on s.oc], .int .i64 t] w2 fun e w' => ∃ v, e = .returned v ∧ w'.ownsRow w2.heap.size 82 3 v (heldK t s.pools s.pn).length (rcells (heldK t s.pools s.pn)) ∧ Below w2.heap.size w2 w') := bheld_any w2 s (hs.below HB2.out) hpn hhl t
  have HWf := hide (heldK_wf (t := t) hsw s.pn hpn)
  have hhl2 := heldK_len t s.pools s.pn
  obtain ⟨hd, hhd⟩ : ∃ hd, heldK t s.pools s.pn = hd := ⟨_, rfl⟩
  have HPost : Hid (leftT t s.pools s.pn z.xs = subsT (addsT [] hd) (neededT t z.xs)) := by show _ = _; rw [← hhd]; rfl
  rw [hhd] at HHd HWf hhl2
  obtain ⟨hn, hhn⟩ : ∃ hn, hd.length = hn := ⟨_, rfl⟩
  rw [hhn] at HHd hhl2
  have HHn := hide hhn
  have hn1 : hn ≤ 8388608 := by omega
  obtain ⟨M, hM⟩ : ∃ M, z.n * 4194305 = M := ⟨_, rfl⟩
  have hMm : M ≤ 274877972480 := by rw [← hM]; exact Nat.mul_le_mul_right 4194305 hzn
  rw [hM]
  have HMe := hide hM
  clear hM
  have HZ := hide hz
  have HZw := hide hzw
  obtain ⟨need, hnd⟩ : ∃ need, neededT t z.xs = need := ⟨_, rfl⟩
  have HNd := hide hnd
  have HNw : Hid (∀ x ∈ need, TriWf x) := by show ∀ x ∈ need, TriWf x; rw [← hnd]; exact neededT_wf hzw
  rw [HPost.out]
  rw [hnd]
  clear hw2 hb hg2 hs hsw hhl hhd hhn hz hzw hnd hhl2
  go_enter Tryz.func27, Tryz.ntmps27
  go_wp2_with (first
    | (go_at_call 46; refine HHd.out.mono ?_; rintro e w3 ⟨v, rfl, hrow, hb3⟩; obtain ⟨rp, rc, rfl⟩ := slice_form hrow; have HRw := hide (Rts.row hrow HHn.out HWf.out); have HB3 := hide hb3; have HT3 : Hid (Tal w3 b 0 []) := HT2.out.below hb3; clear hrow hb3)
    | (go_at_call 45; refine (addUp_list w3 b 0 [] HT3.out rp hn rc hd HRw.out (by omega)).mono ?_; rintro e w4 ⟨rfl, hT4, hg4⟩; have HB4 : Hid (Below w.heap.size w w4) := ((HB2.out.trans (HB3.out.mono HB2.out.size)).grown hg4 (HB2.out.trans (HB3.out.mono HB2.out.size)).size (fun k e => by cases e; exact HBb.out)); have HT4 := hide hT4; clear hT4 hg4)
    | (go_at_call 47; refine (needed_any w4 z (HZ.out.below HB4.out) HZw.out hzn t).mono ?_; rintro e w5 ⟨b2, nn2, rfl, hb2, hnn2, hT5, hb5⟩; rw [HNd.out] at hT5; have HT5 := hide hT5; have HB5 := hide hb5; have HT5b : Hid (Tal w5 b (0 + hn) (addsT [] hd)) := HT4.out.below hb5; have HNe : Hid (b ≠ b2) := fun e => (by have := HT4.out.lt; omega); have HL2 := hide hb2; have HN2 : Hid (nn2 ≤ M) := (by show _ ≤ _; rw [← HMe.out]; exact hnn2); clear hT5 hb5 hb2 hnn2)
    | (at_range; refine range_tal _ rfl _ rfl b2 nn2 need rfl HT5.out ?_; intro w6 hr6 hg6 hs6; have HI0 : Hid (Rng w6 b2 w5.heap.size nn2 need [] ∧ Tal w6 b (hn + ([] : List K64).length) (subsT (addsT [] hd) (withN need [])) ∧ Below w.heap.size w w6) := ⟨hr6, by have h := HT5b.out.kept hg6 (by simp); rw [Nat.zero_add] at h; exact h, (HB4.out.trans (HB5.out.mono HB4.out.size)).grown hg6 (HB4.out.trans (HB5.out.mono HB4.out.size)).size (fun k e => by cases e)⟩; clear hr6 hg6 hs6)
    | fail)
  go_frame
  have HR5 : Hid (w.heap.size ≤ w5.heap.size ∧ b < w5.heap.size) := ⟨(HB4.out.trans (HB5.out.mono HB4.out.size)).size, HT5b.out.lt⟩
  obtain ⟨r, hr⟩ : ∃ r, w5.heap.size = r := ⟨_, rfl⟩
  rw [hr] at HI0 HR5 ⊢
  clear hr c0 c1 c2 c3 c4 c5 hmm
  go_loopw [9] (fun _ wr => ∃ ss : List K64, Hid (Rng wr b2 r nn2 need ss ∧ Tal wr b (hn + ss.length) (subsT (addsT [] hd) (withN need ss)) ∧ Below w.heap.size w wr)) (fun _ wr => wr.rangeLeft b2 r)
  case atStart => exact ⟨[], HI0⟩
  case round =>
    clear HI0
    obtain ⟨ss, HI⟩ := hrel
    go_wp2_with (first | (at_next; refine next_tal _ rfl _ rfl b2 r nn2 need ss rfl HI.out.1 ?_ ?_) | fail)
    · intro HD
      have HE : Hid (subsT (addsT [] hd) (withN need ss) = subsT (addsT [] hd) need ∧ hn + ss.length ≤ M + 8388608) := by
        refine ⟨subs_all HT5b.out.sorted HI.out.1.tal.sorted HD.1 (fun k => ⟨HD.2.1 k, fun hk => ?_⟩), by have := HI.out.1.len; have := HN2.out; omega⟩
        obtain ⟨y, hy, rfl⟩ := hk
        have hw := HNw.out y hy
        exact ⟨⟨keyT y, hw.1, hw.2.1⟩, HD.2.2 ⟨keyT y, hw.1, hw.2.1⟩ ⟨y, hy, rfl⟩, rfl⟩
      clear HD
      go_wp2
      go_ret
      have hT := HI.out.2.1
      rw [HE.out.1] at hT
      exact ⟨b, _, rfl, HBb.out, HE.out.2, hT, HI.out.2.2⟩
    · intro x0 x1 c w6 HX hen
      obtain ⟨w7, hw7⟩ : ∃ w7, w6.alloc (.cells #[.int .i64 x0, .int .i64 x1] 93) = w7 := ⟨_, rfl⟩
      have hg7 : w7.heap[w6.heap.size]? = some (.cells #[.int .i64 x0, .int .i64 x1] 93 (0, 0)) := by rw [← hw7]; exact heap_alloc_new _ _
      have hgr7 : w6.grownBy w7 none := by rw [← hw7]; exact World.grownBy_alloc w6 _ none
      obtain ⟨c0, c1⟩ := ac2 hg7
      have HFin : Hid (∃ (cL : Int) (v0 : Value) (st : Nat) (w8 w9 : World) (ss' : List K64), (Instr.lookup 90 (.map (some b)) (.agg #[.int .i64 x0, .int .i64 x1]) false).run Tryz.prog w7.drew = .ok (.int .i64 cL) w7.drew ∧ (Instr.mapEntry 90 (.map (some b)) (.agg #[.int .i64 x0, .int .i64 x1])).run Tryz.prog w7.drew = .ok (.tuple #[v0, .int .i64 st]) w8 ∧ (Instr.lookup 90 (.map (some b)) (.agg #[.int .i64 x0, .int .i64 x1]) false).run Tryz.prog w8 = .ok (.int .i64 cL) w8 ∧ (Instr.entryStore 90 (.map (some b)) (.int .i64 st) (.int .i64 (IntKind.i64.wrap (cL - c)))).run Tryz.prog w8 = .ok () w9 ∧ (w8.cell? ⟨w6.heap.size, 0, none⟩ = some (.int .i64 x0) ∧ w8.cell? ⟨w6.heap.size, 1, none⟩ = some (.int .i64 x1)) ∧ (w9.cell? ⟨w6.heap.size, 0, none⟩ = some (.int .i64 x0) ∧ w9.cell? ⟨w6.heap.size, 1, none⟩ = some (.int .i64 x1)) ∧ Hid (w9.rangeLeft b2 r < wr.rangeLeft b2 r) ∧ Hid (Rng w9 b2 r nn2 need ss' ∧ Tal w9 b (hn + ss'.length) (subsT (addsT [] hd) (withN need ss')) ∧ Below w.heap.size w w9)) := by
        obtain ⟨x, hx, hlc, _, hr6, hlt6, hg6, _⟩ := HX
        obtain ⟨hbr, hrr, hrb⟩ := HI.out.1.lt
        have hbr' : some b ≠ some r := fun e => by have := HR5.out.2; cases e; omega
        have hT7 : Tal w7.drew b (hn + ss.length) (subsT (addsT [] hd) (withN need ss)) := ((HI.out.2.1.kept hg6 hbr').kept hgr7 (by simp)).block rfl
        obtain ⟨q, hq⟩ : ∃ q : R64, q.1 = negT ⟨x.1.1, x.1.2, lookT need x.1⟩ := ⟨⟨_, x.2.1, x.2.2, wrap64_wf _⟩, rfl⟩
        have hqk : keyT q.1 = (x0, x1) := by rw [hq, ← hx]; rfl
        have hqn : q.1.n = wrap64 (-c) := by rw [hq, ← hlc]; rfl
        obtain ⟨v0, st, w8, w9, h0, h1, h2, h3, h4, h5⟩ := hT7.put (by unfold maxLen; have := HI.out.1.len; have := HN2.out; omega) q _ rfl
        have hl := hT7.look x
        rw [hx] at hl
        rw [hqk] at h1 h2 h3
        rw [hqn, ← sub_wrap] at h3
        have hn7 : some w6.heap.size ≠ some b := hT7.ne (w := w7.drew) (g := w6.heap.size) hg7
        have hr7 := (hr6.kept hgr7 (by simp) (by simp))
        have hr9 := (Rng.kept (w := w7) (w' := w9) hr7.1 (grown_of_drew h5) (fun e => HNe.out (by cases e; rfl)) (fun e => hbr' e.symm))
        have hB6 := HI.out.2.2.grown hg6 HI.out.2.2.size (fun k e => by cases e; exact HR5.out.1)
        have hB7 := hB6.grown hgr7 hB6.size (fun k e => by cases e)
        refine ⟨_, v0, st, w8, w9, ss ++ [x], hl, h1, h2, h3, ac2 ((h0.block _ (ac_lt hg7) hn7).trans hg7), ac2 ((h5.block _ (ac_lt hg7) hn7).trans hg7), ?_, hr9.1, ?_, hB7.grown (grown_of_drew h5) hB7.size (fun k e => by cases e; exact HBb.out)⟩
        · show _ < _
          rw [hr9.2, hr7.2]
          exact hlt6
        · rw [withN_snoc, subsT_snoc, ← hq, List.length_append]
          exact h4
      have HW7 := hide hw7
      clear hw7 hg7 hgr7
      obtain ⟨cL, v0, st, w8, w9, ss', hl, hm, hl2, hst, ⟨y0, y1⟩, ⟨z0, z1⟩, HLt, HE⟩ := HFin.out
      clear HFin
      go_wp2
      rw [HW7.out]
      go_region_held3 (fun w' => w'.cell? ⟨w6.heap.size, 0, none⟩ = some (.int .i64 x0) ∧ w'.cell? ⟨w6.heap.size, 1, none⟩ = some (.int .i64 x1)) (go_keep) (fail)
      all_goals (go_wp2; go_roundw)
      all_goals (first | exact ⟨ss', HE⟩ | exact HLt.out)
end Go.Proofs.YtfdanocpbhbieaaGreat
