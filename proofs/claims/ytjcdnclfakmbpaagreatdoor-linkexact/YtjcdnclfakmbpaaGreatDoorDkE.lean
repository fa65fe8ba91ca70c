import Derived.Test.YtjcdnclfakmbpaaGreatDoorRfA
import Derived.Test.YtjcdnclfakmbpaaGreatDoorMqJ
import Derived.Test.YtjcdnclfakmbpaaGreatDoorLkK
import Derived.Test.YtjcdnclfakmbpaaGreatDoorRfB
namespace Go.Proofs.YtjcdnclfakmbpaaGreatDoor
open Go.RowKit
structure Pce (L : Lk) (m t : Nat) : Prop where
  lim : L.lim = some m
  m1 : 1 ≤ m
  m2 : m ≤ 64
  left : L.left = (D.it m t).left
  gap : L.gap = (D.it m t).gap
theorem Pce.tick {L : Lk} {m t : Nat} (h : Pce L m t) : Pce (ltick L) m (t + 1) := by
  have hm := D.it_most m t
  have e : D.it m (t + 1) = (D.it m t).tick := rfl
  refine ⟨?_, h.m1, h.m2, ?_, ?_⟩
  · unfold ltick; split <;> exact h.lim
  · rw [e]; unfold ltick D.Pc.tick
    rw [← h.left]
    by_cases q : 1 < L.left
    · rw [if_pos q, if_pos q]
    · rw [if_neg q, if_neg q]; exact h.gap
  · rw [e]; unfold ltick D.Pc.tick
    rw [← h.left]
    by_cases q : 1 < L.left
    · rw [if_pos q, if_pos q]; exact h.gap
    · rw [if_neg q, if_neg q, h.lim, hm, ← h.gap]
theorem Pce.now {L : Lk} {m t : Nat} (h : Pce L m t) : lnow L = (D.it m t).now := by unfold lnow D.Pc.now; rw [h.left]
structure Lcon (L : Lk) : Prop where
  p4 : ∀ j m, L.row[j]? = some m → m.1 + L.row.length = L.numbered + j + 1
  p5 : L.row.length ≤ L.numbered
def dkC (L : Lk) (rv : Value) (m t : Nat) : Array Value := #[.int .i64 L.me, .int .i64 L.other, .int .u64 (L.life : Int), .int .u64 (L.known : Int), .int .i64 L.window, rv, .int .u64 ((L.numbered - L.row.length + 1 : Nat) : Int), .int .u64 (L.gone : Int), .int .u64 ((L.handed + 1 : Nat) : Int), .int .i64 (m : Int), .int .i64 (t : Int), .bool L.ack, .bool L.asked, .bool L.paced]
def Db (w : World) (b : Nat) (L : Lk) (rv : Value) (m t : Nat) : Prop := w.heap[b]? = some (.cells (dkC L rv m t) 93 (0, 0))
theorem blk14 {w : World} {b : Nat} {L : Lk} {rv : Value} {m t : Nat} (h : Db w b L rv m t) :
    w.cell? ⟨b, 0, none⟩ = some (.int .i64 L.me) ∧ w.cell? ⟨b, 1, none⟩ = some (.int .i64 L.other) ∧ w.cell? ⟨b, 2, none⟩ = some (.int .u64 (L.life : Int)) ∧ w.cell? ⟨b, 3, none⟩ = some (.int .u64 (L.known : Int)) ∧ w.cell? ⟨b, 4, none⟩ = some (.int .i64 L.window) ∧ w.cell? ⟨b, 5, none⟩ = some rv ∧ w.cell? ⟨b, 6, none⟩ = some (.int .u64 ((L.numbered - L.row.length + 1 : Nat) : Int)) ∧ w.cell? ⟨b, 7, none⟩ = some (.int .u64 (L.gone : Int)) ∧ w.cell? ⟨b, 8, none⟩ = some (.int .u64 ((L.handed + 1 : Nat) : Int)) ∧ w.cell? ⟨b, 9, none⟩ = some (.int .i64 (m : Int)) ∧ w.cell? ⟨b, 10, none⟩ = some (.int .i64 (t : Int)) ∧ w.cell? ⟨b, 11, none⟩ = some (.bool L.ack) ∧ w.cell? ⟨b, 12, none⟩ = some (.bool L.asked) ∧ w.cell? ⟨b, 13, none⟩ = some (.bool L.paced) ∧ ∀ o, w.frozen? ⟨b, o, none⟩ = false := by
  unfold Db dkC at h
  refine ⟨?_, ?_, ?_, ?_, ?_, ?_, ?_, ?_, ?_, ?_, ?_, ?_, ?_, ?_, fun o => by simp [World.frozen?, h]⟩ <;> simp [World.cell?, h]
theorem Db.set {w : World} {b : Nat} {L L' : Lk} {rv rv' : Value} {m t m' t' : Nat} (h : Db w b L rv m t) (i : Nat) (v : Value) (he : (dkC L rv m t).setIfInBounds i v = dkC L' rv' m' t') : Db (w.setCell ⟨b, i, none⟩ v) b L' rv' m' t' := by
  unfold Db at h ⊢
  rw [heap_setCell_same _ _ _ _ _ _ h, he]
theorem Db.kept {w w' : World} {b : Nat} {L : Lk} {rv : Value} {m t : Nat} (h : Db w b L rv m t) (hb : w'.heap[b]? = w.heap[b]?) : Db w' b L rv m t := Eq.trans hb h
structure Byk (w : World) (K : Knd) (kb : Nat × Nat) (sp : Option Addr) (p : List Nat) : Prop where
  by_ : Bytes w sp p
  kind : ∀ a, sp = some a → a.block < w.heap.size ∧ K a.block = kb
theorem Byk.kp {w w2 : World} {K K' : Knd} {kb : Nat × Nat} {sp : Option Addr} {e : List Nat} {p : Nat × Nat → Prop} (h : Byk w K kb sp e) (m : Kp p K K' w w2) (hp : ¬ p kb) : Byk w2 K' kb sp e := by
  refine ⟨⟨h.by_.small, ?_⟩, fun a ha => ⟨Nat.lt_of_lt_of_le (h.kind a ha).1 m.size, (m.same _ (h.kind a ha).1).trans (h.kind a ha).2⟩⟩
  rcases h.by_.lie with q | ⟨g, o, q, hg, hc⟩
  · exact Or.inl q
  · refine Or.inr ⟨g, o, q, Nat.lt_of_lt_of_le hg m.size, fun j hj => ?_⟩
    rw [← hc j hj]
    exact World.cell?_of_block (a := ⟨g, o + j, none⟩) (m.block g hg (by rw [(h.kind _ q).2]; exact hp))
structure Dk (w : World) (K : Knd) (kd kb : Nat × Nat) (b : Nat) (L : Lk) (rv : Value) (m t : Nat) : Prop where
  db : Db w b L rv m t
  kind : K b = kd
  row : ∃ vs : List Value, ownsAt w 0 31 1 rv L.row.length vs ∧ ∀ (j : Nat) (x : Nat × ByteArray), L.row[j]? = some x → ∃ sp c, vs[j]? = some (.slice sp x.2.size c) ∧ Byk w K kb sp (nums x.2)
  kr : ∀ g, rv.ownBlock = some g → K g = kd
  con : Lcon L
  pc : Pce L m t
theorem Dk.kp {w w2 : World} {K K' : Knd} {kd kb : Nat × Nat} {b : Nat} {L : Lk} {rv : Value} {m t : Nat} {p : Nat × Nat → Prop} (h : Dk w K kd kb b L rv m t) (mk : Kp p K K' w w2) (hd : ¬ p kd) (hb : ¬ p kb) : Dk w2 K' kd kb b L rv m t := by
  obtain ⟨vs, h1, h2⟩ := h.row
  refine ⟨h.db.kept (mk.block b (C.lt_of_block h.db) (by rw [h.kind]; exact hd)), (mk.same b (C.lt_of_block h.db)).trans h.kind, ⟨vs, h1.same (fun g hg => mk.block g (h1.lt g hg).2 (by rw [h.kr g hg]; exact hd)), fun j x hx => ?_⟩, fun g hg => (mk.same g (h1.lt g hg).2).trans (h.kr g hg), h.con, h.pc⟩
  obtain ⟨sp, c, q1, q2⟩ := h2 j x hx
  exact ⟨sp, c, q1, q2.kp mk hb⟩
end Go.Proofs.YtjcdnclfakmbpaaGreatDoor
namespace Go.Proofs.YtjcdnclfakmbpaaGreatDoor
open Go.RowKit
theorem put2z {w : World} {b : Nat} {t : TypeId} {x0 x1 : Value} (h : w.heap[b]? = some (.cells #[x0, x1] t (0, 0))) (y0 y1 : Value) : ((w.setCell ⟨b, 0, none⟩ y0).setCell ⟨b, 1, none⟩ y1).heap[b]? = some (.cells #[y0, y1] t (0, 0)) := by
  have h0 : (w.setCell ⟨b, 0, none⟩ y0).heap[b]? = some (.cells #[y0, x1] t (0, 0)) := C.block_set h y0
  exact C.block_set h0 y1
set_option maxRecDepth 100000 in
theorem fresh_d (w : World) (m : Nat) (h1 : 1 ≤ m) (h2 : m ≤ 64) :
    Calls Tryz.prog 56 #[.int .i64 (m : Int)] w fun e w' => e = .returned (.agg #[.int .i64 (m : Int), .int .i64 0]) ∧ Below w.heap.size w w' := by
  have i1 : ¬ (m : Int) < 1 := by omega
  have i2 : ¬ (64 : Int) < (m : Int) := by omega
  obtain ⟨w1, hw1⟩ : ∃ w1, w.alloc (.cells #[.int .i64 0, .int .i64 0] 91) = w1 := ⟨_, rfl⟩
  have hb1 : Below w.heap.size w w1 := by rw [← hw1]; exact (Below.refl _ _).alloc (Nat.le_refl _) _
  have hk1 : w1.heap[w.heap.size]? = some (.cells #[.int .i64 0, .int .i64 0] 91 (0, 0)) := by rw [← hw1]; exact heap_alloc_new _ _
  have c0 : w1.cell? ⟨w.heap.size, 0, none⟩ = some (.int .i64 0) := by simp [World.cell?, hk1]
  have c1 : w1.cell? ⟨w.heap.size, 1, none⟩ = some (.int .i64 0) := by simp [World.cell?, hk1]
  have cf : ∀ o, w1.frozen? ⟨w.heap.size, o, none⟩ = false := fun o => by simp [World.frozen?, hk1]
  have HW := hide hw1
  have HB := hide hb1
  have HK := hide hk1
  clear hw1 hb1 hk1 h1 h2
  go_enter Tryz.func56, Tryz.ntmps56
  go_upto_region 1 with (fail)
  rw [HW.out]
  go_wp2
  refine bodyPost_ret (results_cell_row rfl _ _ w.heap.size 91 _ (0, 0) _ rfl (put2z HK.out (.int .i64 (m : Int)) (.int .i64 0)) Tryz.underlying91 rfl (by kernel_rfl)) rfl ?_
  exact ⟨rfl, (HB.out.setCell (p := ⟨w.heap.size, 0, none⟩) (Nat.le_refl _) _).setCell (p := ⟨w.heap.size, 1, none⟩) (Nat.le_refl _) _⟩
set_option maxRecDepth 100000 in
theorem dnew_any (w : World) (me other : Int) (life window m : Nat) (h1 : 1 ≤ m) (h2 : m ≤ 64) :
    Calls Tryz.prog 33 #[.int .i64 me, .int .i64 other, .int .u64 (life : Int), .int .i64 (window : Int), .int .i64 (m : Int)] w fun e w' => ∃ bl, w.heap.size ≤ bl ∧ e = .returned (.pointer (some ⟨bl, 0, none⟩)) ∧ Db w' bl (Lk.new me other life (window : Int) (m : Int)) (.slice none 0 0) m 0 ∧ Below w.heap.size w w' := by
  have HF := hide (fresh_d w m h1 h2)
  have HC : Hid (dkC (Lk.new me other life (window : Int) (m : Int)) (.slice none 0 0) m 0 = #[.int .i64 me, .int .i64 other, .int .u64 (life : Int), .int .u64 0, .int .i64 (window : Int), .slice none 0 0, .int .u64 1, .int .u64 0, .int .u64 1, .int .i64 (m : Int), .int .i64 0, .bool false, .bool false, .bool true]) := by
    show _ = _
    unfold dkC Lk.new
    have e : max (window : Int) 0 = (window : Int) := by omega
    simp [e]
  clear h1 h2
  go_enter Tryz.func33, Tryz.ntmps33
  go_wp2_with fail
  refine HF.out.mono ?_
  rintro e w2 ⟨rfl, hb2⟩
  have HB := hide hb2
  clear hb2 HF
  go_wp2
  go_ret
  refine ⟨w2.heap.size, HB.out.size, rfl, ?_, HB.out.trans (((Below.refl _ _).alloc (Nat.le_refl _) _).mono HB.out.size)⟩
  unfold Db
  rw [HC.out]
  exact heap_alloc_new _ _
set_option maxRecDepth 100000 in
theorem dowe_any (w : World) (b : Nat) (L : Lk) (rv : Value) (m t : Nat) (h : Db w b L rv m t) :
    Calls Tryz.prog 25 #[.pointer (some ⟨b, 0, none⟩)] w fun e w' => e = .returned (.tuple #[]) ∧ Db w' b { L with asked := true } rv m t ∧ Onl b w w' := by
  obtain ⟨-, -, -, -, -, -, -, -, -, -, -, -, c12, -, cf⟩ := blk14 h
  have H := hide h
  clear h
  go_enter Tryz.func25, Tryz.ntmps25
  go_wp2
  go_end0
  exact ⟨rfl, H.out.set 12 _ rfl, (Onl.refl b w).set 12 _⟩
set_option maxRecDepth 100000 in
theorem dtick_pace (w : World) (b : Nat) (L : Lk) (rv : Value) (m t : Nat) (h : Db w b L rv m t) (h1 : 1 ≤ m) (h2 : m ≤ 64) (hn : t < 1000000) :
    Calls Tryz.prog 101 #[.pointer (some ⟨b, 9, none⟩)] w fun e w' => e = .returned (.bool (D.it m t).now) ∧ Db w' b L rv m (t + 1) ∧ Onl b w w' := by
  obtain ⟨-, -, -, -, -, -, -, -, -, c9, c10, -, -, -, cf⟩ := blk14 h
  have HT : Hid (∀ w, Calls Tryz.prog 135 #[.int .i64 (m : Int), .int .i64 (t : Int)] w fun e w' => e = .returned (.tuple #[.int .i64 (D.cnt m t : Int), .int .i64 (D.atOf m t : Int)]) ∧ w' = w) := fun w => D.Times_any w m t h1 h2 (by omega)
  have HT2 : Hid (∀ w, Calls Tryz.prog 135 #[.int .i64 (m : Int), .int .i64 ((t : Int) + 1)] w fun e w' => e = .returned (.tuple #[.int .i64 (D.cnt m (t + 1) : Int), .int .i64 (D.atOf m (t + 1) : Int)]) ∧ w' = w) := fun w => D.Times_any w m (t + 1) h1 h2 (by omega)
  have HA : Hid (decide (D.cnt m t < D.cnt m (t + 1)) = (D.it m t).now) := by
    show _ = _
    rw [show D.cnt m (t + 1) = D.cnt m t + (if (D.it m t).now then 1 else 0) from rfl]
    cases (D.it m t).now <;> simp
  have HS : Hid (∀ q, Db ((w.drewN q).setCell ⟨b, 10, none⟩ (.int .i64 ((t : Int) + 1))) b L rv m (t + 1)) := fun q => by
    have : Db (w.drewN q) b L rv m t := h
    exact this.set 10 _ rfl
  clear h
  generalize D.cnt m t = C at *
  generalize D.atOf m t = A at *
  generalize D.cnt m (t + 1) = C' at *
  generalize D.atOf m (t + 1) = A' at *
  generalize (D.it m t).now = B at *
  go_enter Tryz.func101, Tryz.ntmps101
  go_wp2_with fail
  go_quiet (first | (go_at_call 135; exact Calls.quiet_of_same (HT.out _)))
  obtain ⟨w2, hw2⟩ : ∃ w2, w.drewN nq = w2 := ⟨_, rfl⟩
  have HS2 := hide (HS.out nq)
  have HO2 : Hid (Onl b w w2) := by show Onl _ _ _; rw [← hw2]; exact ⟨rfl, rfl, rfl, rfl, fun _ _ => rfl⟩
  have d9 : w2.cell? ⟨b, 9, none⟩ = some (.int .i64 (m : Int)) := by rw [← hw2]; exact c9
  have d10 : w2.cell? ⟨b, 10, none⟩ = some (.int .i64 (t : Int)) := by rw [← hw2]; exact c10
  have df : ∀ o, w2.frozen? ⟨b, o, none⟩ = false := by rw [← hw2]; exact cf
  rw [hw2] at HS2 ⊢
  clear hw2 c9 c10 cf HS HT
  go_wp2_with fail
  go_quiet (first | (go_at_call 135; exact Calls.quiet_of_same (HT2.out _)))
  all_goals go_wp2
  all_goals go_ret
  exact ⟨by rw [← HA.out]; rfl, HS2.out, (HO2.out.set 10 _).trans ⟨rfl, rfl, rfl, rfl, fun _ _ => rfl⟩⟩
end Go.Proofs.YtjcdnclfakmbpaaGreatDoor
namespace Go.Proofs.YtjcdnclfakmbpaaGreatDoor
open Go.RowKit
theorem Lcon.send {L : Lk} (h : Lcon L) (s : ByteArray) : Lcon (sendN L s) := by
  have h2 : (sendN L s).numbered = L.numbered + 1 := rfl
  have h3 : (sendN L s).row = L.row ++ [(L.numbered + 1, s)] := rfl
  have hl : (L.row ++ [(L.numbered + 1, s)]).length = L.row.length + 1 := by simp
  refine ⟨fun j m hm => ?_, ?_⟩
  · rw [h3] at hm
    rw [h2, h3, hl]
    by_cases hj : j < L.row.length
    · rw [List.getElem?_append_left hj] at hm
      have := h.p4 j m hm
      omega
    · have := (List.getElem?_eq_some_iff.1 hm).1
      rw [hl] at this
      obtain rfl : j = L.row.length := by omega
      simp at hm
      subst hm
      simp only
      omega
  · rw [h2, h3, hl]; have := h.p5; omega
def sendT (L : Lk) (t : Nat) : Nat := if L.row = [] then 0 else t
theorem Pce.send {L : Lk} {m t : Nat} (h : Pce L m t) (s : ByteArray) : Pce (sendN L s) m (sendT L t) := by
  unfold sendN sendL sendT
  by_cases e : L.row = []
  · rw [if_pos e, if_pos e]; exact ⟨h.lim, h.m1, h.m2, rfl, rfl⟩
  · rw [if_neg e, if_neg e]; exact ⟨h.lim, h.m1, h.m2, h.left, h.gap⟩
theorem dkC_send (L : Lk) (rv rv' : Value) (m t : Nat) (s : ByteArray) : (dkC L rv m t).setIfInBounds 5 rv' = dkC (sendN L s) rv' m t := by
  have e1 : (sendN L s).numbered - (sendN L s).row.length + 1 = L.numbered - L.row.length + 1 := by
    show L.numbered + 1 - (L.row ++ [(L.numbered + 1, s)]).length + 1 = _
    simp
  have e2 : (sendN L s).me = L.me ∧ (sendN L s).other = L.other ∧ (sendN L s).life = L.life ∧ (sendN L s).known = L.known ∧ (sendN L s).window = L.window ∧ (sendN L s).gone = L.gone ∧ (sendN L s).handed = L.handed ∧ (sendN L s).ack = L.ack ∧ (sendN L s).asked = L.asked ∧ (sendN L s).paced = L.paced := by
    unfold sendN sendL
    split <;> exact ⟨rfl, rfl, rfl, rfl, rfl, rfl, rfl, rfl, rfl, rfl⟩
  unfold dkC
  rw [e1, e2.1, e2.2.1, e2.2.2.1, e2.2.2.2.1, e2.2.2.2.2.1, e2.2.2.2.2.2.1, e2.2.2.2.2.2.2.1, e2.2.2.2.2.2.2.2.1, e2.2.2.2.2.2.2.2.2.1, e2.2.2.2.2.2.2.2.2.2]
  rfl
theorem ownsAt.form {w : World} {B n s : Nat} {e : TypeId} {v : Value} {xs : List Value} (h : ownsAt w B e s v n xs) : ∃ a c, v = .slice a n c ∧ n ≤ c ∧ c ≤ maxLen := by
  rcases h.2 with ⟨h1, h2⟩ | ⟨g, o, cap, cur, h1, _, _, h3, h4, _⟩
  · exact ⟨none, 0, by rw [h1, h2], by omega, by unfold maxLen; omega⟩
  · exact ⟨_, cap, h1, h3, h4⟩
set_option maxRecDepth 100000 in
set_option maxHeartbeats 2000000 in
theorem dsend_long (w : World) (K : Knd) (kd kb : Nat × Nat) (b : Nat) (L : Lk) (rv : Value) (m t : Nat) (h : Dk w K kd kb b L rv m t) (hl : L.numbered ≤ 1099511627776) (sp : Option Addr) (n c : Nat) (hn : 2048 < n ∨ 1099511627776 ≤ L.numbered) :
    Calls Tryz.prog 23 #[.pointer (some ⟨b, 0, none⟩), .slice sp n c] w fun e w' => e = .returned (.int .i64 140) ∧ ∃ q, w' = w.drewN q := by
  obtain ⟨-, -, -, -, -, c5, c6, -⟩ := blk14 h.db
  obtain ⟨vs, ho, -⟩ := h.row
  obtain ⟨ra, rc, hrv, -, -⟩ := ho.form
  have p5 := h.con.p5
  rw [hrv] at c5
  obtain ⟨q, hq⟩ : ∃ q, L.row.length = q := ⟨_, rfl⟩
  obtain ⟨F, hF⟩ : ∃ F, L.numbered - L.row.length + 1 = F := ⟨_, rfl⟩
  have hFq : F + q = L.numbered + 1 := by omega
  rw [hF] at c6
  rw [hq] at c5
  have hFb : F ≤ 1099511627777 := by omega
  have hqb : q ≤ 1099511627776 := by omega
  by_cases h1 : 2048 < n
  · have i1 : (2048 : Int) < (n : Int) := by omega
    clear h ho hrv hF hq hFq hn
    go_enter Tryz.func23, Tryz.ntmps23
    go_upto_region 1 with (fail)
    go_quiet (fail)
    go_wp2
    go_ret
    exact ⟨rfl, nq, rfl⟩
  · have i1 : ¬ (2048 : Int) < (n : Int) := by omega
    have i2 : (1099511627776 : Int) < (F : Int) + (q : Int) := by omega
    clear h ho hrv hF hq hFq hn
    go_enter Tryz.func23, Tryz.ntmps23
    go_upto_region 1 with (fail)
    go_quiet (fail)
    go_wp2
    go_ret
    exact ⟨rfl, nq, rfl⟩
structure Dk0 (w : World) (K : Knd) (kd kb : Nat × Nat) (b : Nat) (L : Lk) (rv : Value) (m t : Nat) : Prop where
  db : Db w b L rv m t
  kind : K b = kd
  row : ∃ vs : List Value, ownsAt w 0 31 1 rv L.row.length vs ∧ ∀ (j : Nat) (x : Nat × ByteArray), L.row[j]? = some x → ∃ sp c, vs[j]? = some (.slice sp x.2.size c) ∧ Byk w K kb sp (nums x.2)
  kr : ∀ g, rv.ownBlock = some g → K g = kd
  con : Lcon L
theorem Dk.d0 {w : World} {K : Knd} {kd kb : Nat × Nat} {b : Nat} {L : Lk} {rv : Value} {m t : Nat} (h : Dk w K kd kb b L rv m t) : Dk0 w K kd kb b L rv m t := ⟨h.db, h.kind, h.row, h.kr, h.con⟩
theorem Dk0.kp {w w2 : World} {K K' : Knd} {kd kb : Nat × Nat} {b : Nat} {L : Lk} {rv : Value} {m t : Nat} {p : Nat × Nat → Prop} (h : Dk0 w K kd kb b L rv m t) (mk : Kp p K K' w w2) (hd : ¬ p kd) (hb : ¬ p kb) : Dk0 w2 K' kd kb b L rv m t := by
  obtain ⟨vs, h1, h2⟩ := h.row
  refine ⟨h.db.kept (mk.block b (C.lt_of_block h.db) (by rw [h.kind]; exact hd)), (mk.same b (C.lt_of_block h.db)).trans h.kind, ⟨vs, h1.same (fun g hg => mk.block g (h1.lt g hg).2 (by rw [h.kr g hg]; exact hd)), fun j x hx => ?_⟩, fun g hg => (mk.same g (h1.lt g hg).2).trans (h.kr g hg), h.con⟩
  obtain ⟨sp, c, q1, q2⟩ := h2 j x hx
  exact ⟨sp, c, q1, q2.kp mk hb⟩
theorem Dk0.put {w : World} {K : Knd} {kd kb : Nat × Nat} {b : Nat} {L L' : Lk} {rv : Value} {m t t' : Nat} (h : Dk0 w K kd kb b L rv m t) (hkk : kd ≠ kb) (hne : some b ≠ rv.ownBlock) (i : Nat) (v : Value) (he : (dkC L rv m t).setIfInBounds i v = dkC L' rv m t') (hr : L'.row = L.row) (hc : Lcon L') : Dk0 (w.setCell ⟨b, i, none⟩ v) K kd kb b L' rv m t' ∧ Kp (fun q => q = kd) K K w (w.setCell ⟨b, i, none⟩ v) := by
  have mk : Kp (fun q => q = kd) K K w (w.setCell ⟨b, i, none⟩ v) := (Kp.refl (fun q => q = kd) K w).setCell (b := b) (Or.inr h.kind) _ _
  obtain ⟨vs, h1, h2⟩ := h.row
  refine ⟨⟨h.db.set i v he, h.kind, ?_, h.kr, hc⟩, mk⟩
  rw [hr]
  refine ⟨vs, h1.same (fun g hg => Below.heap_setCell _ _ _ _ (fun e => hne (by rw [hg, e]))), fun j x hx => ?_⟩
  obtain ⟨sp, c, q1, q2⟩ := h2 j x hx
  exact ⟨sp, c, q1, q2.kp mk (fun e => hkk e.symm)⟩
theorem bytes_kp {w w2 : World} {K K' : Knd} {kd : Nat × Nat} {sp : Option Addr} {xs : List Nat} (h : Bytes w sp xs) (m : Kp (fun q => q = kd) K K' w w2) (hk : ∀ a, sp = some a → K a.block ≠ kd) : Bytes w2 sp xs := by
  refine ⟨h.small, ?_⟩
  rcases h.lie with q | ⟨g, o, q, hg, hc⟩
  · exact Or.inl q
  · refine Or.inr ⟨g, o, q, Nat.lt_of_lt_of_le hg m.size, fun j hj => ?_⟩
    rw [← hc j hj]
    exact World.cell?_of_block (a := ⟨g, o + j, none⟩) (m.block g hg (hk _ q))
theorem drew_kq (w : World) (K : Knd) (q : Nat) : Kp (fun _ => False) K K w (w.drewN q) := ⟨rfl, rfl, rfl, Nat.le_refl _, fun _ _ => rfl, fun _ _ _ => rfl⟩
theorem Dk0.ne {w : World} {K : Knd} {kd kb : Nat × Nat} {b : Nat} {L : Lk} {rv : Value} {m t : Nat} (h : Dk0 w K kd kb b L rv m t) : some b ≠ rv.ownBlock := by
  obtain ⟨vs, h1, _⟩ := h.row
  intro e
  rcases h1.2 with ⟨q, _⟩ | ⟨g, o, cap, cur, q, _, hg, _⟩
  · rw [q] at e; simp [Value.ownBlock] at e
  · rw [q] at e; simp [Value.ownBlock] at e; subst e
    have := h.db
    unfold Db at this
    rw [hg] at this
    simp at this
set_option maxRecDepth 100000 in
set_option maxHeartbeats 4000000 in
theorem dsend_any (w : World) (K : Knd) (kd kb : Nat × Nat) (hkk : kd ≠ kb) (b : Nat) (L : Lk) (rv : Value) (m t : Nat) (h : Dk w K kd kb b L rv m t) (sp : Option Addr) (n c : Nat) (xs : List Nat) (hx : Bytes w sp xs) (hxk : ∀ a, sp = some a → xs ≠ [] → K a.block ≠ kd) (hxn : xs.length = n) (hn : n ≤ 2048) (hN : L.numbered < 1099511627776) :
    Calls Tryz.prog 23 #[.pointer (some ⟨b, 0, none⟩), .slice sp n c] w fun e w' => e = .returned (.int .i64 0) ∧ ∃ rv' K', Dk w' K' kd kb b (sendN L (str xs)) rv' m (sendT L t) ∧ Kp (fun q => q = kd) K K' w w' := by
  obtain ⟨-, -, -, -, -, c5, c6, -, -, c9, c10, -, -, -, cf⟩ := blk14 h.db
  obtain ⟨vs, ho, hel⟩ := h.row
  obtain ⟨ra, rc, hrv, -, -⟩ := ho.form
  have p5 := h.con.p5
  have hm1 := h.pc.m1
  have hm2 := h.pc.m2
  obtain ⟨q, hq⟩ : ∃ q, L.row.length = q := ⟨_, rfl⟩
  obtain ⟨F, hF⟩ : ∃ F, L.numbered - L.row.length + 1 = F := ⟨_, rfl⟩
  have i1 : ¬ (2048 : Int) < (n : Int) := by omega
  have i2 : ¬ (1099511627776 : Int) < (F : Int) + (q : Int) := by omega
  have hFb : F ≤ 1099511627777 := by omega
  have hqb : q ≤ 1099511627776 := by omega
  rw [hF] at c6
  rw [hq] at hrv
  rw [hrv] at c5
  have hlt := C.lt_of_block h.db
  have HQ := hide hq
  have HRv := hide hrv
  have HD0 := hide h.d0
  have HPc := hide h.pc
  have HX := hide hx
  have HXn := hide hxn
  have HKk := hide hkk
  have HXk := hide hxk
  have HF := hide (fun w => fresh_d w m hm1 hm2)
  have HSz : Hid ((str xs).size = n) := (str_size hx.small).trans hxn
  have HNs := hide (nums_str hx.small)
  have HSm := hide hx.small
  clear h ho hel hF hq hrv hx hxn hkk hxk hN p5
  go_enter Tryz.func23, Tryz.ntmps23
  go_upto_region 1 with (fail)
  go_quiet (fail)
  obtain ⟨w1, hw1⟩ : ∃ w1, w.drewN nq = w1 := ⟨_, rfl⟩
  have HD1 : Hid (Dk0 w1 K kd kb b L rv m t) := by show Dk0 _ _ _ _ _ _ _ _ _; rw [← hw1]; exact HD0.out.kp (drew_kq w K nq) (fun e => e) (fun e => e)
  have HK1 : Hid (Kp (fun q => q = kd) K K w w1) := by show Kp _ _ _ _ _; rw [← hw1]; exact (drew_kq w K nq).mono (fun _ e => e.elim)
  have HX1 : Hid (Bytes w1 sp xs) := by show Bytes _ _ _; rw [← hw1]; exact HX.out.drewN nq
  rw [hw1]
  clear hw1 c5 c6 c9 c10 cf HD0 HX hlt
  obtain ⟨-, -, -, -, -, c5, -, -, -, c9, c10, -, -, -, cf⟩ := blk14 HD1.out.db
  rw [HRv.out] at c5
  have hlt := C.lt_of_block HD1.out.db
  go_upto_if 27 with (fail)
  go_cut [] from 22 to 36 (fun wc => Hid (Dk0 wc (ext K w1.heap.size kb) kd kb b L rv m (sendT L t) ∧ Kp (fun q => q = kd) K (ext K w1.heap.size kb) w1 wc ∧ Bytes wc sp xs))
  case first =>
    by_cases hq0 : q = 0
    · have e0 : ((q : Int) == 0) = true := by simp [hq0]
      have HT : Hid (sendT L t = 0) := by
        show (if L.row = [] then 0 else t) = 0
        rw [if_pos (List.eq_nil_of_length_eq_zero (by rw [HQ.out]; exact hq0))]
      clear hq0
      go_wp2_with fail
      refine (HF.out w1).mono ?_
      rintro e w2 ⟨rfl, hb2⟩
      have HB2 := hide hb2
      have hD2 := HD1.out.kp (kp_below hb2 (fun _ => False) K kb) (fun e => e) (fun e => e)
      clear c5 c9 c10 cf
      obtain ⟨-, -, -, -, -, -, -, -, -, c9, c10, -, -, -, cf⟩ := blk14 hD2.db
      have HD2 := hide hD2
      clear hb2 hD2
      go_wp2_with fail
      go_meet
      have hne := HD2.out.ne
      obtain ⟨d3, k3⟩ := HD2.out.put (L' := L) (t' := t) HKk.out hne 9 (.int .i64 (m : Int)) rfl rfl HD2.out.con
      obtain ⟨d4, k4⟩ := d3.put (L' := L) (t' := 0) HKk.out hne 10 (.int .i64 0) rfl rfl d3.con
      have k5 := (kp_below HB2.out (fun q => q = kd) K kb).trans (k3.trans k4)
      have hby : Bytes ((w2.setCell ⟨b, 9, none⟩ (.int .i64 (m : Int))).setCell ⟨b, 10, none⟩ (.int .i64 0)) sp xs := (by
        by_cases hxe : xs = []
        · rw [hxe]; exact ⟨fun _ h => (by cases h), Or.inl rfl⟩
        · exact bytes_kp HX1.out k5 (fun a e => HXk.out a e hxe))
      exact hide ⟨by rw [HT.out]; exact d4, k5, hby⟩
    · have e0 : ((q : Int) == 0) = false := by simp; omega
      have HT : Hid (sendT L t = t) := by
        show (if L.row = [] then 0 else t) = t
        rw [if_neg (fun e => hq0 (by rw [← HQ.out, e]; rfl))]
      clear hq0
      go_wp2_with fail
      go_meet
      exact hide ⟨by rw [HT.out]; exact HD1.out.kp (kp_below (Below.refl _ _) (fun _ => False) K kb) (fun e => e) (fun e => e), kp_below (Below.refl _ _) _ K kb, HX1.out⟩
  case rest =>
    rename World => w3
    have HD3 := hide hcut.out.1
    have HK3 := hide hcut.out.2.1
    have HX3 := hide hcut.out.2.2
    obtain ⟨vs, ho, hel⟩ := HD3.out.row
    rw [HRv.out, HQ.out] at ho
    have HOw := hide ho
    have HEl := hide hel
    have HKr := hide HD3.out.kr
    rw [HRv.out] at HKr
    have HCp := hide (copy_any w3.drew sp n c xs HXn.out ⟨HX3.out.small, HX3.out.lie⟩ (by omega))
    clear hcut c5 c9 c10 cf hlt HD1 HX1 ho hel
    obtain ⟨-, -, -, -, -, c5, -, -, -, -, -, -, -, -, cf⟩ := blk14 HD3.out.db
    rw [HRv.out] at c5
    have hlt := C.lt_of_block HD3.out.db
    obtain ⟨i0, hi, hz0, hz1, hz2⟩ := info_parts Tryz.infoSl
    go_upto_region 5 with (fail)
    go_region_law (first | (refine step_append_at _ (by rfl) (.tmp 41) (.tmp 44) 44 (by rfl) 0 31 i0 (.slice none 0 0) 1 24 Tryz.underlying44 hi hz0 hz1 hz2 rfl (.slice ra q rc) q vs (by rfl) (HOw8.out.same (fun g hg => (Below.heap_alloc _ _ _ (HOw8.out.lt g hg).2))) ⟨w5.heap.size, 0, none⟩ 1 1 [.slice a8 n c8] (by rfl) rfl (World.news_of_block (heap_alloc_new w5 (.cells #[.slice a8 n c8] 31))) (by simp [Value.oneCell']) (by omega) (by unfold maxLen; omega) (by omega) (by omega) ?_; intro g' d' cap' wa hown hgrow hat; have hdb : wa.heap[b]? = _ := ((hgrow.block b (by simp; omega) (fun e => HNe.out e)).trans ((Below.heap_alloc _ _ _ hlt5).trans HDb8.out)); obtain ⟨-, -, -, -, -, z5, -, -, -, -, -, -, -, -, zf⟩ := blk14 (L := L) (rv := .slice ra q rc) (m := m) (t := sendT L t) hdb; have HO4 := hide hown; have HG4 := hide hgrow; have HA4 := hide hat; have HDb4 := hide hdb; clear hown hgrow hat hdb) | (go_simp; go_at_call 57; refine HCp.out.mono ?_; rintro e w5 ⟨a8, c8, rfl, ho8, hb8⟩; have hb5 : Below w3.heap.size w3 w5 := ((Below.refl w3.heap.size w3).drew).trans hb8; have hdb5 : w5.heap[b]? = some (.cells (dkC L (.slice ra q rc) m (sendT L t)) 93 (0, 0)) := ((hb5.block b hlt).trans (by have h9 := HD3.out.db; rw [HRv.out] at h9; exact h9)); obtain ⟨-, -, -, -, -, y5, -, -, -, -, -, -, -, -, yf⟩ := blk14 (L := L) (rv := .slice ra q rc) (m := m) (t := sendT L t) hdb5; have hlt5 := C.lt_of_block hdb5; have HDb8 := hide hdb5; have HOw8 := hide (HOw.out.same (fun g hg => hb5.block g (HOw.out.lt g hg).2)); have HNe : Hid (some b ≠ (Value.slice ra q rc).ownBlock) := (by have h9 := HD3.out.ne; rw [HRv.out] at h9; exact h9); have HB5 := hide hb5; have HO8 := hide ho8; clear ho8 hb8 hb5 hdb5))
    all_goals go_wp2
    all_goals go_ret
    all_goals
      have hb6 : Below w3.heap.size w3 (w5.alloc (.cells #[.slice a8 n c8] 31)) := HB5.out.trans (((Below.refl _ _).alloc (Nat.le_refl _) _).mono HB5.out.size)
      have mk6 := kp_below hb6 (fun q => q = kd) (ext K w1.heap.size kb) kb
      obtain ⟨w6, hw6⟩ : ∃ w6, w5.alloc (.cells #[.slice a8 n c8] 31) = w6 := ⟨_, rfl⟩
      obtain ⟨K6, hK6⟩ : ∃ K6, ext (ext K w1.heap.size kb) w3.heap.size kb = K6 := ⟨_, rfl⟩
      have hd6 : Dk0 w6 K6 kd kb b L rv m (sendT L t) := by rw [← hw6, ← hK6]; exact HD3.out.kp (kp_below hb6 (fun _ => False) _ kb) (fun e => e) (fun e => e)
      have hby6 : Byk w6 K6 kb a8 xs := by
        have h8 := (owns_bytes HO8.out HSm.out).below ((Below.refl w5.heap.size w5).alloc (Nat.le_refl _) (.cells #[.slice a8 n c8] 31))
        rw [hw6] at h8
        refine ⟨h8, fun a ha => ?_⟩
        rcases HO8.out.2 with ⟨q, _⟩ | ⟨g, cap, cur, q, q2, q3, _⟩
        · cases q; cases ha
        · cases q; cases ha
          refine ⟨?_, by rw [← hK6]; exact ext_new _ _ q2⟩
          have := C.lt_of_block q3
          rw [← hw6]; simp; omega
      have hg6 := HG4.out
      have ho6 := HO4.out
      have ha6 := HA4.out
      rw [hw6] at hg6 ha6
      rw [hw6, hK6] at mk6
      have hkr6 : ∀ g, (Value.slice ra q rc).ownBlock = some g → K6 g = kd := fun g hg => by have := hd6.kr g; rw [HRv.out] at this; exact this hg
      have mg : Kp (fun q => q = kd) K6 (ext K6 w6.heap.size kd) w6 wa := kp_grown hg6 K6 kd kd _ hkr6 rfl
      have hkb : ext K6 w6.heap.size kd b = kd := (ext_old _ _ (C.lt_of_block hd6.db)).trans hd6.kind
      have ms : Kp (fun q => q = kd) (ext K6 w6.heap.size kd) (ext K6 w6.heap.size kd) wa (wa.setCell ⟨b, 5, none⟩ (.slice (some ⟨g', d', none⟩) (q + 1) cap')) := (Kp.refl (fun q => q = kd) _ wa).setCell (b := b) (Or.inr hkb) _ _
      have mt := mg.trans ms
      have hgb : g' ≠ b := fun e => by
        rcases ha6 with q1 | q1
        · have := hkr6 g' q1
          exact HNe.out (by rw [← e]; exact q1.symm)
        · have := C.lt_of_block hd6.db; omega
      have hdb7 : Db (wa.setCell ⟨b, 5, none⟩ (.slice (some ⟨g', d', none⟩) (q + 1) cap')) b (sendN L (str xs)) (.slice (some ⟨g', d', none⟩) (q + 1) cap') m (sendT L t) := Db.set (L := L) (rv := .slice ra q rc) HDb4.out 5 _ (dkC_send L _ _ m _ (str xs))
      have hlen : (sendN L (str xs)).row.length = q + 1 := by show (L.row ++ [(L.numbered + 1, str xs)]).length = q + 1; rw [List.length_append, HQ.out]; rfl
      refine ⟨rfl, _, _, ⟨hdb7, hkb, ⟨vs ++ [.slice a8 n c8], ?_, fun j x hx => ?_⟩, fun g hg => ?_, HD3.out.con.send _, HPc.out.send _⟩, (HK1.out.trans HK3.out).trans (mk6.trans mt)⟩
      · rw [hlen]
        exact ho6.same (fun g hg => by
          cases hg
          exact Below.heap_setCell _ _ _ _ hgb)
      · have hvl : vs.length = q := by have := HOw.out.1; omega
        have hx' : (L.row ++ [(L.numbered + 1, str xs)])[j]? = some x := hx
        by_cases hj : j < L.row.length
        · rw [List.getElem?_append_left hj] at hx'
          obtain ⟨sp2, c2, e1, e2⟩ := HEl.out j x hx'
          have e3 := ((e2.kp (kp_below hb6 (fun _ => False) _ kb) (fun e => e)))
          rw [hw6, hK6] at e3
          exact ⟨sp2, c2, by rw [List.getElem?_append_left (by rw [hvl, ← HQ.out]; exact hj)]; exact e1, e3.kp mt (fun e => HKk.out e.symm)⟩
        · have hj2 := (List.getElem?_eq_some_iff.1 hx').1
          rw [List.length_append] at hj2
          obtain rfl : j = L.row.length := by simp at hj2; omega
          simp at hx'
          subst hx'
          refine ⟨a8, c8, ?_, ?_⟩
          · rw [HQ.out, ← hvl]; simp [HSz.out]
          · show Byk _ _ _ _ (nums (str xs))
            rw [HNs.out]
            exact hby6.kp mt (fun e => HKk.out e.symm)
      · cases hg
        rcases ha6 with q1 | q1
        · exact (mg.same _ (by have := HOw8.out.lt g' q1; rw [← hw6]; simp; omega)).trans (hkr6 g' q1)
        · rw [q1]; exact ext_new _ _ (Nat.le_refl _)
end Go.Proofs.YtjcdnclfakmbpaaGreatDoor
namespace Go.Proofs.YtjcdnclfakmbpaaGreatDoor
open Go.RowKit
set_option maxRecDepth 100000 in
set_option maxHeartbeats 2000000 in
theorem dframe_any (w : World) (b : Nat) (L : Lk) (rv : Value) (m t : Nat) (h : Db w b L rv m t) (hh : L.handed ≤ 1099511627776) (k : Nat) (sp : Option Addr) (n c : Nat) (s : ByteArray) (hx : Bytes w sp (nums s)) (hn : s.size = n) :
    Calls Tryz.prog 102 #[.pointer (some ⟨b, 0, none⟩), .int .u64 (k : Int), .slice sp n c] w fun e w' => ∃ a q cc, e = .returned (.slice a q cc) ∧ w'.ownsRow w.heap.size 5 1 (.slice a q cc) q (C.vals (encB (lfr L k s))) ∧ Below w.heap.size w w' := by
  obtain ⟨c0, c1, c2, c3, -, -, -, -, c8, -⟩ := blk14 h
  have HE := hide (fun w' (hb : Bytes w' sp (nums s)) => renc_any w' (lfr L k s) sp c hb.c)
  have hl : (nums s).length = n := (nums_len s).trans hn
  simp only [frV, lfr, hl] at HE
  have HE2 : Hid (Calls Tryz.prog 106 #[.agg #[.int .i64 L.me, .int .i64 L.other, .int .u64 (L.life : Int), .int .u64 (L.known : Int), .int .u64 (k : Int), .int .u64 (L.handed : Int), .slice sp n c]] w.drew fun e w' => ∃ a q cc, e = .returned (.slice a q cc) ∧ w'.ownsRow w.drew.heap.size 5 1 (.slice a q cc) q (C.vals (encB ⟨L.me, L.other, L.life, L.known, k, L.handed, nums s⟩)) ∧ Below w.drew.heap.size w.drew w') := HE.out w.drew ⟨hx.small, hx.lie⟩
  obtain ⟨E, hE⟩ : ∃ E, encB ⟨L.me, L.other, L.life, L.known, k, L.handed, nums s⟩ = E := ⟨_, rfl⟩
  have HEe : Hid (encB (lfr L k s) = E) := hE
  rw [hE] at HE2
  obtain ⟨me, hme⟩ : ∃ me, L.me = me := ⟨_, rfl⟩
  obtain ⟨ot, hot⟩ : ∃ ot, L.other = ot := ⟨_, rfl⟩
  obtain ⟨li, hli⟩ : ∃ li, L.life = li := ⟨_, rfl⟩
  obtain ⟨kn, hkn⟩ : ∃ kn, L.known = kn := ⟨_, rfl⟩
  obtain ⟨hd, hhd⟩ : ∃ hd, L.handed = hd := ⟨_, rfl⟩
  have e8 : ((hd + 1 : Nat) : Int) = (hd : Int) + 1 := by omega
  rw [hme, hot, hli, hkn, hhd] at HE2
  rw [hme] at c0
  rw [hot] at c1
  rw [hli] at c2
  rw [hkn] at c3
  rw [hhd, e8] at c8
  rw [hhd] at hh
  have z1 : IntKind.u64.wrap (hd : Int) = (hd : Int) := by rw [IntKind.wrap_u64]; omega
  have HZ := hide z1
  have hlt := C.lt_of_block h
  clear h HE hx hl hE hme hot hli hkn hhd e8 z1
  go_enter Tryz.func102, Tryz.ntmps102
  go_upto_region 1 with (fail)
  go_region_held3 (fun w' => w'.cell? ⟨b, 0, none⟩ = some (.int .i64 me) ∧ w'.cell? ⟨b, 1, none⟩ = some (.int .i64 ot) ∧ w'.cell? ⟨b, 2, none⟩ = some (.int .u64 (li : Int)) ∧ w'.cell? ⟨b, 3, none⟩ = some (.int .u64 (kn : Int)) ∧ w'.cell? ⟨b, 8, none⟩ = some (.int .u64 ((hd : Int) + 1))) (go_keep) (first | (go_at_call 106; rw [HZ.out]; refine HE2.out.mono ?_; rintro e w2 ⟨a, q, cc, rfl, ho, hb⟩; have d0 := (hb.cell (p := ⟨b, 0, none⟩) hlt).trans c0; have d1 := (hb.cell (p := ⟨b, 1, none⟩) hlt).trans c1; have d2 := (hb.cell (p := ⟨b, 2, none⟩) hlt).trans c2; have d3 := (hb.cell (p := ⟨b, 3, none⟩) hlt).trans c3; have d8 := (hb.cell (p := ⟨b, 8, none⟩) hlt).trans c8; have HO := hide ho; have HB := hide hb; clear ho hb) | fail)
  go_wp2
  go_ret
  rw [HEe.out]
  exact ⟨a, q, cc, rfl, HO.out, ((Below.refl w.heap.size w).drew).trans HB.out⟩
end Go.Proofs.YtjcdnclfakmbpaaGreatDoor
