import Derived.Deep.CutBlock
import Derived.Test.YtjcdnclfakmbpaaGreatDoorDkD
import Derived.Test.YtjcdnclfakmbpaaGreatDoorHeB
namespace Go.Proofs.YtjcdnclfakmbpaaGreatDoor
open Go.RowKit Go.Sort
def Drow (w : World) (K : Knd) (kb : Nat × Nat) (rv : Value) (row : List (Nat × ByteArray)) : Prop := ∃ vs : List Value, ownsAt w 0 31 1 rv row.length vs ∧ ∀ (j : Nat) (x : Nat × ByteArray), row[j]? = some x → ∃ sp c, vs[j]? = some (.slice sp x.2.size c) ∧ Byk w K kb sp (nums x.2)
theorem Drow.nil (w : World) (K : Knd) (kb : Nat × Nat) : Drow w K kb (.slice none 0 0) [] := ⟨[], ⟨rfl, Or.inl ⟨rfl, rfl⟩⟩, fun j x hx => by simp at hx⟩
theorem Drow.form {w : World} {K : Knd} {kb : Nat × Nat} {rv : Value} {row : List (Nat × ByteArray)} (h : Drow w K kb rv row) : ∃ a c, rv = .slice a row.length c ∧ row.length ≤ c ∧ c ≤ maxLen ∧ (0 < row.length → ∃ g o, a = some ⟨g, o, none⟩) := by
  obtain ⟨vs, h1, _⟩ := h
  rcases h1.2 with ⟨q1, q2⟩ | ⟨g, o, cap, cur, q1, _, _, h3, h4, _⟩
  · exact ⟨none, 0, by rw [q1, q2], by omega, by unfold maxLen; omega, fun h => by omega⟩
  · exact ⟨_, cap, q1, h3, h4, fun _ => ⟨g, o, rfl⟩⟩
theorem Drow.tail {w : World} {K : Knd} {kb : Nat × Nat} {g o q c : Nat} {row : List (Nat × ByteArray)} (h : Drow w K kb (.slice (some ⟨g, o, none⟩) q c) row) (hq : row.length = q) (h0 : 0 < q) (rv' : Value) (hr : rv' = .slice (some ⟨g, o + 1, none⟩) (q - 1) (c - 1) ∨ (rv' = .slice (some ⟨g, o, none⟩) 0 0 ∧ q = 1)) : Drow w K kb rv' (row.drop 1) := by
  obtain ⟨vs, h1, h2⟩ := h
  rw [hq] at h1
  have hl : (row.drop 1).length = q - 1 := by rw [List.length_drop, hq]
  refine ⟨vs.drop 1, ?_, fun j x hx => ?_⟩
  · rw [hl]
    rcases hr with rfl | ⟨rfl, rfl⟩
    · have := h1.drop 1 h0
      simpa using this
    · have hvl := h1.1
      have hv : vs.drop 1 = [] := List.drop_of_length_le (by omega)
      refine ⟨by rw [List.length_drop, hvl], Or.inr ?_⟩
      rcases h1.2 with ⟨e, _⟩ | ⟨g', o', cap', cur, e, k1, k2, k3, k4, k5, k6⟩
      · cases e
      · cases e
        exact ⟨g, o, 0, cur, rfl, k1, k2, Nat.le_refl _, Nat.zero_le _, by omega, by rw [hv]; simp⟩
  · rw [List.getElem?_drop] at hx
    obtain ⟨sp, c', q1, q2⟩ := h2 _ x hx
    exact ⟨sp, c', by rw [List.getElem?_drop]; exact q1, q2⟩
def dropL (L : Lk) (j : Nat) : Lk := { L with row := L.row.drop j }
theorem Lcon.drop {L : Lk} (h : Lcon L) (j : Nat) : Lcon (dropL L j) := by
  refine ⟨fun i m hm => ?_, ?_⟩
  · have hm' : (L.row.drop j)[i]? = some m := hm
    rw [List.getElem?_drop] at hm'
    have h1 := h.p4 _ m hm'
    have h2 := (List.getElem?_eq_some_iff.1 hm').1
    show m.1 + (L.row.drop j).length = L.numbered + i + 1
    rw [List.length_drop]
    omega
  · show (L.row.drop j).length ≤ L.numbered
    rw [List.length_drop]
    have := h.p5
    omega
theorem Lcon.paced {L : Lk} (h : Lcon L) (p : Bool) : Lcon { L with paced := p } := ⟨h.p4, h.p5⟩
theorem Pce.paced {L : Lk} {m t : Nat} (h : Pce L m t) (p : Bool) : Pce { L with paced := p } m t := ⟨h.lim, h.m1, h.m2, h.left, h.gap⟩
theorem Pce.drop {L : Lk} {m t : Nat} (h : Pce L m t) (j : Nat) : Pce (dropL L j) m t := ⟨h.lim, h.m1, h.m2, h.left, h.gap⟩
theorem Lcon.anew (L : Lk) (mine : Nat) : Lcon (lreset (lanew L mine)) := ⟨fun j m hm => by simp [lreset, lanew] at hm, Nat.zero_le _⟩
theorem Lcon.ack {L : Lk} (h : Lcon L) : Lcon { L with ack := true } := ⟨h.p4, h.p5⟩
structure D5 (w wr : World) (K : Knd) (kd kb : Nat × Nat) (b : Nat) (L : Lk) (rv : Value) (m t : Nat) (cs hs : Array Value) : Prop where
  db : Db wr b L rv m t
  fr : wr.heap[w.heap.size]? = some (.cells cs 33 (0, 0))
  rs : wr.heap[w.heap.size + 1]? = some (.cells #[.slice none 0 0, .bool false, .bool false, .bool false] 129 (0, 0))
  hd : wr.heap[w.heap.size + 2]? = some (.cells hs 129 (0, 0))
  but : C.But b w wr
  lt : b < w.heap.size
  row : Drow w K kb rv L.row
  kr : ∀ g, rv.ownBlock = some g → K g = kd ∧ g ≠ b
  con : Lcon L
  pc : Pce L m t
section
variable {w wr wd : World} {K : Knd} {kd kb : Nat × Nat} {b : Nat} {L L' : Lk} {rv rv' : Value} {m t t' : Nat} {cs hs : Array Value}
theorem D5.onl (h : D5 w wr K kd kb b L rv m t cs hs) (hdb : Db wd b L' rv' m t') (ho : Onl b wr wd) (hr : Drow w K kb rv' L'.row) (hk : ∀ g, rv'.ownBlock = some g → K g = kd ∧ g ≠ b) (hc : Lcon L') (hp : Pce L' m t') : D5 w wd K kd kb b L' rv' m t' cs hs := by
  have := h.lt
  exact ⟨hdb, (ho.block _ (by omega)).trans h.fr, (ho.block _ (by omega)).trans h.rs, (ho.block _ (by omega)).trans h.hd, ⟨ho.os.trans h.but.os, ho.tape.trans h.but.tape, ho.output.trans h.but.output, by rw [ho.size]; exact h.but.size, fun k hk hn => (ho.block k hn).trans (h.but.block k hk hn)⟩, h.lt, hr, hk, hc, hp⟩
theorem D5.below (h : D5 w wr K kd kb b L rv m t cs hs) (hb : Below wr.heap.size wr wd) : D5 w wd K kd kb b L rv m t cs hs :=
  ⟨h.db.kept (hb.block _ (C.lt_of_block h.db)), (hb.block _ (C.lt_of_block h.fr)).trans h.fr, (hb.block _ (C.lt_of_block h.rs)).trans h.rs, (hb.block _ (C.lt_of_block h.hd)).trans h.hd, h.but.trans (C.but_of hb b), h.lt, h.row, h.kr, h.con, h.pc⟩
theorem D5.drewN (h : D5 w wr K kd kb b L rv m t cs hs) (q : Nat) : D5 w (wr.drewN q) K kd kb b L rv m t cs hs := h.below ⟨rfl, rfl, rfl, Nat.le_refl _, fun _ _ => rfl⟩
theorem D5.hset (h : D5 w wr K kd kb b L rv m t cs hs) (i : Nat) (v : Value) : D5 w (wr.setCell ⟨w.heap.size + 2, i, none⟩ v) K kd kb b L rv m t cs (hs.setIfInBounds i v) := by
  have hl := h.lt
  have hs' : ∀ k, k ≠ w.heap.size + 2 → (wr.setCell ⟨w.heap.size + 2, i, none⟩ v).heap[k]? = wr.heap[k]? := fun k hk => Below.heap_setCell _ _ _ _ hk
  exact ⟨h.db.kept (hs' _ (by omega)), (hs' _ (by omega)).trans h.fr, (hs' _ (by omega)).trans h.rs, C.block_set h.hd v, ⟨h.but.os, h.but.tape, h.but.output, by simpa [World.setCell] using h.but.size, fun k hk hn => (hs' k (by omega)).trans (h.but.block k hk hn)⟩, h.lt, h.row, h.kr, h.con, h.pc⟩
theorem D5.word (h : D5 w wr K kd kb b L rv m t cs hs) (p : Bool) : D5 w (wr.setCell ⟨b, 13, none⟩ (.bool p)) K kd kb b { L with paced := p } rv m t cs hs :=
  h.onl (h.db.set 13 _ rfl) ((Onl.refl b wr).set 13 _) h.row h.kr (h.con.paced p) (h.pc.paced p)
theorem D5.acked (h : D5 w wr K kd kb b L rv m t cs hs) : D5 w (wr.setCell ⟨b, 11, none⟩ (.bool true)) K kd kb b { L with ack := true } rv m t cs hs :=
  h.onl (h.db.set 11 _ rfl) ((Onl.refl b wr).set 11 _) h.row h.kr h.con.ack ⟨h.pc.lim, h.pc.m1, h.pc.m2, h.pc.left, h.pc.gap⟩
theorem D5.expect (h : D5 w wr K kd kb b L rv m t cs hs) : D5 w (wr.setCell ⟨b, 8, none⟩ (.int .u64 (((L.handed + 1 : Nat) : Int) + 1))) K kd kb b { L with handed := L.handed + 1 } rv m t cs hs :=
  h.onl (h.db.set 8 _ rfl) ((Onl.refl b wr).set 8 _) h.row h.kr ⟨h.con.p4, h.con.p5⟩ ⟨h.pc.lim, h.pc.m1, h.pc.m2, h.pc.left, h.pc.gap⟩
theorem D5.anew (h : D5 w wr K kd kb b L rv m t cs hs) (mine : Nat) : Db ((((((wr.setCell ⟨b, 3, none⟩ (.int .u64 (mine : Int))).setCell ⟨b, 5, none⟩ (.slice none 0 0)).setCell ⟨b, 6, none⟩ (.int .u64 1)).setCell ⟨b, 7, none⟩ (.int .u64 0)).setCell ⟨b, 8, none⟩ (.int .u64 1)).setCell ⟨b, 11, none⟩ (.bool false)) b (lanew L mine) (.slice none 0 0) m t ∧ Onl b wr ((((((wr.setCell ⟨b, 3, none⟩ (.int .u64 (mine : Int))).setCell ⟨b, 5, none⟩ (.slice none 0 0)).setCell ⟨b, 6, none⟩ (.int .u64 1)).setCell ⟨b, 7, none⟩ (.int .u64 0)).setCell ⟨b, 8, none⟩ (.int .u64 1)).setCell ⟨b, 11, none⟩ (.bool false)) := by
  refine ⟨?_, ((((((Onl.refl b wr).set 3 _).set 5 _).set 6 _).set 7 _).set 8 _).set 11 _⟩
  have h0 := h.db
  unfold Db at h0 ⊢
  have h1 := C.block_set (i := 3) h0 (.int .u64 (mine : Int))
  have h2 := C.block_set (i := 5) h1 (.slice none 0 0)
  have h3 := C.block_set (i := 6) h2 (.int .u64 1)
  have h4 := C.block_set (i := 7) h3 (.int .u64 0)
  have h5 := C.block_set (i := 8) h4 (.int .u64 1)
  have h6 := C.block_set (i := 11) h5 (.bool false)
  exact h6
theorem D5.dropped (h : D5 w wr K kd kb b L rv m t cs hs) (h0 : 0 < L.row.length) (hr : Drow w K kb rv' (L.row.drop 1)) (hk : rv'.ownBlock = rv.ownBlock) : D5 w ((wr.setCell ⟨b, 5, none⟩ rv').setCell ⟨b, 6, none⟩ (.int .u64 (((L.numbered - L.row.length + 1 : Nat) : Int) + 1))) K kd kb b (dropL L 1) rv' m t cs hs := by
  refine h.onl ?_ (((Onl.refl b wr).set 5 _).set 6 _) hr (by rw [hk]; exact h.kr) (h.con.drop 1) (h.pc.drop 1)
  have hd := h.db
  unfold Db at hd ⊢
  have h1 := C.block_set (i := 5) hd rv'
  have h2 := C.block_set (i := 6) h1 (.int .u64 (((L.numbered - L.row.length + 1 : Nat) : Int) + 1))
  rw [h2]
  have p5 := h.con.p5
  have e : ((L.numbered - (L.row.drop 1).length + 1 : Nat) : Int) = ((L.numbered - L.row.length + 1 : Nat) : Int) + 1 := by rw [List.length_drop]; omega
  unfold dkC dropL
  rw [e]
  rfl
theorem D5.put (h : D5 w wr K kd kb b L rv m t cs hs) (hkk : kd ≠ kb) (hkb : K b = kd) (y0 y1 y2 y3 : Value) : ∃ wz, ((((wr.setCell ⟨w.heap.size + 1, 0, none⟩ y0).setCell ⟨w.heap.size + 1, 1, none⟩ y1).setCell ⟨w.heap.size + 1, 2, none⟩ y2).setCell ⟨w.heap.size + 1, 3, none⟩ y3) = wz ∧ wz.heap[w.heap.size + 1]? = some (.cells #[y0, y1, y2, y3] 129 (0, 0)) ∧ Dk wz (ext K w.heap.size kd) kd kb b L rv m t ∧ Kp (fun q => q = kd) K (ext K w.heap.size kd) w wz ∧ (∀ g, g ≠ w.heap.size + 1 → wz.heap[g]? = wr.heap[g]?) := by
  have hs : ∀ (W : World) (i : Nat) (v : Value) (g : Nat), g ≠ w.heap.size + 1 → (W.setCell ⟨w.heap.size + 1, i, none⟩ v).heap[g]? = W.heap[g]? := fun W i v g hg => Below.heap_setCell _ _ _ _ hg
  have hk : ∀ g, g ≠ w.heap.size + 1 → ((((wr.setCell ⟨w.heap.size + 1, 0, none⟩ y0).setCell ⟨w.heap.size + 1, 1, none⟩ y1).setCell ⟨w.heap.size + 1, 2, none⟩ y2).setCell ⟨w.heap.size + 1, 3, none⟩ y3).heap[g]? = wr.heap[g]? := fun g hg => by rw [hs _ _ _ g hg, hs _ _ _ g hg, hs _ _ _ g hg, hs _ _ _ g hg]
  have hb := h.lt
  refine ⟨_, rfl, put4z h.rs y0 y1 y2 y3, ?_, ?_, hk⟩
  · obtain ⟨vs, r1, r2⟩ := h.row
    refine ⟨h.db.kept (hk b (by omega)), by rw [ext_old K kd h.lt]; exact hkb, ⟨vs, r1.same (fun g hg => (hk g (by have := (r1.lt g hg).2; omega)).trans (h.but.block g (r1.lt g hg).2 (h.kr g hg).2)), fun j x hx => ?_⟩, fun g hg => by rw [ext_old K kd (r1.lt g hg).2]; exact (h.kr g hg).1, h.con, h.pc⟩
    obtain ⟨sp, c, q1, q2⟩ := r2 j x hx
    refine ⟨sp, c, q1, ⟨⟨q2.by_.small, ?_⟩, fun a ha => ⟨?_, ?_⟩⟩⟩
    · rcases q2.by_.lie with q | ⟨g, o, q, hg, hc⟩
      · exact Or.inl q
      · refine Or.inr ⟨g, o, q, ?_, fun i hi => ?_⟩
        · have := h.but.size; simp [World.setCell]; omega
        · rw [← hc i hi]
          exact World.cell?_of_block (a := ⟨g, o + i, none⟩) ((hk g (by omega)).trans (h.but.block g hg (fun e => hkk (by rw [← hkb, ← e]; exact (q2.kind _ q).2))))
    · have := (q2.kind a ha).1; have := h.but.size; simp [World.setCell]; omega
    · rw [ext_old K kd (q2.kind a ha).1]; exact (q2.kind a ha).2
  · exact ⟨h.but.os, h.but.tape, h.but.output, by have := h.but.size; simpa [World.setCell] using this, fun i hi => ext_old K kd hi, fun i hi hn => (hk i (by omega)).trans (h.but.block i hi (fun e => hn (by rw [e]; exact hkb)))⟩
end
structure DhPost (w : World) (K : Knd) (kd kb : Nat × Nat) (b : Nat) (L : Lk) (m t0 mine yours seq ack : Nat) (xs : List Nat) (w' : World) (a : Option Addr) (n : Nat) : Prop where
  by_ : Bytes w' a (if hrH L mine yours seq ack = true then xs else [])
  len : n = if hrH L mine yours seq ack = true then xs.length else 0
  lo : ∀ p, a = some p → w.heap.size ≤ p.block
  dk : ∃ rv t, Dk w' (ext K w.heap.size kd) kd kb b (hrL L mine yours seq ack) rv m t ∧ t ≤ t0
  kp : Kp (fun q => q = kd) K (ext K w.heap.size kd) w w'
end Go.Proofs.YtjcdnclfakmbpaaGreatDoor
