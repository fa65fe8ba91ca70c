import Derived.Test.YtjcdnclfakmbpaaGreatDoorLkK
import Derived.Test.YtjcdnclfakmbpaaGreatDoorMbB
namespace Go.Proofs.YtjcdnclfakmbpaaGreatDoor
open Go.RowKit
def ownsAt (w : World) (base : Nat) (e : TypeId) (size : Nat) (v : Value) (n : Nat) (xs : List Value) : Prop :=
  xs.length = n * size ∧ ((v = .slice none 0 0 ∧ n = 0) ∨ ∃ g o cap cur, v = .slice (some ⟨g, o, none⟩) n cap ∧ base ≤ g ∧ w.heap[g]? = some (.cells cur e (0, 0)) ∧ n ≤ cap ∧ cap ≤ maxLen ∧ o + cap * size ≤ cur.size ∧ (cur.toList.drop o).take (n * size) = xs)
theorem ownsAt.lt {w : World} {base : Nat} {e : TypeId} {size : Nat} {v : Value} {n : Nat} {xs : List Value} (h : ownsAt w base e size v n xs) : ∀ k, v.ownBlock = some k → base ≤ k ∧ k < w.heap.size := by
  intro k hk
  rcases h.2 with ⟨h1, _⟩ | ⟨g, o, cap, cur, h1, h2, h3, _⟩
  · rw [h1] at hk; simp [Value.ownBlock] at hk
  · rw [h1] at hk; simp [Value.ownBlock] at hk; subst hk; exact ⟨h2, C.lt_of_block h3⟩
theorem ownsAt.same {w w' : World} {base : Nat} {e : TypeId} {size : Nat} {v : Value} {n : Nat} {xs : List Value} (h : ownsAt w base e size v n xs) (hs : ∀ g, v.ownBlock = some g → w'.heap[g]? = w.heap[g]?) : ownsAt w' base e size v n xs := by
  refine ⟨h.1, h.2.imp id ?_⟩
  rintro ⟨g, o, cap, cur, h1, h2, h3, r⟩
  exact ⟨g, o, cap, cur, h1, h2, (hs g (by rw [h1]; rfl)).trans h3, r⟩
theorem ownsAt.drop {w : World} {base : Nat} {e : TypeId} {size : Nat} {g o cap n : Nat} {xs : List Value} (h : ownsAt w base e size (.slice (some ⟨g, o, none⟩) n cap) n xs) (k : Nat) (hk : k ≤ n) : ownsAt w base e size (.slice (some ⟨g, o + k * size, none⟩) (n - k) (cap - k)) (n - k) (xs.drop (k * size)) := by
  have hn := h.1
  rcases h.2 with ⟨h1, _⟩ | ⟨g', o', cap', cur, h1, h2, h3, h4, h5, h6, h7⟩
  · cases h1
  · cases h1
    refine ⟨by rw [List.length_drop, hn, Nat.sub_mul], Or.inr ⟨g, _, _, cur, rfl, h2, h3, by omega, by omega, ?_, ?_⟩⟩
    · rw [Nat.sub_mul]
      have : k * size ≤ cap * size := Nat.mul_le_mul_right _ (by omega)
      omega
    · rw [← h7, List.drop_take, List.drop_drop, Nat.sub_mul]
theorem ownsAt.cells {w : World} {base : Nat} {e : TypeId} {size : Nat} {g o cap n : Nat} {xs : List Value} (h : ownsAt w base e size (.slice (some ⟨g, o, none⟩) n cap) n xs) : ∀ j u, xs[j]? = some u → w.cell? ⟨g, o + j, none⟩ = some u := by
  intro j u hu
  have hn := h.1
  rcases h.2 with ⟨h1, _⟩ | ⟨g', o', cap', cur, h1, h2, h3, h4, h5, h6, h7⟩
  · cases h1
  · cases h1
    have hj : j < n * size := by rw [← hn]; exact (List.getElem?_eq_some_iff.1 hu).1
    rw [← h7, List.getElem?_take, if_pos hj, List.getElem?_drop] at hu
    simp only [World.cell?, h3]
    simpa using hu
theorem run_append_room_at {P : Program} (w : World) (t ty e : TypeId) (i : TypeInfo) (ht : P.underlying t = some (.slice e)) (hi : P.info? e = some i)
    (g o sLen sCap : Nat) (cur : Array Value) (hg : w.heap[g]? = some (.cells cur e (0, 0)))
    (a : Addr) (m c : Nat) (news : List Value) (hl : news.length = m * i.size) (hnews : ∀ j u, news[j]? = some u → w.cell? (a.add j) = some u) (h1 : ∀ u ∈ news, u.oneCell' = true)
    (hroom : sLen + m ≤ sCap) (hfit : o + sLen * i.size + news.length ≤ cur.size) :
    (Builtin.append_ #[t, t] ty #[.slice (some ⟨g, o, none⟩) sLen sCap, .slice (some a) m c]).run P w =
      .ok (.slice (some ⟨g, o, none⟩) (sLen + m) sCap) (w.setRow g (cur.toList.take (o + sLen * i.size) ++ news ++ cur.toList.drop (o + sLen * i.size + news.length)).toArray) := by
  have hf := run_firstCells_some (P := P) w i.size m a m c news hl hnews
  have hst := run_storeCells_at P g (o + sLen * i.size) e news 0 cur w hg (by simpa using hfit) h1
  simp only [Nat.add_zero] at hst
  simp [Builtin.append_, run_underlying ht, sizeOf, typeInfo, hi, Builtin.lenOf, hroom, hf, Addr.add_lit, hst]
theorem run_append_at {P : Program} (w : World) (base : Nat) (t ty e : TypeId) (i : TypeInfo) (z : Value) (size bytes : Nat) (ht : P.underlying t = some (.slice e)) (hi : P.info? e = some i) (hz : i.zero = some z)
    (hsize : i.size = size) (hby : i.bytes = bytes) (hzs : z.cells.size = size)
    (v : Value) (n : Nat) (xs : List Value) (hown : ownsAt w base e size v n xs)
    (a : Addr) (m c : Nat) (news : List Value) (hl : news.length = m * size) (hnews : ∀ j u, news[j]? = some u → w.cell? (a.add j) = some u) (h1 : ∀ u ∈ news, u.oneCell' = true) (hm : 0 < m)
    (h63 : n + m ≤ maxLen) (hbytes : (n + m) * bytes ≤ 140737488355328) (hbase : base ≤ w.heap.size) :
    ∃ g o cap w', (Builtin.append_ #[t, t] ty #[v, .slice (some a) m c]).run P w = .ok (.slice (some ⟨g, o, none⟩) (n + m) cap) w' ∧ ownsAt w' base e size (.slice (some ⟨g, o, none⟩) (n + m) cap) (n + m) (xs ++ news) ∧ w.grownBy w' v.ownBlock ∧ (v.ownBlock = some g ∨ g = w.heap.size) := by
  subst hsize
  subst hby
  have hsmall : n + m ≤ 9223372036854775807 := by simp only [maxLen] at h63; omega
  have hlen : (xs ++ news).length = (n + m) * i.size := by rw [List.length_append, hown.1, hl, Nat.add_mul]
  have grown : ∀ (old : Nat), old < n + m → ∀ (row : Option Nat),
      ownsAt (w.drew.alloc (.cells (xs.toArray ++ news.toArray ++ Builtin.zeroCells z.cells (grownCap w (n + m) old e - (n + m))) e)) base e i.size
        (.slice (some ⟨w.heap.size, 0, none⟩) (n + m) (grownCap w (n + m) old e)) (n + m) (xs ++ news) ∧
      w.grownBy (w.drew.alloc (.cells (xs.toArray ++ news.toArray ++ Builtin.zeroCells z.cells (grownCap w (n + m) old e - (n + m))) e)) row := by
    intro old ho row
    have hge := grownCap_ge w (n + m) old e
    have hcm : grownCap w (n + m) old e ≤ maxLen := grownCap_le_maxLen w (n + m) old e h63
    refine ⟨⟨hlen, .inr ⟨w.heap.size, 0, _, _, rfl, hbase, heap_alloc_new w.drew _, hge, hcm, ?_, ?_⟩⟩, ⟨rfl, rfl, rfl, by simp, fun k hk _ => heap_alloc_old w.drew _ hk⟩⟩
    · simp only [Array.size_append, List.size_toArray, size_zeroCells, hzs, hown.1, hl, ← Nat.add_mul, Nat.zero_add]
      apply Nat.le_of_eq
      congr 1
      omega
    · simp only [Array.toList_append, List.append_assoc, List.drop_zero]
      rw [← List.append_assoc, ← hlen]
      exact List.take_left
  rcases hown.2 with ⟨rfl, rfl⟩ | ⟨g, o, cap, cur, rfl, hbg, hg, hnc, hcm, hcs, htake⟩
  · have hx : xs = [] := List.eq_nil_of_length_eq_zero (by simpa using hown.1)
    subst hx
    have hr := run_append_nil (P := P) w t ty e i z ht hi hz a m c news hl hnews (by omega) (by omega) (by have hb := hbytes; simp only [Nat.zero_add] at hb; omega)
    have hgr := grown 0 (by omega) (Value.ownBlock (.slice none 0 0))
    simp only [Nat.zero_add, List.nil_append, Array.empty_append] at hgr ⊢
    exact ⟨_, _, _, _, hr, hgr.1, hgr.2, Or.inr rfl⟩
  · by_cases hroom : n + m ≤ cap
    · have hfit : o + n * i.size + news.length ≤ cur.size := by
        rw [hl]
        have : (n + m) * i.size ≤ cap * i.size := Nat.mul_le_mul_right _ hroom
        rw [Nat.add_mul] at this
        omega
      have hr := run_append_room_at (P := P) w t ty e i ht hi g o n cap cur hg a m c news hl hnews h1 hroom hfit
      have hto : (cur.toList.take (o + n * i.size)).drop o = xs := by rw [List.drop_take, Nat.add_sub_cancel_left]; exact htake
      have hol : o ≤ (cur.toList.take (o + n * i.size)).length := by simp; omega
      refine ⟨_, _, _, _, hr, ⟨hlen, .inr ⟨g, o, cap, _, rfl, hbg, setRow_heap w g cur _ e _ hg, hroom, hcm, ?_, ?_⟩⟩, ⟨rfl, rfl, rfl, by simp, fun k _ hk => setRow_other w g k _ (fun e => hk (by simp [Value.ownBlock, e]))⟩, Or.inl rfl⟩
      · simp only [List.size_toArray, List.length_append, List.length_take, List.length_drop, Array.length_toList]
        omega
      · simp only [List.append_assoc]
        rw [List.drop_append_of_le_length hol, hto, ← List.append_assoc, ← hlen]
        exact List.take_left
    · have holds : ∀ j u, xs[j]? = some u → w.cell? ((⟨g, o, none⟩ : Addr).add j) = some u := fun j u hu => by
        rw [Addr.add_lit]
        exact ownsAt.cells hown j u hu
      have hr := run_append_grow (P := P) w t ty e i z ht hi hz ⟨g, o, none⟩ n cap xs hown.1 holds a m c news hl hnews (by omega) (by omega) (growslice_fits (by omega) hbytes)
      have hgr := grown cap (by omega) (Value.ownBlock (.slice (some ⟨g, o, none⟩) n cap))
      exact ⟨_, _, _, _, hr, hgr.1, hgr.2, Or.inr rfl⟩
theorem wp_append_at {P : Program} (w : World) {o : Oper} {a : Act} {K : Act → World → Prop} {Q : Exit → Act → World → Prop} (s x : Operand) (t : TypeId)
    (ho : o.op = .call { callee := .builtin .append, args := #[s, x], argTypes := #[t, t] })
    (base : Nat) (e : TypeId) (i : TypeInfo) (z : Value) (size bytes : Nat) (ht : P.underlying t = some (.slice e)) (hi : P.info? e = some i) (hz : i.zero = some z)
    (hsize : i.size = size) (hby : i.bytes = bytes) (hzs : z.cells.size = size)
    (v : Value) (n : Nat) (xs : List Value) (hs : a.eval s = v) (hown : ownsAt w base e size v n xs)
    (ad : Addr) (m c : Nat) (news : List Value) (hx : a.eval x = .slice (some ad) m c) (hl : news.length = m * size) (hnews : ∀ j u, news[j]? = some u → w.cell? (ad.add j) = some u) (h1 : ∀ u ∈ news, u.oneCell' = true)
    (hm : 0 < m) (h63 : n + m ≤ maxLen) (hbytes : (n + m) * bytes ≤ 140737488355328) (hbase : base ≤ w.heap.size)
    (h : ∀ g d cap w', ownsAt w' base e size (.slice (some ⟨g, d, none⟩) (n + m) cap) (n + m) (xs ++ news) → w.grownBy w' v.ownBlock → (v.ownBlock = some g ∨ g = w.heap.size) → K (a.put o.dst (.slice (some ⟨g, d, none⟩) (n + m) cap)) w') : o.wp P a w K Q := by
  obtain ⟨g, d, cap, w', hr, h2, h3, h4⟩ := run_append_at (P := P) w base t o.type e i z size bytes ht hi hz hsize hby hzs v n xs hown ad m c news hl hnews h1 hm h63 hbytes hbase
  unfold Oper.wp execOp
  simp only [ho, resolve, invoke, builtin, Sem.run_bind, Sem.run_pure, Result.andThen_ok, List.map_toArray, List.map_cons, List.map_nil, hs, hx, hr]
  exact h g d cap w' h2 h3 h4
theorem step_append_at {P : Program} (w : World) {ops : Array Oper} {o : Oper} {a : Act} {K : Act → World → Prop} {Q : Exit → Act → World → Prop} {E : Prop} (hgd : o.guard = none) (s x : Operand) (t : TypeId)
    (ho : o.op = .call { callee := .builtin .append, args := #[s, x], argTypes := #[t, t] })
    (base : Nat) (e : TypeId) (i : TypeInfo) (z : Value) (size bytes : Nat) (ht : P.underlying t = some (.slice e)) (hi : P.info? e = some i) (hz : i.zero = some z)
    (hsize : i.size = size) (hby : i.bytes = bytes) (hzs : z.cells.size = size)
    (v : Value) (n : Nat) (xs : List Value) (hs : a.eval s = v) (hown : ownsAt w base e size v n xs)
    (ad : Addr) (m c : Nat) (news : List Value) (hx : a.eval x = .slice (some ad) m c) (hl : news.length = m * size) (hnews : ∀ j u, news[j]? = some u → w.cell? (ad.add j) = some u) (h1 : ∀ u ∈ news, u.oneCell' = true)
    (hm : 0 < m) (h63 : n + m ≤ maxLen) (hbytes : (n + m) * bytes ≤ 140737488355328) (hbase : base ≤ w.heap.size)
    (h : ∀ g d cap w', ownsAt w' base e size (.slice (some ⟨g, d, none⟩) (n + m) cap) (n + m) (xs ++ news) → w.grownBy w' v.ownBlock → (v.ownBlock = some g ∨ g = w.heap.size) → K (a.put o.dst (.slice (some ⟨g, d, none⟩) (n + m) cap)) w') :
    if Region.wanted o (yielded ops a.tmps) = true then Oper.wp P o a w K Q else E := by
  have hw : Region.wanted o (yielded ops a.tmps) = true := by simp [Region.wanted, hgd]
  rw [if_pos hw]
  exact wp_append_at w s x t ho base e i z size bytes ht hi hz hsize hby hzs v n xs hs hown ad m c news hx hl hnews h1 hm h63 hbytes hbase h
end Go.Proofs.YtjcdnclfakmbpaaGreatDoor
namespace Go.Proofs.YtjcdnclfakmbpaaGreatDoor
open Go.RowKit
def msv : List (Nat × ByteArray) → List Value
  | [] => []
  | m :: ms => .int .u64 (m.1 : Int) :: .string m.2 :: msv ms
theorem msv_snoc (ms : List (Nat × ByteArray)) (n : Nat) (s : ByteArray) : msv (ms ++ [(n, s)]) = msv ms ++ [.int .u64 (n : Int), .string s] := by
  induction ms with
  | nil => rfl
  | cons m ms ih => simp [msv, ih]
theorem Tryz.infoMs : (Tryz.prog.info? 111).map (fun i => (i.zero, i.size, i.bytes)) = some (some (.agg #[.int .u64 0, .string ⟨#[]⟩]), 2, 24) := by kernel_rfl
structure Lw (w : World) (b : Nat) (L : Lk) (rv : Value) : Prop where
  lb : Lb w b L rv
  row : ownsAt w 0 111 2 rv L.row.length (msv L.row)
theorem ownsAt.ne {w : World} {B n k s : Nat} {t t' : TypeId} {v : Value} {xs : List Value} {D : Array Value} {fr : Nat × Nat} (h : ownsAt w B t s v n xs) (hk : w.heap[k]? = some (.cells D t' fr)) (ht : t' ≠ t) : some k ≠ v.ownBlock := by
  intro e
  rcases h.2 with ⟨h1, _⟩ | ⟨g, o, cap, cur, h1, _, hg, _⟩
  · rw [h1] at e; simp [Value.ownBlock] at e
  · rw [h1] at e; simp [Value.ownBlock] at e; subst e
    rw [hg] at hk; simp at hk; exact ht hk.2.1.symm
theorem Lw.ne {w : World} {b : Nat} {L : Lk} {rv : Value} (h : Lw w b L rv) : some b ≠ rv.ownBlock := h.row.ne h.lb (by decide)
theorem Lw.form {w : World} {b : Nat} {L : Lk} {rv : Value} (h : Lw w b L rv) : ∃ a c, rv = .slice a L.row.length c := by
  rcases h.row.2 with ⟨h1, h2⟩ | ⟨g, o, cap, cur, h1, _⟩
  · exact ⟨none, 0, by rw [h1, h2]⟩
  · exact ⟨_, _, h1⟩
structure Tw (b : Nat) (v : Option Nat) (w w' : World) : Prop where
  os : w'.os = w.os
  tape : w'.tape = w.tape
  output : w'.output = w.output
  size : w.heap.size ≤ w'.heap.size
  block : ∀ k, k < w.heap.size → k ≠ b → some k ≠ v → w'.heap[k]? = w.heap[k]?
theorem Tw.of {b : Nat} {v : Option Nat} {w w' : World} (h : C.But b w w') : Tw b v w w' := ⟨h.os, h.tape, h.output, h.size, fun k hk hb _ => h.block k hk hb⟩
theorem Onl.but {b : Nat} {w w' : World} (h : Onl b w w') : C.But b w w' := ⟨h.os, h.tape, h.output, Nat.le_of_eq h.size.symm, fun k _ hb => h.block k hb⟩
theorem Lw.but {w w' : World} {b : Nat} {L L' : Lk} {rv : Value} (h : Lw w b L rv) (hb : C.But b w w') (hl : Lb w' b L' rv) (hr : L'.row = L.row) : Lw w' b L' rv :=
  ⟨hl, by rw [hr]; exact h.row.same (fun g hg => hb.block g (h.row.lt g hg).2 (fun e => h.ne (by rw [hg, e])))⟩
theorem Lw.below {w w' : World} {b : Nat} {L : Lk} {rv : Value} (h : Lw w b L rv) (hb : Below w.heap.size w w') : Lw w' b L rv := h.but (C.but_of hb b) (h.lb.below hb) rfl
set_option maxRecDepth 100000 in
set_option maxHeartbeats 2000000 in
theorem add_any (w : World) (b : Nat) (L : Lk) (rv : Value) (h : Lw w b L rv) (hl : L.row.length ≤ 1099511627776) (n : Nat) (s : ByteArray) :
    Calls Tryz.prog 53 #[.pointer (some ⟨b, 5, none⟩), .agg #[.int .u64 (n : Int), .string s]] w fun e w' => e = .returned (.tuple #[]) ∧ ∃ rv', Lw w' b { L with row := L.row ++ [(n, s)] } rv' ∧ Tw b rv.ownBlock w w' ∧ (rv'.ownBlock = rv.ownBlock ∨ ∃ g, rv'.ownBlock = some g ∧ w.heap.size ≤ g) := by
  obtain ⟨i0, hi, hz0, hz1, hz2⟩ := info_parts Tryz.infoMs
  obtain ⟨w1, hw1⟩ : ∃ w1, w.alloc (.cells #[.int .u64 (n : Int), .string s] 111) = w1 := ⟨_, rfl⟩
  have hb1 : Below w.heap.size w w1 := by rw [← hw1]; exact (Below.refl _ _).alloc (Nat.le_refl _) _
  have hk1 : w1.heap[w.heap.size]? = some (.cells #[.int .u64 (n : Int), .string s] 111 (0, 0)) := by rw [← hw1]; exact heap_alloc_new _ _
  obtain ⟨a, c, rfl⟩ := h.form
  have h1 := h.below hb1
  obtain ⟨q, hq⟩ : ∃ q, L.row.length = q := ⟨_, rfl⟩
  obtain ⟨vs, hvs⟩ : ∃ vs, msv L.row = vs := ⟨_, rfl⟩
  have hlb := h1.lb
  have hrw := h1.row
  have hrw0 := h.row
  have hne := h1.ne
  rw [hq] at hlb hrw hl hne hrw0
  rw [hvs] at hrw hrw0
  rw [hq]
  obtain ⟨-, -, -, -, -, c5, -, -, -, -, -, -, -, -, -, cf⟩ := blk15 hlb
  have x0 : w1.cell? ⟨w.heap.size, 0, none⟩ = some (.int .u64 (n : Int)) := by simp [World.cell?, hk1]
  have x1 : w1.cell? ⟨w.heap.size, 1, none⟩ = some (.string s) := by simp [World.cell?, hk1]
  have hlt := C.lt_of_block hlb
  have hs1 : Hid (w1.heap.size = w.heap.size + 1) := by show _ = _; rw [← hw1]; simp
  have hx1 := C.lt_of_block hk1
  have n1 : ¬ b = w1.heap.size := by omega
  have n2 : ¬ w.heap.size = w1.heap.size := by omega
  have HLb := hide hlb
  have HRw := hide hrw
  have HR0 := hide hrw0
  have HNe := hide hne
  have HB1 := hide hb1
  have HQ := hide hq
  have HVs := hide hvs
  clear h h1 hlb hrw hrw0 hne hb1 hk1 hq hvs
  go_enter Tryz.func53, Tryz.ntmps53
  go_upto_region 1 with (fail)
  try rw [hw1]
  clear hw1
  go_region_law ((refine step_append_at _ (by rfl) (.tmp 8) (.tmp 10) 97 (by rfl) 0 111 i0 (.agg #[.int .u64 0, .string ⟨#[]⟩]) 2 24 Tryz.underlying97 hi hz0 hz1 hz2 rfl (.slice a q c) q vs (by rfl) (HRw.out.same (fun g hg => (Below.heap_alloc _ _ _ (HRw.out.lt g hg).2))) ⟨w1.heap.size, 0, none⟩ 1 1 [.int .u64 (n : Int), .string s] (by rfl) rfl (World.news_of_block (heap_alloc_new w1 (.cells #[.int .u64 (n : Int), .string s] 111))) (by simp [Value.oneCell']) (by omega) (by unfold maxLen; omega) (by omega) (by omega) ?_; intro g' d' cap' w4 hown4 hgrow4 hat4; have HO4 := hide hown4; have HG4 := hide hgrow4; have HA4 := hide hat4; have hdb : w4.heap[b]? = _ := (hgrow4.block b (by simp; omega) HNe.out).trans ((Below.heap_alloc _ _ _ hlt).trans HLb.out); have HJ4 := hide hdb; obtain ⟨-, -, -, -, -, z5, -, -, -, -, -, -, -, -, -, zf⟩ := blk15 hdb; have hd4 := C.lt_of_block hdb; clear hdb hown4 hgrow4 hat4))
  all_goals go_wp2
  all_goals
    go_end0
    have hsz : w1.heap.size + 1 ≤ w4.heap.size := by have := HG4.out.size; simpa using this
    have hne4 : some b ≠ (Value.slice (some ⟨g', d', none⟩) (q + 1) cap').ownBlock := HO4.out.ne HJ4.out (by decide)
    have hkb : ∀ k, k ≠ b → (w4.setCell ⟨b, 5, none⟩ (.slice (some ⟨g', d', none⟩) (q + 1) cap')).heap[k]? = w4.heap[k]? := fun k hk => Below.heap_setCell _ _ _ _ (by simpa using hk)
    refine ⟨rfl, .slice (some ⟨g', d', none⟩) (q + 1) cap', ⟨?_, ?_⟩, ?_, ?_⟩
    · have hl4 : Lb w4 b L (.slice a q c) := HJ4.out
      exact hl4.set 5 _ _ _ rfl
    · show ownsAt _ 0 _ 2 _ (L.row ++ [(n, s)]).length (msv (L.row ++ [(n, s)]))
      rw [List.length_append, HQ.out, msv_snoc, HVs.out]
      exact HO4.out.same (fun g hg => hkb g (fun e => hne4 (by rw [hg, e])))
    · have hg4 := HG4.out
      refine ⟨hg4.os.trans HB1.out.os, hg4.tape.trans HB1.out.tape, hg4.output.trans HB1.out.output, ?_, fun k hk hkb2 hkv => ?_⟩
      · show w.heap.size ≤ (w4.setCell _ _).heap.size
        simp only [World.setCell]
        simp
        omega
      · refine (hkb k hkb2).trans ((hg4.block k (by simp; omega) hkv).trans ((Below.heap_alloc _ _ _ (by omega)).trans (HB1.out.block k hk)))
    · rcases HA4.out with h | h
      · exact Or.inl h.symm
      · refine Or.inr ⟨g', rfl, ?_⟩
        rw [h]
        simp
        omega
end Go.Proofs.YtjcdnclfakmbpaaGreatDoor
