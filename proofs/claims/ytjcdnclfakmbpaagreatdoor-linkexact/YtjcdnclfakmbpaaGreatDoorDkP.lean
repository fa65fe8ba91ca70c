import Derived.Maps.AppendAt
import Derived.Test.YtjcdnclfakmbpaaGreatDoorLkD
import Derived.Laws.EntriesVeiled
import Derived.Lib.ConvBytes
import Derived.Laws.BitsAllLaws
namespace Go.Proofs.YtjcdnclfakmbpaaGreatDoor
open Go.RowKit Go.Maps
theorem Tryz.infoU8 : (Tryz.prog.info? 5).map (fun i => (i.zero, i.size, i.bytes)) = some (some (.int .u8 0), 1, 1) := by kernel_rfl
theorem vals_len (xs : List Nat) : (vals xs).length = xs.length := by simp [vals]
theorem vals_one (xs : List Nat) : ∀ u ∈ vals xs, u.oneCell' = true := fun u hu => by
  simp only [vals, List.mem_map] at hu
  obtain ⟨x, _, rfl⟩ := hu
  rfl
theorem owns_form {w : World} {B : Nat} {e : TypeId} {v : Value} {s n : Nat} {xs : List Value} (h : w.ownsRow B e s v n xs) : ∃ a c, v = .slice a n c ∧ n ≤ c ∧ c ≤ maxLen := by
  rcases h.2 with ⟨h1, h2⟩ | ⟨g, cap, cur, h1, _, _, h3, h4, _⟩
  · exact ⟨none, 0, by rw [h1, h2], by omega, by unfold maxLen; omega⟩
  · exact ⟨_, cap, h1, h3, h4⟩
def Lies (w : World) (v v' : Value) : Prop := v'.ownBlock = v.ownBlock ∨ ∃ g, v'.ownBlock = some g ∧ w.heap.size ≤ g
theorem below_drewN {B : Nat} {w w' : World} (h : Below B w w') (n : Nat) : Below B w (w'.drewN n) := ⟨h.os, h.tape, h.output, h.size, h.block⟩
theorem Bytes.drewN {w : World} {sp : Option Addr} {xs : List Nat} (h : Bytes w sp xs) (q : Nat) : Bytes (w.drewN q) sp xs := ⟨h.small, h.lie⟩
theorem bytes_cells {w : World} {g o : Nat} {xs : List Nat} (hx : Bytes w (some ⟨g, o, none⟩) xs) : ∀ j u, (vals xs)[j]? = some u → w.cell? ((⟨g, o, none⟩ : Addr).add j) = some u := by
  intro j u hj
  simp only [vals, List.getElem?_map, Option.map_eq_some_iff] at hj
  obtain ⟨x, hx', rfl⟩ := hj
  have hlt : j < xs.length := (List.getElem?_eq_some_iff.1 hx').1
  rcases hx.lie with h0 | ⟨g', o', e, hg, hc⟩
  · subst h0; simp at hlt
  · cases e
    have := hc j hlt
    simp only [List.getD, hx', Option.getD_some] at this
    unfold Addr.add
    by_cases h0 : j = 0
    · subst h0; simpa using this
    · simpa [h0] using this
theorem run_app_bytes {w : World} {v : Value} {n : Nat} {ys : List Value} (hown : w.ownsRow 0 5 1 v n ys) {sp : Option Addr} {m c : Nat} {xs : List Nat} (hm : xs.length = m) (hb : Bytes w sp xs) (h63 : n + m ≤ 140737488355328) (ty : TypeId) :
    ∃ a' c' w', (Builtin.append_ #[31, 31] ty #[v, .slice sp m c]).run Tryz.prog w = .ok (.slice a' (n + m) c') w' ∧ w'.ownsRow 0 5 1 (.slice a' (n + m) c') (n + m) (ys ++ vals xs) ∧ w.grownBy w' v.ownBlock ∧ Lies w v (.slice a' (n + m) c') := by
  obtain ⟨i0, hi, hz0, hz1, hz2⟩ := info_parts Tryz.infoU8
  have go : ∀ (g o : Nat), Bytes w (some ⟨g, o, none⟩) xs → ∃ a' c' w', (Builtin.append_ #[31, 31] ty #[v, .slice (some ⟨g, o, none⟩) m c]).run Tryz.prog w = .ok (.slice a' (n + m) c') w' ∧ w'.ownsRow 0 5 1 (.slice a' (n + m) c') (n + m) (ys ++ vals xs) ∧ w.grownBy w' v.ownBlock ∧ Lies w v (.slice a' (n + m) c') := fun g o hb => by
    obtain ⟨v', w', hr, h2, h3, _, h5⟩ := run_append_own_at (P := Tryz.prog) w 0 31 ty 5 i0 (.int .u8 0) 1 1 Tryz.underlying31 hi hz0 hz1 hz2 rfl (by omega) v n ys hown ⟨g, o, none⟩ m c (vals xs) (by rw [vals_len, hm, Nat.mul_one]) (bytes_cells hb) (vals_one xs) (by unfold maxLen; omega) (by omega) (Nat.zero_le _)
    obtain ⟨a', c', rfl, _, _⟩ := owns_form h2
    exact ⟨a', c', w', hr, h2, h3, h5.imp id (fun e => ⟨_, e, Nat.le_refl _⟩)⟩
  rcases hb.lie with h0 | ⟨g, o, rfl, hg, hc⟩
  · cases sp with
    | none =>
      subst h0
      simp at hm
      subst hm
      obtain ⟨a, c', rfl, hle, _⟩ := owns_form hown
      refine ⟨a, c', w, ?_, by simpa [vals] using hown, ⟨rfl, rfl, rfl, Nat.le_refl _, fun _ _ _ => rfl⟩, Or.inl rfl⟩
      simp [Builtin.append_, run_underlying Tryz.underlying31, sizeOf, typeInfo, hi, Builtin.lenOf, Builtin.firstCells, hle]
      cases a <;> simp [storeCells]
    | some ad =>
      obtain ⟨v', w', hr, h2, h3, _, h5⟩ := run_append_own_at (P := Tryz.prog) w 0 31 ty 5 i0 (.int .u8 0) 1 1 Tryz.underlying31 hi hz0 hz1 hz2 rfl (by omega) v n ys hown ad m c (vals xs) (by rw [vals_len, hm, Nat.mul_one]) (by rw [h0]; intro j u hj; simp [vals] at hj) (vals_one xs) (by unfold maxLen; omega) (by omega) (Nat.zero_le _)
      obtain ⟨a', c', rfl, _, _⟩ := owns_form h2
      exact ⟨a', c', w', hr, h2, h3, h5.imp id (fun e => ⟨_, e, Nat.le_refl _⟩)⟩
  · exact go g o ⟨hb.small, Or.inr ⟨g, o, rfl, hg, hc⟩⟩
theorem wpList_app_run {w : World} {ops : Array Oper} {rest : List Oper} {o : Oper} {a : Act} {Q : Exit → Act → World → Prop} (hgd : o.guard = none) (s x : Operand) (t tn : TypeId)
    (ho : o.op = .call { callee := .builtin .append, args := #[s, x], argTypes := #[t, tn] }) (v1 v2 v' : Value) (w' : World) (hs : a.eval s = v1) (hx : a.eval x = v2)
    (hr : (Builtin.append_ #[t, tn] o.type #[v1, v2]).run Tryz.prog w = .ok v' w') (h : wpList Tryz.prog ops Q rest (a.put o.dst v') w') : wpList Tryz.prog ops Q (o :: rest) a w := by
  refine wpList_plain hgd fun K hK => ?_
  unfold Oper.wp execOp
  simp only [ho, resolve, invoke, builtin, Sem.run_bind, Sem.run_pure, Result.andThen_ok, List.map_toArray, List.map_cons, List.map_nil, hs, hx, hr]
  exact hK _ _ h
set_option maxRecDepth 100000 in
set_option maxHeartbeats 400000 in
theorem copy_any (w : World) (sp : Option Addr) (m cap : Nat) (xs : List Nat) (hm : xs.length = m) (hx : Bytes w sp xs) (hlen : m ≤ 140737488355328) :
    Calls Tryz.prog 57 #[.slice sp m cap] w fun e w' => ∃ a c, e = .returned (.slice a m c) ∧ w'.ownsRow w.heap.size 5 1 (.slice a m c) m (vals xs) ∧ Below w.heap.size w w' := by
  obtain ⟨a', c', w1, hr, ho, hg, hl⟩ := run_app_bytes (w := w) (v := .slice none 0 0) (n := 0) (ys := []) ⟨rfl, Or.inl ⟨rfl, rfl⟩⟩ (c := cap) hm hx (by omega) 31
  simp only [Nat.zero_add, List.nil_append] at hr ho hl
  have HO : Hid (w1.ownsRow w.heap.size 5 1 (.slice a' m c') m (vals xs)) := by
    refine ⟨ho.1, ho.2.imp id ?_⟩
    rintro ⟨g, cap, cur, h1, _, r⟩
    refine ⟨g, cap, cur, h1, ?_, r⟩
    cases h1
    rcases hl with e | ⟨g2, e, e2⟩
    · simp [Value.ownBlock] at e
    · simp [Value.ownBlock] at e; omega
  have HB : Hid (Below w.heap.size w w1) := (Below.refl _ _).grown hg (Nat.le_refl _) (fun k e => by simp [Value.ownBlock] at e)
  clear ho hg hl hx
  go_enter Tryz.func57, Tryz.ntmps57
  go_wp2_with (at_builtin; refine wpList_app_run rfl (.tmp 4) (.tmp 5) 31 31 rfl (.slice none 0 0) (.slice sp m cap) _ _ rfl rfl hr ?_)
  go_wp2
  go_ret
  exact ⟨a', c', rfl, HO.out, HB.out⟩
theorem ext_getD {xs ys : List Nat} (h : xs.length = ys.length) (he : ∀ j, j < xs.length → xs.getD j 0 = ys.getD j 0) : xs = ys := by
  apply List.ext_getElem h
  intro j h1 h2
  have := he j h1
  simpa [List.getD, h1, h2] using this
set_option maxRecDepth 100000 in
set_option maxHeartbeats 400000 in
theorem eq_dec (w : World) (sp sq : Option Addr) (n m c1 c2 : Nat) (xs ys : List Nat) (hl : xs.length = n) (hm : ys.length = m) (hn : n ≤ 140737488355328) (hn2 : m ≤ 140737488355328) (h1 : Bytes w sp xs) (h2 : Bytes w sq ys) :
    Calls Tryz.prog 49 #[.slice sp n c1, .slice sq m c2] w fun e w' => ∃ r, e = .returned (.bool r) ∧ (r = true ↔ xs = ys) ∧ ∃ q, w' = w.drewN q := by
  by_cases hnm : n = m
  · subst hnm
    by_cases h0 : n = 0
    · subst h0
      have hx : xs = [] := List.eq_nil_of_length_eq_zero hl
      have hy : ys = [] := List.eq_nil_of_length_eq_zero hm
      go_enter Tryz.func49, Tryz.ntmps49
      go_wp2
      refine wp_loop_rounds 1 ?_
      rw [rounds_succ]
      go_wp2
      go_ret
      exact ⟨true, rfl, by simp [hx, hy], 0, rfl⟩
    · obtain ⟨g, o, rfl, hg, hc⟩ : ∃ g o, sp = some ⟨g, o, none⟩ ∧ g < w.heap.size ∧ ∀ j, j < xs.length → w.cell? ⟨g, o + j, none⟩ = some (.int .u8 (xs.getD j 0)) := by
        rcases h1.lie with h | h
        · subst h; simp at hl; omega
        · exact h
      obtain ⟨g', o', rfl, hg', hc'⟩ : ∃ g o, sq = some ⟨g, o, none⟩ ∧ g < w.heap.size ∧ ∀ j, j < ys.length → w.cell? ⟨g, o + j, none⟩ = some (.int .u8 (ys.getD j 0)) := by
        rcases h2.lie with h | h
        · subst h; simp at hm; omega
        · exact h
      rw [hl] at hc
      rw [hm] at hc'
      have HC := hide hc
      have HC' := hide hc'
      have HL : Hid (xs.length = n ∧ ys.length = n) := ⟨hl, hm⟩
      clear hc hc' h1 h2 hl hm
      go_enter Tryz.func49, Tryz.ntmps49
      go_wp2
      go_loopw [5] (fun i wr => ∃ k q : Nat, k ≤ n ∧ i = .int .i64 k ∧ Hid (wr = w.drewN q) ∧ Hid (∀ j, j < k → xs.getD j 0 = ys.getD j 0)) (fun i _ => n - (intOf i).toNat)
      case atStart => exact ⟨0, 0, Nat.zero_le _, rfl, rfl, fun j hj => by omega⟩
      case round =>
        obtain ⟨k, q, hk, rfl, HW, HA⟩ := hrel
        by_cases hlt : k < n
        · have d1 : wr.cell? ⟨g, o + k, none⟩ = some (.int .u8 (xs.getD k 0)) := by rw [HW.out]; exact HC.out k hlt
          have d2 : wr.cell? ⟨g', o' + k, none⟩ = some (.int .u8 (ys.getD k 0)) := by rw [HW.out]; exact HC'.out k hlt
          have i1 : (0 : Int) ≤ (k : Int) := by omega
          have i2 : (k : Int) < (n : Int) := by omega
          have HE : Hid (xs = ys → xs.getD k 0 = ys.getD k 0) := fun e => by rw [e]
          have HA2 : Hid (xs.getD k 0 = ys.getD k 0 → ∀ j, j < k + 1 → xs.getD j 0 = ys.getD j 0) := fun h j hj => by
            by_cases e : j = k
            · subst e; exact h
            · exact HA.out j (by omega)
          generalize xs.getD k 0 = x at *
          generalize ys.getD k 0 = y at *
          by_cases hxy : x = y
          · subst hxy
            have HA3 := hide (HA2.out rfl)
            clear HA2 HE
            go_wp2
            go_quiet (fail)
            go_wp2
            go_roundw
            case rel => exact ⟨k + 1, q + nq, by omega, by go_num, by show _ = _; rw [HW.out, World.drewN_drewN], HA3⟩
            case measure => simp [intOf]; omega
          · have hb : ((x : Int) != (y : Int)) = true := by simp; omega
            have HX := hide hxy
            clear hxy
            go_wp2
            go_quiet (fail)
            go_wp2
            go_ret
            exact ⟨false, rfl, ⟨fun e => (by cases e), fun e => absurd (HE.out e) HX.out⟩, q + nq, by rw [HW.out, World.drewN_drewN]⟩
        · obtain rfl : k = n := by omega
          have HY : Hid (xs = ys) := ext_getD (by rw [HL.out.1, HL.out.2]) (fun j hj => HA.out j (by rw [HL.out.1] at hj; exact hj))
          go_wp2
          go_ret
          exact ⟨true, rfl, ⟨fun _ => HY.out, fun _ => rfl⟩, q, HW.out⟩
  · have hb : ((n : Int) != (m : Int)) = true := by simp; omega
    have HX : Hid (xs ≠ ys) := fun e => hnm (by rw [← hl, ← hm, e])
    clear h1 h2 hl hm hnm
    go_enter Tryz.func49, Tryz.ntmps49
    go_wp2
    go_ret
    exact ⟨false, rfl, ⟨fun e => (by cases e), fun e => absurd e HX.out⟩, 0, rfl⟩
theorem eq_val (w : World) (sp sq : Option Addr) (n m c1 c2 : Nat) (xs ys : List Nat) (hl : xs.length = n) (hm : ys.length = m) (hn : n ≤ 140737488355328) (hn2 : m ≤ 140737488355328) (h1 : Bytes w sp xs) (h2 : Bytes w sq ys) :
    Calls Tryz.prog 49 #[.slice sp n c1, .slice sq m c2] w fun e w' => e = .returned (.bool (decide (xs = ys))) ∧ ∃ q, w' = w.drewN q :=
  (eq_dec w sp sq n m c1 c2 xs ys hl hm hn hn2 h1 h2).mono fun e w' ⟨r, e1, e2, e3⟩ => ⟨by rw [e1]; congr 2; cases r <;> simp_all, e3⟩
theorem decB_gen (xs : List Nat) (hn : xs.length ≤ 2112) : (okB xs → decB xs = some (frOf xs)) ∧ (¬ okB xs → decB xs = none) := by
  unfold decB
  exact ⟨fun h => if_pos ⟨hn, h⟩, fun h => if_neg (fun h' => h h'.2)⟩
def DecPost (w : World) (xs : List Nat) (e : Ending) (w' : World) : Prop :=
  (∃ f sq, decB xs = some f ∧ e = .returned (.tuple #[frV f sq f.body.length, .bool true]) ∧ C.Mine w.heap.size w' sq f.body ∧ Below w.heap.size w w') ∨
  (decB xs = none ∧ e = .returned (.tuple #[frV fr0 none 0, .bool false]) ∧ Below w.heap.size w w')
set_option maxRecDepth 100000 in
set_option maxHeartbeats 1000000 in
theorem dec_long (w : World) (sp : Option Addr) (n cap : Nat) (hn : 2112 < n) :
    Calls Tryz.prog 17 #[.slice sp n cap] w fun e w' => e = .returned (.tuple #[frV fr0 none 0, .bool false]) ∧ Below w.heap.size w w' := by
  have h12 : (2112 : Int) < (n : Int) := by omega
  go_enter Tryz.func17, Tryz.ntmps17
  go_wp2
  refine bodyPost_ret (results_row_tmp rfl _ _ w.heap.size 33 _ (0, 0) _ rfl (heap_alloc_new _ _) Tryz.underlying33 rfl (by kernel_rfl)) rfl ?_
  exact ⟨rfl, (Below.refl _ _).alloc (Nat.le_refl _) _⟩
theorem dec_any (w : World) (sp : Option Addr) (n cap : Nat) (xs : List Nat) (hl : xs.length = n) (hcap : n ≤ cap) (hc : cap ≤ 9223372036854775807) (hx : Bytes w sp xs) (hT : C.Tab w) :
    Calls Tryz.prog 17 #[.slice sp n cap] w (DecPost w xs) := by
  by_cases hn : n ≤ 2112
  · have hg := decB_gen xs (by omega)
    have e1 : q1 xs = C.rNext 0 0 xs 0 0 := by unfold q1; rfl
    have e2 : q2 xs = C.rNext 0 0 xs (q1 xs).2.1 (q1 xs).2.2 := by unfold q2; rfl
    have e3 : q3 xs = C.rNext 3 1099511627776 xs (q2 xs).2.1 (q2 xs).2.2 := by unfold q3; rfl
    have e4 : q4 xs = C.rNext 3 1099511627776 xs (q3 xs).2.1 (q3 xs).2.2 := by unfold q4; rfl
    have e5 : q5 xs = C.rNext 3 1099511627776 xs (q4 xs).2.1 (q4 xs).2.2 := by unfold q5; rfl
    have e6 : q6 xs = C.rNext 3 1099511627776 xs (q5 xs).2.1 (q5 xs).2.2 := by unfold q6; rfl
    have e7 : q7 xs = C.rText 2048 xs (q6 xs).2.1 (q6 xs).2.2 := by unfold q7; rfl
    have e8 : q8 xs = C.rNext 1 0 xs (q7 xs).2.1 (q7 xs).2.2 := by unfold q8; rfl
    have ef : frOf xs = ⟨(q1 xs).1.num, (q2 xs).1.num, (q3 xs).1.num, (q4 xs).1.num, (q5 xs).1.num, (q6 xs).1.num, C.got xs (q6 xs).2.1 (q7 xs)⟩ := by unfold frOf; rfl
    have eo : decide (okB xs) = decide ((q8 xs).1.num = C.sumOf (xs.take (q7 xs).2.1) ∧ C.pEnd xs.length (q8 xs).2.1 (q8 xs).2.2 = 0 ∧ (frOf xs).fit) := decide_eq_decide.2 (by unfold okB; exact Iff.rfl)
    refine (dec_go w sp n cap xs hl hcap hc hn hx hT (q1 xs) (q2 xs) (q3 xs) (q4 xs) (q5 xs) (q6 xs) (q7 xs) (q8 xs) e1 e2 e3 e4 e5 e6 e7 e8 (frOf xs) ef (decide (okB xs)) eo).mono ?_
    clear e1 e2 e3 e4 e5 e6 e7 e8 ef eo
    generalize frOf xs = f at *
    rintro e w' ⟨sq, he, hm, hb⟩
    by_cases ho : okB xs
    · rw [decide_eq_true ho] at he
      exact Or.inl ⟨f, sq, hg.1 ho, he, hm, hb⟩
    · rw [decide_eq_false ho] at he
      exact Or.inr ⟨hg.2 ho, he, hb⟩
  · refine (dec_long w sp n cap (by omega)).mono ?_
    rintro e w' ⟨he, hb⟩
    exact Or.inr ⟨by unfold decB; rw [if_neg (fun h => by omega)], he, hb⟩
end Go.Proofs.YtjcdnclfakmbpaaGreatDoor
namespace Go.Proofs.YtjcdnclfakmbpaaGreatDoor
open Go.RowKit
theorem Fr.ext_iff' {f g : Fr} : f = g ↔ f.fr = g.fr ∧ f.tt = g.tt ∧ f.mine = g.mine ∧ f.yours = g.yours ∧ f.seq = g.seq ∧ f.ack = g.ack ∧ f.body = g.body :=
  ⟨fun h => by subst h; exact ⟨rfl, rfl, rfl, rfl, rfl, rfl, rfl⟩, fun ⟨h1, h2, h3, h4, h5, h6, h7⟩ => Fr.ext' h1 h2 h3 h4 h5 h6 h7⟩
set_option maxRecDepth 100000 in
set_option maxHeartbeats 2000000 in
theorem eqfr_any (w : World) (f g : Fr) (sp sq : Option Addr) (c d : Nat) (hf : Bytes w sp f.body) (hg : Bytes w sq g.body) (hfl : f.body.length ≤ 140737488355328) (hgl : g.body.length ≤ 140737488355328) :
    Calls Tryz.prog 18 #[frV f sp c, frV g sq d] w fun e w' => ∃ r, e = .returned (.bool r) ∧ (r = true ↔ f = g) ∧ Below w.heap.size w w' := by
  have HI := hide (Fr.ext_iff' (f := f) (g := g))
  have HV := hide (fun w' h1 h2 => eq_val w' sp sq f.body.length g.body.length c d f.body g.body rfl rfl hfl hgl h1 h2)
  have HBf := hide hf
  have HBg := hide hg
  have HFe := hide (rfl : f.body = f.body)
  clear hf hg
  unfold frV
  obtain ⟨f0, f1, f2, f3, f4, f5, fb⟩ := f
  obtain ⟨g0, g1, g2, g3, g4, g5, gb⟩ := g
  simp only at *
  generalize fb.length = n at *
  generalize gb.length = m at *
  have hB : Below w.heap.size w ((w.alloc (.cells #[.int .i64 f0, .int .i64 f1, .int .u64 (f2 : Int), .int .u64 (f3 : Int), .int .u64 (f4 : Int), .int .u64 (f5 : Int), .slice sp n c] 33)).alloc (.cells #[.int .i64 g0, .int .i64 g1, .int .u64 (g2 : Int), .int .u64 (g3 : Int), .int .u64 (g4 : Int), .int .u64 (g5 : Int), .slice sq m d] 33)) := ((Below.refl _ _).alloc (Nat.le_refl _) _).alloc (by simp) _
  have hk2 := heap_alloc2_new w (.cells #[.int .i64 f0, .int .i64 f1, .int .u64 (f2 : Int), .int .u64 (f3 : Int), .int .u64 (f4 : Int), .int .u64 (f5 : Int), .slice sp n c] 33) (.cells #[.int .i64 g0, .int .i64 g1, .int .u64 (g2 : Int), .int .u64 (g3 : Int), .int .u64 (g4 : Int), .int .u64 (g5 : Int), .slice sq m d] 33)
  have hk1 : ((w.alloc (.cells #[.int .i64 f0, .int .i64 f1, .int .u64 (f2 : Int), .int .u64 (f3 : Int), .int .u64 (f4 : Int), .int .u64 (f5 : Int), .slice sp n c] 33)).alloc (.cells #[.int .i64 g0, .int .i64 g1, .int .u64 (g2 : Int), .int .u64 (g3 : Int), .int .u64 (g4 : Int), .int .u64 (g5 : Int), .slice sq m d] 33)).heap[w.heap.size]? = some (.cells #[.int .i64 f0, .int .i64 f1, .int .u64 (f2 : Int), .int .u64 (f3 : Int), .int .u64 (f4 : Int), .int .u64 (f5 : Int), .slice sp n c] 33 (0, 0)) := by
    rw [Below.heap_alloc _ _ _ (by simp)]; exact heap_alloc_new _ _
  obtain ⟨w2, hw2⟩ : ∃ w2, (w.alloc (.cells #[.int .i64 f0, .int .i64 f1, .int .u64 (f2 : Int), .int .u64 (f3 : Int), .int .u64 (f4 : Int), .int .u64 (f5 : Int), .slice sp n c] 33)).alloc (.cells #[.int .i64 g0, .int .i64 g1, .int .u64 (g2 : Int), .int .u64 (g3 : Int), .int .u64 (g4 : Int), .int .u64 (g5 : Int), .slice sq m d] 33) = w2 := ⟨_, rfl⟩
  rw [hw2] at hB hk1 hk2
  obtain ⟨c0, c1, c2, c3, c4, c5, c6, -⟩ := blk7 hk1
  obtain ⟨d0, d1, d2, d3, d4, d5, d6, -⟩ := blk7 hk2
  have HB := hide hB
  have HW := hide hw2
  clear hB hk1 hk2 hw2
  by_cases h0 : ¬ (f0 = g0)
  · have e0 : (f0 == g0) = false := by simp; omega
    go_enter Tryz.func18, Tryz.ntmps18
    go_upto_region 1 with (fail)
    rw [HW.out]
    go_wp2
    go_ret
    exact ⟨false, rfl, ⟨fun h => (by cases h), fun h => absurd (HI.out.1 h).1 h0⟩, HB.out⟩
  replace h0 := Decidable.not_not.1 h0
  have e0 : (f0 == g0) = true := by simp; omega
  have H0 := hide h0
  clear h0
  by_cases h1 : ¬ (f1 = g1)
  · have e1 : (f1 == g1) = false := by simp; omega
    go_enter Tryz.func18, Tryz.ntmps18
    go_upto_region 1 with (fail)
    rw [HW.out]
    go_wp2
    go_ret
    exact ⟨false, rfl, ⟨fun h => (by cases h), fun h => absurd (HI.out.1 h).2.1 h1⟩, HB.out⟩
  replace h1 := Decidable.not_not.1 h1
  have e1 : (f1 == g1) = true := by simp; omega
  have H1 := hide h1
  clear h1
  by_cases h2 : ¬ (f2 = g2)
  · have e2 : ((f2 : Int) == (g2 : Int)) = false := by simp; omega
    go_enter Tryz.func18, Tryz.ntmps18
    go_upto_region 1 with (fail)
    rw [HW.out]
    go_wp2
    go_ret
    exact ⟨false, rfl, ⟨fun h => (by cases h), fun h => absurd (HI.out.1 h).2.2.1 h2⟩, HB.out⟩
  replace h2 := Decidable.not_not.1 h2
  have e2 : ((f2 : Int) == (g2 : Int)) = true := by simp; omega
  have H2 := hide h2
  clear h2
  by_cases h3 : ¬ (f3 = g3)
  · have e3 : ((f3 : Int) == (g3 : Int)) = false := by simp; omega
    go_enter Tryz.func18, Tryz.ntmps18
    go_upto_region 1 with (fail)
    rw [HW.out]
    go_wp2
    go_ret
    exact ⟨false, rfl, ⟨fun h => (by cases h), fun h => absurd (HI.out.1 h).2.2.2.1 h3⟩, HB.out⟩
  replace h3 := Decidable.not_not.1 h3
  have e3 : ((f3 : Int) == (g3 : Int)) = true := by simp; omega
  have H3 := hide h3
  clear h3
  by_cases h4 : ¬ (f4 = g4)
  · have e4 : ((f4 : Int) == (g4 : Int)) = false := by simp; omega
    go_enter Tryz.func18, Tryz.ntmps18
    go_upto_region 1 with (fail)
    rw [HW.out]
    go_wp2
    go_ret
    exact ⟨false, rfl, ⟨fun h => (by cases h), fun h => absurd (HI.out.1 h).2.2.2.2.1 h4⟩, HB.out⟩
  replace h4 := Decidable.not_not.1 h4
  have e4 : ((f4 : Int) == (g4 : Int)) = true := by simp; omega
  have H4 := hide h4
  clear h4
  by_cases h5 : ¬ (f5 = g5)
  · have e5 : ((f5 : Int) == (g5 : Int)) = false := by simp; omega
    go_enter Tryz.func18, Tryz.ntmps18
    go_upto_region 1 with (fail)
    rw [HW.out]
    go_wp2
    go_ret
    exact ⟨false, rfl, ⟨fun h => (by cases h), fun h => absurd (HI.out.1 h).2.2.2.2.2.1 h5⟩, HB.out⟩
  replace h5 := Decidable.not_not.1 h5
  have e5 : ((f5 : Int) == (g5 : Int)) = true := by simp; omega
  have H5 := hide h5
  clear h5
  have HQ := hide (HV.out w2 (HBf.out.below HB.out) (HBg.out.below HB.out))
  go_enter Tryz.func18, Tryz.ntmps18
  go_upto_region 1 with (fail)
  rw [HW.out]
  go_wp2_with fail
  refine HQ.out.mono ?_
  rintro e w3 ⟨rfl, q, rfl⟩
  go_wp2
  go_ret
  refine ⟨decide (fb = gb), rfl, ?_, below_drewN HB.out q⟩
  rw [decide_eq_true_iff, HI.out]
  exact ⟨fun h => ⟨H0.out, H1.out, H2.out, H3.out, H4.out, H5.out, h⟩, fun h => h.2.2.2.2.2.2⟩
theorem tmod_into (n m : Int) (hm : 0 < m) : n % m = if n.tmod m < 0 then n.tmod m + m else n.tmod m := by
  have h1 := Int.tmod_lt_of_pos n hm
  have h2 : -m < n.tmod m := Int.lt_tmod_of_pos n hm
  have e : n % m = n.tmod m % m := by rw [Int.tmod_def, Int.sub_mul_emod_self_left]
  split
  · rw [e, ← Int.add_emod_right, Int.emod_eq_of_lt (by omega) (by omega)]
  · rw [e, Int.emod_eq_of_lt (by omega) (by omega)]
set_option maxRecDepth 100000 in
set_option maxHeartbeats 400000 in
theorem within_any (w : World) (n : Int) (m : Nat) (hm : 0 < m) (hb : m ≤ 1125899906842624) :
    Calls Tryz.prog 10 #[.int .i64 n, .int .i64 (m : Int)] w fun r w' => r = .returned (.int .i64 ((n % (m : Int)).toNat : Int)) ∧ w' = w := by
  have m0 : (0 : Int) < (m : Int) := by omega
  have h1 := Int.tmod_lt_of_pos n m0
  have h2 : -(m : Int) < n.tmod (m : Int) := Int.lt_tmod_of_pos n m0
  have h3 := tmod_into n (m : Int) m0
  have h4 := Int.emod_nonneg n (show (m : Int) ≠ 0 by omega)
  have h6 : (((n % (m : Int)).toNat : Nat) : Int) = n % (m : Int) := by omega
  have m1 : ((m : Int) == 0) = false := by simp; omega
  have m2 : (m : Int) ≠ 0 := by omega
  rw [h6]
  by_cases hlt : n.tmod (m : Int) < 0
  · rw [if_pos hlt] at h3
    generalize n % (m : Int) = r at *
    have H3 := hide h3
    clear h3 h6 h4
    go_enter Tryz.func10, Tryz.ntmps10
    go_wp2
    go_ret
    exact ⟨by rw [H3.out]; rfl, rfl⟩
  · rw [if_neg hlt] at h3
    generalize n % (m : Int) = r at *
    have H3 := hide h3
    clear h3 h6 h4
    go_enter Tryz.func10, Tryz.ntmps10
    go_wp2
    go_ret
    exact ⟨by rw [H3.out]; rfl, rfl⟩
end Go.Proofs.YtjcdnclfakmbpaaGreatDoor
namespace Go.Proofs.YtjcdnclfakmbpaaGreatDoor
open Go.RowKit
structure Lk where
  me : Int
  other : Int
  life : Nat
  window : Int
  known : Nat
  row : List (Nat × ByteArray)
  numbered : Nat
  gone : Nat
  handed : Nat
  ack : Bool
  left : Nat
  gap : Nat
  lim : Option Nat
  asked : Bool
  paced : Bool
def bhV : Option Nat → Value
  | none => Value.nilFunc
  | some m => .func (.func 89) #[.int .i64 (m : Int)] #[]
def lkC (L : Lk) (rv : Value) : Array Value := #[.int .i64 L.me, .int .i64 L.other, .int .u64 (L.life : Int), .int .i64 L.window, .int .u64 (L.known : Int), rv, .int .u64 (L.numbered : Int), .int .u64 (L.gone : Int), .int .u64 (L.handed : Int), .bool L.ack, .int .i64 (L.left : Int), .int .i64 (L.gap : Int), bhV L.lim, .bool L.asked, .bool L.paced]
def Lb (w : World) (b : Nat) (L : Lk) (rv : Value) : Prop := w.heap[b]? = some (.cells (lkC L rv) 106 (0, 0))
theorem blk15 {w : World} {b : Nat} {x0 x1 x2 x3 x4 x5 x6 x7 x8 x9 x10 x11 x12 x13 x14 : Value} {t : TypeId} (h : w.heap[b]? = some (.cells #[x0, x1, x2, x3, x4, x5, x6, x7, x8, x9, x10, x11, x12, x13, x14] t (0, 0))) :
    w.cell? ⟨b, 0, none⟩ = some x0 ∧ w.cell? ⟨b, 1, none⟩ = some x1 ∧ w.cell? ⟨b, 2, none⟩ = some x2 ∧ w.cell? ⟨b, 3, none⟩ = some x3 ∧ w.cell? ⟨b, 4, none⟩ = some x4 ∧ w.cell? ⟨b, 5, none⟩ = some x5 ∧ w.cell? ⟨b, 6, none⟩ = some x6 ∧ w.cell? ⟨b, 7, none⟩ = some x7 ∧ w.cell? ⟨b, 8, none⟩ = some x8 ∧ w.cell? ⟨b, 9, none⟩ = some x9 ∧ w.cell? ⟨b, 10, none⟩ = some x10 ∧ w.cell? ⟨b, 11, none⟩ = some x11 ∧ w.cell? ⟨b, 12, none⟩ = some x12 ∧ w.cell? ⟨b, 13, none⟩ = some x13 ∧ w.cell? ⟨b, 14, none⟩ = some x14 ∧ (∀ o, w.frozen? ⟨b, o, none⟩ = false) := by
  simp only [World.cell?, World.frozen?, h]
  exact ⟨rfl, rfl, rfl, rfl, rfl, rfl, rfl, rfl, rfl, rfl, rfl, rfl, rfl, rfl, rfl, fun o => by simp⟩
theorem Lb.kept {w w' : World} {b : Nat} {L : Lk} {rv : Value} (h : Lb w b L rv) (hb : w'.heap[b]? = w.heap[b]?) : Lb w' b L rv := Eq.trans hb h
theorem Lb.below {w w' : World} {b : Nat} {L : Lk} {rv : Value} (h : Lb w b L rv) (hb : Below w.heap.size w w') : Lb w' b L rv := h.kept (hb.block b (C.lt_of_block h))
theorem Lb.set {w : World} {b : Nat} {L : Lk} {rv : Value} (h : Lb w b L rv) (i : Nat) (v : Value) (L' : Lk) (rv' : Value) (he : (lkC L rv).setIfInBounds i v = lkC L' rv') : Lb (w.setCell ⟨b, i, none⟩ v) b L' rv' := by
  unfold Lb at h ⊢
  rw [C.block_set h v, he]
structure Onl (b : Nat) (w w' : World) : Prop where
  os : w'.os = w.os
  tape : w'.tape = w.tape
  output : w'.output = w.output
  size : w'.heap.size = w.heap.size
  block : ∀ c, c ≠ b → w'.heap[c]? = w.heap[c]?
theorem Onl.refl (b : Nat) (w : World) : Onl b w w := ⟨rfl, rfl, rfl, rfl, fun _ _ => rfl⟩
theorem Onl.trans {b : Nat} {w w1 w2 : World} (h : Onl b w w1) (k : Onl b w1 w2) : Onl b w w2 :=
  ⟨k.os.trans h.os, k.tape.trans h.tape, k.output.trans h.output, k.size.trans h.size, fun c hc => (k.block c hc).trans (h.block c hc)⟩
theorem Onl.set {b : Nat} {w w1 : World} (h : Onl b w w1) (i : Nat) (v : Value) : Onl b w (w1.setCell ⟨b, i, none⟩ v) :=
  ⟨h.os, h.tape, h.output, by simpa [World.setCell] using h.size, fun c hc => by rw [Below.heap_setCell _ _ _ _ (by simpa using hc)]; exact h.block c hc⟩
theorem Onl.drew {b : Nat} {w w1 : World} (h : Onl b w w1) : Onl b w w1.drew := ⟨h.os, h.tape, h.output, h.size, h.block⟩
theorem Onl.below {b B : Nat} {W w w' : World} (h : Onl b w w') (hb : Below B W w) (hl : B ≤ b) : Below B W w' :=
  ⟨h.os.trans hb.os, h.tape.trans hb.tape, h.output.trans hb.output, by rw [h.size]; exact hb.size, fun c hc => (h.block c (by omega)).trans (hb.block c hc)⟩
def ltick (L : Lk) : Lk := if 1 < L.left then { L with left := L.left - 1 } else { L with left := L.gap, gap := match L.lim with | none => L.gap | some m => min (2 * L.gap) m }
def lnow (L : Lk) : Bool := decide (L.left ≤ 1)
def lreset (L : Lk) : Lk := { L with left := 0, gap := 1 }
set_option maxRecDepth 100000 in
theorem fn_neq (m : Int) (w : World) : Sem.run Tryz.prog (binOp BinOp.neq 102 (.func (.func 89) #[.int .i64 m] #[]) Value.nilFunc) w = .ok (.bool true) w := by first | kernel_rfl | rfl | (simp [binOp, go_sem])
set_option maxRecDepth 100000 in
theorem fn_neq0 (w : World) : Sem.run Tryz.prog (binOp BinOp.neq 102 Value.nilFunc Value.nilFunc) w = .ok (.bool false) w := by first | kernel_rfl | rfl | (simp [binOp, go_sem])
structure Lk.Pok (L : Lk) : Prop where
  l : L.left ≤ 64
  g : L.gap ≤ 64
  m : ∀ m, L.lim = some m → m ≤ 64
set_option maxRecDepth 100000 in
theorem behind_any (w : World) (m g : Nat) (_hm : m ≤ 64) (hg : g ≤ 64) :
    Calls Tryz.prog 89 #[.int .i64 (m : Int), .int .i64 (g : Int)] w fun e w' => e = .returned (.int .i64 ((min (2 * g) m : Nat) : Int)) ∧ w' = w := by
  have hm : ((min (2 * g) m : Nat) : Int) = min (2 * (g : Int)) (m : Int) := by omega
  rw [hm]
  generalize hK : min (2 * (g : Int)) (m : Int) = K
  go_enter Tryz.func89, Tryz.ntmps89
  go_wp2
  go_ret
  exact ⟨rfl, rfl⟩
set_option maxRecDepth 100000 in
set_option maxHeartbeats 1000000 in
theorem preset_any (w : World) (b : Nat) (L : Lk) (rv : Value) (h : Lb w b L rv) :
    Calls Tryz.prog 52 #[.pointer (some ⟨b, 10, none⟩)] w fun e w' => e = .returned (.tuple #[]) ∧ Lb w' b (lreset L) rv ∧ Onl b w w' := by
  obtain ⟨-, -, -, -, -, -, -, -, -, -, c10, c11, -, -, -, cf⟩ := blk15 h
  have H := hide h
  clear h
  go_enter Tryz.func52, Tryz.ntmps52
  go_wp2
  go_end0
  exact ⟨rfl, (H.out.set 10 (.int .i64 0) { L with left := 0 } rv rfl).set 11 (.int .i64 1) (lreset L) rv rfl, ((Onl.refl b w).set 10 _).set 11 _⟩
set_option maxRecDepth 100000 in
set_option maxHeartbeats 1000000 in
theorem ptick_any (w : World) (b : Nat) (L : Lk) (rv : Value) (h : Lb w b L rv) (ho : L.Pok) :
    Calls Tryz.prog 36 #[.pointer (some ⟨b, 10, none⟩)] w fun e w' => e = .returned (.bool (lnow L)) ∧ Lb w' b (ltick L) rv ∧ Onl b w w' := by
  obtain ⟨-, -, -, -, -, -, -, -, -, -, c10, c11, c12, -, -, cf⟩ := blk15 h
  have H := hide h
  have hl6 := ho.l
  have hg6 := ho.g
  have hm6 := ho.m
  clear h ho
  by_cases hl : 1 < L.left
  · have E1 : Hid (lnow L = false) := by show _ = _; unfold lnow; exact decide_eq_false (by omega)
    have E2 : Hid (ltick L = { L with left := L.left - 1 }) := by show _ = _; unfold ltick; rw [if_pos hl]
    have E3 : Hid ((L.left : Int) - 1 = ((L.left - 1 : Nat) : Int)) := by show _ = _; omega
    obtain ⟨l, hll⟩ : ∃ l, L.left = l := ⟨_, rfl⟩
    rw [hll] at c10 hl hl6
    have hl1 : (1 : Int) < (l : Int) := by omega
    have HL := hide hll
    clear hll hm6
    go_enter Tryz.func36, Tryz.ntmps36
    go_wp2
    go_ret
    refine ⟨by rw [E1.out]; rfl, ?_, (Onl.refl b w).set 10 _⟩
    rw [E2.out]
    exact H.out.set 10 _ _ rv (by rw [← HL.out, E3.out]; rfl)
  · have E1 : Hid (lnow L = true) := by show _ = _; unfold lnow; exact decide_eq_true (by omega)
    have E2 : Hid (ltick L = { L with left := L.gap, gap := match L.lim with | none => L.gap | some m => min (2 * L.gap) m }) := by show _ = _; unfold ltick; rw [if_neg hl]
    have hl1 : ¬ (1 : Int) < (L.left : Int) := by omega
    cases hlm : L.lim with
    | none =>
      rw [hlm] at c12 E2
      have hn := fn_neq0
      unfold bhV at c12
      have HM := hide hlm
      clear hlm hm6
      go_enter Tryz.func36, Tryz.ntmps36
      go_wp2
      go_ret
      refine ⟨by rw [E1.out]; rfl, ?_, (Onl.refl b w).set 10 _⟩
      rw [E2.out]
      exact H.out.set 10 _ _ rv (by unfold lkC; rw [HM.out]; rfl)
    | some m =>
      rw [hlm] at c12 E2
      have hm64 := hm6 m hlm
      have hn := fn_neq
      unfold bhV at c12
      have HBh := hide (fun w => behind_any w m L.gap hm64 hg6)
      have HM := hide hlm
      clear hlm hm6
      simp only at E2
      generalize hN : min (2 * L.gap) m = N at *
      have HN := hide hN
      clear hN
      go_enter Tryz.func36, Tryz.ntmps36
      go_wp2_with fail
      go_region_with (go_at_call 89; refine (HBh.out _).mono ?_; rintro e w2 ⟨rfl, rfl⟩)
      all_goals (go_wp2; go_ret; exact ⟨by rw [E1.out]; rfl, by rw [E2.out]; exact (H.out.set 10 _ { L with left := L.gap } rv rfl).set 11 _ _ rv (by unfold lkC; rw [HM.out]; rfl), (((Onl.refl b w).set 10 _).set 11 _).drew⟩)
end Go.Proofs.YtjcdnclfakmbpaaGreatDoor
namespace Go.Proofs.YtjcdnclfakmbpaaGreatDoor
open Go.RowKit
theorem pblk3 {w : World} {b : Nat} {x0 x1 x2 : Value} {t : TypeId} (h : w.heap[b]? = some (.cells #[x0, x1, x2] t (0, 0))) :
    w.cell? ⟨b, 0, none⟩ = some x0 ∧ w.cell? ⟨b, 1, none⟩ = some x1 ∧ w.cell? ⟨b, 2, none⟩ = some x2 ∧ (∀ o, w.frozen? ⟨b, o, none⟩ = false) :=
  ⟨by simp [World.cell?, h], by simp [World.cell?, h], by simp [World.cell?, h], fun o => by simp [World.frozen?, h]⟩
set_option maxRecDepth 100000 in
set_option maxHeartbeats 1000000 in
theorem preset0 (w : World) (b : Nat) (x0 x1 x2 : Value) (h : w.heap[b]? = some (.cells #[x0, x1, x2] 104 (0, 0))) :
    Calls Tryz.prog 52 #[.pointer (some ⟨b, 0, none⟩)] w fun e w' => e = .returned (.tuple #[]) ∧ w'.heap[b]? = some (.cells #[.int .i64 0, .int .i64 1, x2] 104 (0, 0)) ∧ Onl b w w' := by
  obtain ⟨c0, c1, -, cf⟩ := pblk3 h
  have H := hide h
  clear h
  go_enter Tryz.func52, Tryz.ntmps52
  go_wp2
  go_end0
  exact ⟨rfl, C.block_set (C.block_set H.out (i := 0) (.int .i64 0)) (i := 1) (.int .i64 1), ((Onl.refl b w).set 0 _).set 1 _⟩
def PnPost (w : World) (z : Int) (e : Ending) (w' : World) : Prop :=
    (∃ m : Nat, z = (m : Int) ∧ 1 ≤ m ∧ m ≤ 64 ∧ e = .returned (.tuple #[.pointer (some ⟨w.heap.size, 0, none⟩), .int .i64 0]) ∧ w'.heap[w.heap.size]? = some (.cells #[.int .i64 0, .int .i64 1, bhV (some m)] 104 (0, 0)) ∧ Below w.heap.size w w' ∧ w'.heap.size = w.heap.size + 1) ∨ (¬ (1 ≤ z ∧ z ≤ 64) ∧ e = .returned (.tuple #[.pointer none, .int .i64 70]) ∧ w' = w)
set_option maxRecDepth 100000 in
set_option maxHeartbeats 1000000 in
theorem pnew_any (w : World) (z : Int) : Calls Tryz.prog 34 #[.int .i64 z] w (PnPost w z) := by
  by_cases h1 : z < 1
  · have HN : Hid (¬ (1 ≤ z ∧ z ≤ 64)) := by show ¬ _; omega
    go_enter Tryz.func34, Tryz.ntmps34
    go_wp2
    go_ret2
    exact Or.inr ⟨HN.out, rfl, rfl⟩
  · by_cases h2 : 64 < z
    · have HN : Hid (¬ (1 ≤ z ∧ z ≤ 64)) := by show ¬ _; omega
      go_enter Tryz.func34, Tryz.ntmps34
      go_wp2
      go_ret2
      exact Or.inr ⟨HN.out, rfl, rfl⟩
    · obtain ⟨m, rfl⟩ := Int.eq_ofNat_of_zero_le (show 0 ≤ z by omega)
      have HM : Hid (1 ≤ m ∧ m ≤ 64) := by show _ ∧ _; omega
      obtain ⟨w1, hw1⟩ : ∃ w1, w.alloc (.cells #[.int .i64 0, .int .i64 0, bhV (some m)] 104) = w1 := ⟨_, rfl⟩
      have hk : w1.heap[w.heap.size]? = some (.cells #[.int .i64 0, .int .i64 0, bhV (some m)] 104 (0, 0)) := by rw [← hw1]; exact heap_alloc_new _ _
      have HB : Hid (Below w.heap.size w w1) := by show Below _ _ _; rw [← hw1]; exact (Below.refl _ _).alloc (Nat.le_refl _) _
      have HZ : Hid (w1.heap.size = w.heap.size + 1) := by show _ = _; rw [← hw1]; simp
      have HR := hide (preset0 w1 w.heap.size _ _ _ hk)
      have HW := hide hw1
      clear hk hw1
      unfold bhV at HW
      go_enter Tryz.func34, Tryz.ntmps34
      go_upto_region 4 with (fail)
      rw [HW.out]
      go_wp2_with fail
      refine HR.out.mono ?_
      rintro e w2 ⟨rfl, hk2, ho2⟩
      have HK := hide hk2
      have HO := hide ho2
      clear hk2 ho2
      go_wp2
      go_ret2
      exact Or.inl ⟨m, rfl, HM.out.1, HM.out.2, rfl, HK.out, HO.out.below HB.out (Nat.le_refl _), by rw [HO.out.size]; exact HZ.out⟩
def Lk.new (me other : Int) (life : Nat) (window most : Int) : Lk :=
  { me := me, other := other, life := life, window := max window 0, known := 0, row := [], numbered := 0, gone := 0, handed := 0, ack := false, left := 0, gap := if 1 ≤ most ∧ most ≤ 64 then 1 else 0, lim := if 1 ≤ most ∧ most ≤ 64 then some most.toNat else none, asked := false, paced := true }
set_option maxRecDepth 100000 in
set_option maxHeartbeats 2000000 in
theorem new_any (w : World) (me other : Int) (life : Nat) (window most : Int) :
    Calls Tryz.prog 13 #[.int .i64 me, .int .i64 other, .int .u64 (life : Int), .int .i64 window, .int .i64 most] w fun e w' => e = .returned (.pointer (some ⟨w.heap.size, 0, none⟩)) ∧ Lb w' w.heap.size (Lk.new me other life window most) (.slice none 0 0) ∧ Below w.heap.size w w' := by
  have HL : Hid (∀ m : Nat, most = (m : Int) → 1 ≤ m → m ≤ 64 → lkC (Lk.new me other life window most) (.slice none 0 0) = #[.int .i64 me, .int .i64 other, .int .u64 (life : Int), .int .i64 (max window 0), .int .u64 0, .slice none 0 0, .int .u64 0, .int .u64 0, .int .u64 0, .bool false, .int .i64 0, .int .i64 1, bhV (some m), .bool false, .bool true]) := by
    intro m e h1 h2
    subst e
    unfold Lk.new lkC
    rw [if_pos (by omega), if_pos (by omega)]
    simp
  have HL0 : Hid (¬ (1 ≤ most ∧ most ≤ 64) → lkC (Lk.new me other life window most) (.slice none 0 0) = #[.int .i64 me, .int .i64 other, .int .u64 (life : Int), .int .i64 (max window 0), .int .u64 0, .slice none 0 0, .int .u64 0, .int .u64 0, .int .u64 0, .bool false, .int .i64 0, .int .i64 0, Value.nilFunc, .bool false, .bool true]) := by
    intro h
    unfold Lk.new lkC
    rw [if_neg h, if_neg h]
    simp [bhV]
  unfold Lb
  generalize lkC (Lk.new me other life window most) (.slice none 0 0) = CS at *
  generalize hwin : max window 0 = win at *
  have hwin2 : max 0 window = win := by omega
  obtain ⟨w1, hw1⟩ : ∃ w1, w.alloc (.cells #[.int .i64 me, .int .i64 other, .int .u64 (life : Int), .int .i64 win, .int .u64 0, .slice none 0 0, .int .u64 0, .int .u64 0, .int .u64 0, .bool false, .int .i64 0, .int .i64 0, Value.nilFunc, .bool false, .bool true] 106) = w1 := ⟨_, rfl⟩
  have hk : w1.heap[w.heap.size]? = some (.cells #[.int .i64 me, .int .i64 other, .int .u64 (life : Int), .int .i64 win, .int .u64 0, .slice none 0 0, .int .u64 0, .int .u64 0, .int .u64 0, .bool false, .int .i64 0, .int .i64 0, Value.nilFunc, .bool false, .bool true] 106 (0, 0)) := by rw [← hw1]; exact heap_alloc_new _ _
  have HB : Hid (Below w.heap.size w w1) := by show Below _ _ _; rw [← hw1]; exact (Below.refl _ _).alloc (Nat.le_refl _) _
  have HZ : Hid (w1.heap.size = w.heap.size + 1) := by show _ = _; rw [← hw1]; simp
  have HP := hide (pnew_any w1 most)
  have HK := hide hk
  have HW := hide hw1
  clear hk hw1
  go_enter Tryz.func13, Tryz.ntmps13
  go_upto_region 2 with (fail)
  rw [HW.out]
  go_wp2_with fail
  refine HP.out.mono ?_
  rintro e w2 (⟨m, hm, m1, m2, rfl, hk2, hb2, hs2⟩ | ⟨hno, rfl, rfl⟩)
  · have HK2 := hide ((hb2.block _ (by rw [HZ.out]; exact Nat.lt_succ_self _)).trans HK.out)
    have HLm := hide (HL.out m hm m1 m2)
    obtain ⟨c0, c1, c2, c3, c4, c5, c6, c7, c8, c9, c10, c11, c12, c13, c14, cf⟩ := blk15 HK2.out
    obtain ⟨p0, p1, p2, -⟩ := pblk3 hk2
    have HB2 := hide (HB.out.trans (hb2.mono HB.out.size))
    clear hk2 hb2 hs2 hm
    unfold bhV at p2
    go_wp2
    go_ret
    refine ⟨rfl, ?_, ((HB2.out.setCell (Nat.le_refl _) _).setCell (Nat.le_refl _) _).setCell (Nat.le_refl _) _⟩
    rw [HLm.out]
    exact C.block_set (C.block_set (C.block_set HK2.out (i := 10) (.int .i64 0)) (i := 11) (.int .i64 1)) (i := 12) (bhV (some m))
  · have HLn := hide (HL0.out hno)
    go_wp2
    go_ret
    exact ⟨rfl, by rw [HLn.out]; exact HK.out, HB.out⟩
set_option maxRecDepth 100000 in
theorem known_any (w : World) (b : Nat) (L : Lk) (rv : Value) (h : Lb w b L rv) :
    Calls Tryz.prog 14 #[.pointer (some ⟨b, 0, none⟩)] w fun e w' => e = .returned (.bool (decide (0 < L.known))) ∧ w' = w := by
  obtain ⟨-, -, -, -, c4, -⟩ := blk15 h
  clear h
  have HD : Hid (decide (0 < L.known) = decide ((0 : Int) < (L.known : Int))) := decide_eq_decide.2 (by omega)
  rw [HD.out]
  go_enter Tryz.func14, Tryz.ntmps14
  go_wp2
  go_ret
  exact ⟨by simp, rfl⟩
set_option maxRecDepth 100000 in
theorem rlen_any (w : World) (b : Nat) (L : Lk) (a : Option Addr) (n c : Nat) (h : Lb w b L (.slice a n c)) :
    Calls Tryz.prog 35 #[.pointer (some ⟨b, 5, none⟩)] w fun e w' => e = .returned (.int .i64 (n : Int)) ∧ w' = w := by
  obtain ⟨-, -, -, -, -, c5, -⟩ := blk15 h
  clear h
  go_enter Tryz.func35, Tryz.ntmps35
  go_wp2
  go_ret
  exact ⟨rfl, rfl⟩
set_option maxRecDepth 100000 in
theorem len_any (w : World) (b : Nat) (L : Lk) (a : Option Addr) (n c : Nat) (h : Lb w b L (.slice a n c)) :
    Calls Tryz.prog 15 #[.pointer (some ⟨b, 0, none⟩)] w fun e w' => e = .returned (.int .i64 (n : Int)) ∧ w' = w := by
  have HR := hide (rlen_any w b L a n c h)
  clear h
  go_enter Tryz.func15, Tryz.ntmps15
  go_wp2_with fail
  refine HR.out.mono ?_
  rintro e w1 ⟨rfl, rfl⟩
  go_wp2
  go_ret
  exact ⟨rfl, rfl⟩
end Go.Proofs.YtjcdnclfakmbpaaGreatDoor
namespace Go.Proofs.YtjcdnclfakmbpaaGreatDoor
open Go.RowKit
def nums (s : ByteArray) : List Nat := s.data.toList.map (·.toNat)
theorem nums_len (s : ByteArray) : (nums s).length = s.size := by simp [nums]
theorem nums_small (s : ByteArray) : ∀ x ∈ nums s, x < 256 := by
  intro x hx
  simp only [nums, List.mem_map] at hx
  obtain ⟨y, _, rfl⟩ := hx
  exact y.toNat_lt
structure Told (w : World) (g c : Nat) (s : ByteArray) : Prop where
  blk : ∃ xs : List Nat, w.heap[g]? = some (.cells (vals xs).toArray 5 (c, c + 1)) ∧ xs.length = c ∧ xs.take s.size = nums s ∧ ∀ x ∈ xs, x < 256
  le : s.size ≤ c
  max : s.size ≤ maxLen → c ≤ maxLen
theorem Told.bytes {w : World} {g c : Nat} {s : ByteArray} (h : Told w g c s) : Bytes w (some ⟨g, 0, none⟩) (nums s) := by
  obtain ⟨⟨xs, h1, h2, h3, _⟩, h4, _⟩ := h
  refine ⟨nums_small s, Or.inr ⟨g, 0, rfl, C.lt_of_block h1, fun j hj => ?_⟩⟩
  rw [nums_len] at hj
  have hx : xs[j]? = (nums s)[j]? := by rw [← h3, List.getElem?_take, if_pos hj]
  simp only [World.cell?, h1, Nat.zero_add, vals]
  simp only [List.getElem?_toArray, List.getElem?_map, hx, List.getD]
  rw [List.getElem?_eq_getElem (by rw [nums_len]; exact hj)]
  rfl
theorem told_new (w : World) (s : ByteArray) : Told (Lib.bytesWorld w 5 s) w.heap.size (grownCap w s.size 0 5) s := by
  have hge := grownCap_ge w s.size 0 5
  have hmx := grownCap_le_maxLen w s.size 0 5
  refine ⟨⟨nums s ++ List.replicate (grownCap w s.size 0 5 - s.size) 0, ?_, ?_, ?_, ?_⟩, hge, hmx⟩
  · rw [Lib.bytesWorld_at_new]
    have e : Lib.bytesCells w 5 s = (vals (nums s ++ List.replicate (grownCap w s.size 0 5 - s.size) 0)).toArray := by
      apply Array.ext'
      simp [Lib.bytesCells, vals, nums, Function.comp_def]
    rw [e]
    simp [vals, nums_len]
    omega
  · simp [nums_len]; omega
  · rw [List.take_append_of_le_length (by rw [nums_len]; omega), List.take_of_length_le (by rw [nums_len]; omega)]
  · intro x hx
    rcases List.mem_append.1 hx with h | h
    · exact nums_small s x h
    · rw [List.mem_replicate] at h; omega
def lfr (L : Lk) (n : Nat) (s : ByteArray) : Fr := ⟨L.me, L.other, L.life, L.known, n, L.handed, nums s⟩
set_option maxRecDepth 100000 in
set_option maxHeartbeats 2000000 in
set_option linter.unusedSimpArgs false in
theorem frame_any (w : World) (b : Nat) (L : Lk) (rv : Value) (n : Nat) (s : ByteArray) (h : Lb w b L rv) (hT : C.Tab w) :
    Calls Tryz.prog 39 #[.pointer (some ⟨b, 0, none⟩), .agg #[.int .u64 (n : Int), .string s]] w fun e w' => ∃ sq m, m = (encB (lfr L n s)).length ∧ e = .returned (.slice sq m m) ∧ C.Mine w.heap.size w' sq (encB (lfr L n s)) ∧ Below w.heap.size w w' := by
  have hlt := C.lt_of_block h
  obtain ⟨w1, hw1⟩ : ∃ w1, w.alloc (.cells #[.int .u64 (n : Int), .string s] 111) = w1 := ⟨_, rfl⟩
  have hb1 : Below w.heap.size w w1 := by rw [← hw1]; exact (Below.refl _ _).alloc (Nat.le_refl _) _
  have hk1 : w1.heap[w.heap.size]? = some (.cells #[.int .u64 (n : Int), .string s] 111 (0, 0)) := by rw [← hw1]; exact heap_alloc_new _ _
  obtain ⟨c0, c1, c2, -, c4, -, -, -, c8, -⟩ := blk15 (h.below hb1)
  have d0 : w1.cell? ⟨w.heap.size, 0, none⟩ = some (.int .u64 (n : Int)) := by simp [World.cell?, hk1]
  have d1 : w1.cell? ⟨w.heap.size, 1, none⟩ = some (.string s) := by simp [World.cell?, hk1]
  have hcv := Lib.run_convert_string_bytes (P := Tryz.prog) w1.drew _ _ 5 s Tryz.underlying9 Tryz.underlying31 Tryz.underlying5
  have ht := told_new w1.drew s
  have hb3 : Below w.heap.size w (Lib.bytesWorld w1.drew 5 s) := by
    refine ⟨hb1.os, hb1.tape, hb1.output, ?_, fun j hj => ?_⟩
    · rw [Lib.bytesWorld_size]; have := hb1.size; simp; omega
    · rw [Lib.bytesWorld_at_old _ _ _ _ (by have := hb1.size; simp; omega)]; exact hb1.block j hj
  obtain ⟨cp, hcp⟩ : ∃ cp, grownCap w1.drew s.size 0 5 = cp := ⟨_, rfl⟩
  rw [hcp] at ht hcv
  have hk3 : (Lib.bytesWorld w1.drew 5 s).heap[w.heap.size]? = some (.cells #[.int .u64 (n : Int), .string s] 111 (0, 0)) := by
    rw [Lib.bytesWorld_at_old _ _ _ _ (by rw [← hw1]; simp)]; exact hk1
  generalize Lib.bytesWorld w1.drew 5 s = w3 at *
  obtain ⟨x0, x1, x2, -, x4, -, -, -, x8, -⟩ := blk15 (h.below hb3)
  have y0 : w3.cell? ⟨w.heap.size, 0, none⟩ = some (.int .u64 (n : Int)) := by simp [World.cell?, hk3]
  have y1 : w3.cell? ⟨w.heap.size, 1, none⟩ = some (.string s) := by simp [World.cell?, hk3]
  have HL3 := hide (h.below hb3)
  have HK3 := hide hk3
  have HE := hide (enc_any w3 (lfr L n s) _ cp ht.bytes (hT.below hb3 hT.pos))
  have hns : (lfr L n s).body.length = s.size := nums_len s
  unfold frV at HE
  rw [hns] at HE
  simp only [lfr] at HE
  have HW := hide hw1
  have HB3 := hide hb3
  obtain ⟨EB, hEB⟩ : ∃ EB, encB ⟨L.me, L.other, L.life, L.known, n, L.handed, nums s⟩ = EB := ⟨_, rfl⟩
  rw [hEB] at HE
  have hEB2 : encB (lfr L n s) = EB := hEB
  rw [hEB2]
  clear hEB hEB2
  clear hcp hns ht hb3 hw1 h hk1 hT hk3
  go_enter Tryz.func39, Tryz.ntmps39
  go_upto_region 1 with (fail)
  rw [HW.out]
  refine wp_region_held_drew (S := (fun w' => w'.cell? ⟨b, 0, none⟩ = some (.int .i64 L.me) ∧ w'.cell? ⟨b, 1, none⟩ = some (.int .i64 L.other) ∧ w'.cell? ⟨b, 2, none⟩ = some (.int .u64 (L.life : Int)) ∧ w'.cell? ⟨b, 4, none⟩ = some (.int .u64 (L.known : Int)) ∧ w'.cell? ⟨b, 8, none⟩ = some (.int .u64 (L.handed : Int)) ∧ w'.cell? ⟨w.heap.size, 0, none⟩ = some (.int .u64 (n : Int)) ∧ w'.cell? ⟨w.heap.size, 1, none⟩ = some (.string s))) (by kernel_rfl) (by go_keep) (fun hHeld => ?_)
  refine wpAnyH_take (i := 0) (oi := _) (v := ?vd0) rfl (by kernel_rfl) (by kernel_rfl) (by kernel_rfl) (fun _ _ _ h => h) (Or.inl ⟨by rfl, ?yd0⟩) (by assumption) ?rd0
  case yd0 => (intro w hSw; (try dsimp only at hSw); go_simp; try with_reducible rfl)
  try simp only [Act.put, List.setIfInBounds_toArray, List.set_cons_zero, List.set_cons_succ]
  refine wpAnyH_take (i := 1) (oi := _) (v := ?vd1) rfl (by kernel_rfl) (by kernel_rfl) (by kernel_rfl) (fun _ _ _ h => h) (Or.inl ⟨by rfl, ?yd1⟩) (by assumption) ?rd1
  case yd1 => (intro w hSw; (try dsimp only at hSw); go_simp; try with_reducible rfl)
  try simp only [Act.put, List.setIfInBounds_toArray, List.set_cons_zero, List.set_cons_succ]
  refine wpAnyH_take (i := 2) (oi := _) (v := ?vd2) rfl (by kernel_rfl) (by kernel_rfl) (by kernel_rfl) (fun _ _ _ h => h) (Or.inl ⟨by rfl, ?yd2⟩) (by assumption) ?rd2
  case yd2 => (intro w hSw; (try dsimp only at hSw); go_simp; try with_reducible rfl)
  try simp only [Act.put, List.setIfInBounds_toArray, List.set_cons_zero, List.set_cons_succ]
  refine wpAnyH_take (i := 3) (oi := _) (v := ?vd3) rfl (by kernel_rfl) (by kernel_rfl) (by kernel_rfl) (fun _ _ _ h => h) (Or.inl ⟨by rfl, ?yd3⟩) (by assumption) ?rd3
  case yd3 => (intro w hSw; (try dsimp only at hSw); go_simp; try with_reducible rfl)
  try simp only [Act.put, List.setIfInBounds_toArray, List.set_cons_zero, List.set_cons_succ]
  refine wpAnyH_take (i := 4) (oi := _) (v := ?vd4) rfl (by kernel_rfl) (by kernel_rfl) (by kernel_rfl) (fun _ _ _ h => h) (Or.inl ⟨by rfl, ?yd4⟩) (by assumption) ?rd4
  case yd4 => (intro w hSw; (try dsimp only at hSw); go_simp; try with_reducible rfl)
  try simp only [Act.put, List.setIfInBounds_toArray, List.set_cons_zero, List.set_cons_succ]
  refine wpAnyH_take (i := 5) (oi := _) (v := ?vd5) rfl (by kernel_rfl) (by kernel_rfl) (by kernel_rfl) (fun _ _ _ h => h) (Or.inl ⟨by rfl, ?yd5⟩) (by assumption) ?rd5
  case yd5 => (intro w hSw; (try dsimp only at hSw); go_simp; try with_reducible rfl)
  try simp only [Act.put, List.setIfInBounds_toArray, List.set_cons_zero, List.set_cons_succ]
  refine wpAnyH_take (i := 6) (oi := _) (v := ?vd6) rfl (by kernel_rfl) (by kernel_rfl) (by kernel_rfl) (fun _ _ _ h => h) (Or.inl ⟨by rfl, ?yd6⟩) (by assumption) ?rd6
  case yd6 => (intro w hSw; (try dsimp only at hSw); go_simp; try with_reducible rfl)
  try simp only [Act.put, List.setIfInBounds_toArray, List.set_cons_zero, List.set_cons_succ]
  refine wpAnyH_take (i := 7) (oi := _) (v := ?vd7) rfl (by kernel_rfl) (by kernel_rfl) (by kernel_rfl) (fun _ _ _ h => h) (Or.inl ⟨by rfl, ?yd7⟩) (by assumption) ?rd7
  case yd7 => (intro w hSw; (try dsimp only at hSw); go_simp; try with_reducible rfl)
  try simp only [Act.put, List.setIfInBounds_toArray, List.set_cons_zero, List.set_cons_succ]
  refine wpAnyH_take (i := 8) (oi := _) (v := ?vd8) rfl (by kernel_rfl) (by kernel_rfl) (by kernel_rfl) (fun _ _ _ h => h) (Or.inl ⟨by rfl, ?yd8⟩) (by assumption) ?rd8
  case yd8 => (intro w hSw; (try dsimp only at hSw); go_simp; try with_reducible rfl)
  try simp only [Act.put, List.setIfInBounds_toArray, List.set_cons_zero, List.set_cons_succ]
  refine wpAnyH_take (i := 9) (oi := _) (v := ?vd9) rfl (by kernel_rfl) (by kernel_rfl) (by kernel_rfl) (fun _ _ _ h => h) (Or.inl ⟨by rfl, ?yd9⟩) (by assumption) ?rd9
  case yd9 => (intro w hSw; (try dsimp only at hSw); go_simp; try with_reducible rfl)
  try simp only [Act.put, List.setIfInBounds_toArray, List.set_cons_zero, List.set_cons_succ]
  refine wpAnyH_take (i := 10) (oi := _) (v := ?vd10) rfl (by kernel_rfl) (by kernel_rfl) (by kernel_rfl) (fun _ _ _ h => h) (Or.inl ⟨by rfl, ?yd10⟩) (by assumption) ?rd10
  case yd10 => (intro w hSw; (try dsimp only at hSw); go_simp; try with_reducible rfl)
  try simp only [Act.put, List.setIfInBounds_toArray, List.set_cons_zero, List.set_cons_succ]
  refine wpAnyH_take (i := 11) (oi := _) (v := ?vd11) rfl (by kernel_rfl) (by kernel_rfl) (by kernel_rfl) (fun _ _ _ h => h) (Or.inl ⟨by rfl, ?yd11⟩) (by assumption) ?rd11
  case yd11 => (intro w hSw; (try dsimp only at hSw); go_simp; try with_reducible rfl)
  try simp only [Act.put, List.setIfInBounds_toArray, List.set_cons_zero, List.set_cons_succ]
  refine wpAnyH_take (i := 12) (oi := _) (v := ?vd12) rfl (by kernel_rfl) (by kernel_rfl) (by kernel_rfl) (fun _ _ _ h => h) (Or.inl ⟨by rfl, ?yd12⟩) (by assumption) ?rd12
  case yd12 => (intro w hSw; (try dsimp only at hSw); go_simp; try with_reducible rfl)
  try simp only [Act.put, List.setIfInBounds_toArray, List.set_cons_zero, List.set_cons_succ]
  refine wpAnyH_take (i := 13) (oi := _) (v := ?vd13) rfl (by kernel_rfl) (by kernel_rfl) (by kernel_rfl) (fun _ _ _ h => h) (Or.inl ⟨by rfl, ?yd13⟩) (by assumption) ?rd13
  case yd13 => (intro w hSw; (try dsimp only at hSw); go_simp; try with_reducible rfl)
  try simp only [Act.put, List.setIfInBounds_toArray, List.set_cons_zero, List.set_cons_succ]
  refine wpAnyH_take (i := 14) (oi := _) (v := ?vd14) rfl (by kernel_rfl) (by kernel_rfl) (by kernel_rfl) (fun _ _ _ h => h) (Or.inl ⟨by rfl, ?yd14⟩) (by assumption) ?rd14
  case yd14 => (intro w hSw; (try dsimp only at hSw); go_simp; try with_reducible rfl)
  try simp only [Act.put, List.setIfInBounds_toArray, List.set_cons_zero, List.set_cons_succ]
  refine wpAnyH_take (i := 15) (oi := _) (v := ?vd15) rfl (by kernel_rfl) (by kernel_rfl) (by kernel_rfl) (fun _ _ _ h => h) (Or.inl ⟨by rfl, ?yd15⟩) (by assumption) ?rd15
  case yd15 => (intro w hSw; (try dsimp only at hSw); go_simp; try with_reducible rfl)
  try simp only [Act.put, List.setIfInBounds_toArray, List.set_cons_zero, List.set_cons_succ]
  refine wpAnyH_take (i := 16) (oi := _) (v := ?vd16) rfl (by kernel_rfl) (by kernel_rfl) (by kernel_rfl) (fun _ _ _ h => h) (Or.inl ⟨by rfl, ?yd16⟩) (by assumption) ?rd16
  case yd16 => (intro w hSw; (try dsimp only at hSw); go_simp; try with_reducible rfl)
  try simp only [Act.put, List.setIfInBounds_toArray, List.set_cons_zero, List.set_cons_succ]
  refine wpAnyH_take (i := 17) (oi := _) (v := ?vd17) rfl (by kernel_rfl) (by kernel_rfl) (by kernel_rfl) (fun _ _ _ h => h) (Or.inl ⟨by rfl, ?yd17⟩) (by assumption) ?rd17
  case yd17 => (intro w hSw; (try dsimp only at hSw); go_simp; try with_reducible rfl)
  try simp only [Act.put, List.setIfInBounds_toArray, List.set_cons_zero, List.set_cons_succ]
  refine wpAnyH_take (i := 18) (oi := _) (v := ?vd18) rfl (by kernel_rfl) (by kernel_rfl) (by kernel_rfl) (fun _ _ _ h => h) (Or.inl ⟨by rfl, ?yd18⟩) (by assumption) ?rd18
  case yd18 => (intro w hSw; (try dsimp only at hSw); go_simp; try with_reducible rfl)
  try simp only [Act.put, List.setIfInBounds_toArray, List.set_cons_zero, List.set_cons_succ]
  refine wpAnyH_take (i := 19) (oi := _) (v := ?vd19) rfl (by kernel_rfl) (by kernel_rfl) (by kernel_rfl) (fun _ _ _ h => h) (Or.inl ⟨by rfl, ?yd19⟩) (by assumption) ?rd19
  case yd19 => (intro w hSw; (try dsimp only at hSw); go_simp; try with_reducible rfl)
  try simp only [Act.put, List.setIfInBounds_toArray, List.set_cons_zero, List.set_cons_succ]
  refine wpAnyH_take (i := 20) (oi := _) (v := ?vd20) rfl (by kernel_rfl) (by kernel_rfl) (by kernel_rfl) (fun _ _ _ h => h) (Or.inl ⟨by rfl, ?yd20⟩) (by assumption) ?rd20
  case yd20 => (intro w hSw; (try dsimp only at hSw); go_simp; try with_reducible rfl)
  try simp only [Act.put, List.setIfInBounds_toArray, List.set_cons_zero, List.set_cons_succ]
  refine wpAnyH_take (i := 21) (oi := _) (v := ?vd21) rfl (by kernel_rfl) (by kernel_rfl) (by kernel_rfl) (fun _ _ _ h => h) (Or.inl ⟨by rfl, ?yd21⟩) (by assumption) ?rd21
  case yd21 => (intro w hSw; (try dsimp only at hSw); go_simp; try with_reducible rfl)
  try simp only [Act.put, List.setIfInBounds_toArray, List.set_cons_zero, List.set_cons_succ]
  refine wpAnyH_take (i := 22) (oi := _) (v := ?vd22) rfl (by kernel_rfl) (by kernel_rfl) (by kernel_rfl) (fun _ _ _ h => h) (Or.inl ⟨by rfl, ?yd22⟩) (by assumption) ?rd22
  case yd22 => (intro w hSw; (try dsimp only at hSw); go_simp; try with_reducible rfl)
  try simp only [Act.put, List.setIfInBounds_toArray, List.set_cons_zero, List.set_cons_succ]
  refine wpAnyH_take (i := 23) (oi := _) (v := ?vd23) rfl (by kernel_rfl) (by kernel_rfl) (by kernel_rfl) (fun _ _ _ h => h) (Or.inl ⟨by rfl, ?yd23⟩) (by assumption) ?rd23
  case yd23 => (intro w hSw; (try dsimp only at hSw); go_simp; try with_reducible rfl)
  try simp only [Act.put, List.setIfInBounds_toArray, List.set_cons_zero, List.set_cons_succ]
  refine wpAnyH_take (i := 24) (oi := _) (v := ?vd24) rfl (by kernel_rfl) (by kernel_rfl) (by kernel_rfl) (fun _ _ _ h => h) (Or.inl ⟨by rfl, ?yd24⟩) (by assumption) ?rd24
  case yd24 => (intro w hSw; (try dsimp only at hSw); go_simp; try with_reducible rfl)
  try simp only [Act.put, List.setIfInBounds_toArray, List.set_cons_zero, List.set_cons_succ]
  refine wpAnyH_take (i := 25) (oi := _) (v := ?vd25) rfl (by kernel_rfl) (by kernel_rfl) (by kernel_rfl) (fun _ _ _ h => h) (Or.inl ⟨by rfl, ?yd25⟩) (by assumption) ?rd25
  case yd25 => (intro w hSw; (try dsimp only at hSw); go_simp; try with_reducible rfl)
  try simp only [Act.put, List.setIfInBounds_toArray, List.set_cons_zero, List.set_cons_succ]
  refine wpAnyH_ready (rs := [26]) (by kernel_rfl) (by simp) ?_
  refine AllReadyH.cons (o := _) rfl (fun KK hKK => ?_) AllReadyH.nil
  go_simp
  try go_wp2_with fail
  refine hKK.out _ _ (by (try dsimp only); go_keep) (fun hHeld => ?_)
  clear hKK KK
  try simp only [Act.put, List.setIfInBounds_toArray, List.set_cons_zero, List.set_cons_succ]
  refine wpAnyH_take (i := 27) (oi := _) (v := ?vd27) rfl (by kernel_rfl) (by kernel_rfl) (by kernel_rfl) (fun _ _ _ h => h) (Or.inl ⟨by rfl, ?yd27⟩) (by assumption) ?rd27
  case yd27 => (intro w hSw; (try dsimp only at hSw); go_simp; try with_reducible rfl)
  try simp only [Act.put, List.setIfInBounds_toArray, List.set_cons_zero, List.set_cons_succ]
  refine wpAnyH_ready (rs := [28]) (by kernel_rfl) (by simp) ?_
  refine AllReadyH.cons (o := _) rfl (fun KK hKK => ?_) AllReadyH.nil
  go_simp
  (go_at_call 91; refine HE.out.mono ?_; rintro e w4 ⟨sq, rfl, hm, hb⟩; have HM := hide hm; have HB := hide hb; obtain ⟨z0, z1, z2, -, z4, -, -, -, z8, -⟩ := blk15 (HL3.out.below hb); have hk4 := (hb.block _ (C.lt_of_block HK3.out)).trans HK3.out; have u0 : w4.cell? ⟨w.heap.size, 0, none⟩ = some (.int .u64 (n : Int)) := (by simp [World.cell?, hk4]); have u1 : w4.cell? ⟨w.heap.size, 1, none⟩ = some (.string s) := (by simp [World.cell?, hk4]); clear hm hb hk4)
  try go_wp2_with fail
  refine hKK.out _ _ (by (try dsimp only); go_keep) (fun hHeld => ?_)
  clear hKK KK
  try simp only [Act.put, List.setIfInBounds_toArray, List.set_cons_zero, List.set_cons_succ]
  refine wpAnyH_take (i := 29) (oi := { dst := some 4, op := Op.assign (Operand.tmp 33), type := 31, pos := _, after := _, guard := none }) (v := ?vd29) rfl (by kernel_rfl) (by kernel_rfl) (by kernel_rfl) (fun _ _ _ h => h) (Or.inl ⟨by rfl, ?yd29⟩) (by assumption) ?rd29
  case yd29 => (intro w hSw; (try dsimp only at hSw); go_simp; try with_reducible rfl)
  try simp only [Act.put, List.setIfInBounds_toArray, List.set_cons_zero, List.set_cons_succ]
  refine wpAnyH_done (by kernel_rfl) ?_ _
  go_wp2
  go_ret
  refine ⟨sq, EB.length, rfl, rfl, ?_, HB3.out.trans (HB.out.mono HB3.out.size)⟩
  rcases HM.out with h | ⟨g, e1, e2, e3⟩
  · exact Or.inl h
  · exact Or.inr ⟨g, e1, Nat.le_trans HB3.out.size e2, e3⟩
end Go.Proofs.YtjcdnclfakmbpaaGreatDoor
namespace Go.Proofs.YtjcdnclfakmbpaaGreatDoor
open Go.RowKit
theorem Tryz.infoSl : (Tryz.prog.info? 31).map (fun i => (i.zero, i.size, i.bytes)) = some (some (.slice none 0 0), 1, 24) := by kernel_rfl
theorem own_cell0 {w : World} {B : Nat} {e : TypeId} {a : Option Addr} {cap : Nat} {x : Value} (h : w.ownsRow B e 1 (.slice a 1 cap) 1 [x]) : ∃ g, a = some ⟨g, 0, none⟩ ∧ w.cell? ⟨g, 0, none⟩ = some x ∧ B ≤ g ∧ g < w.heap.size := by
  rcases h.2 with ⟨h1, _⟩ | ⟨g, c, cur, h1, h2, h3, h4, h5, h6, h7⟩
  · cases h1
  · cases h1
    refine ⟨g, rfl, ?_, h2, C.lt_of_block h3⟩
    simp only [World.cell?, h3]
    have : cur.toList[0]? = some x := by
      have := congrArg (fun l : List Value => l[0]?) h7
      simpa [List.getElem?_take] using this
    simpa using this
theorem Mine.c_bytes {B : Nat} {w w' : World} {sq : Option Addr} {xs : List Nat} (h : C.Mine B w sq xs) (hs : ∀ x ∈ xs, x < 256) (hk : ∀ g, B ≤ g → g < w.heap.size → w'.heap[g]? = w.heap[g]?) : C.Bytes w' sq xs := by
  refine C.Mine.bytes (B := B) ?_ hs
  rcases h with h | ⟨g, e, h1, h2⟩
  · exact Or.inl h
  · exact Or.inr ⟨g, e, h1, (hk g h1 (C.lt_of_block h2)).trans h2⟩
set_option maxRecDepth 100000 in
theorem bodies_none (w : World) (b : Nat) (L : Lk) (rv : Value) (h : Lb w b L rv) (hk : L.known = 0) (fv : Value) :
    Calls Tryz.prog 37 #[.pointer (some ⟨b, 0, none⟩), fv] w fun e w' => e = .returned (.slice none 0 0) ∧ w' = w := by
  have HK := hide (known_any w b L rv h)
  rw [hk] at HK
  clear h
  go_enter Tryz.func37, Tryz.ntmps37
  go_wp2_with fail
  refine HK.out.mono ?_
  rintro e w1 ⟨rfl, rfl⟩
  go_wp2
  go_ret
  exact ⟨rfl, rfl⟩
set_option maxRecDepth 100000 in
set_option maxHeartbeats 2000000 in
theorem tick_word (w : World) (b : Nat) (L : Lk) (c : Nat) (h : Lb w b L (.slice none 0 c)) (hk : L.known = 0) (hp : L.paced = true) (hl : L.left ≤ 1) (ho : L.Pok) (ha : L.ack = false) (hs : L.asked = false) (hT : C.Tab w) (hb0 : 0 < b) :
    Calls Tryz.prog 16 #[.pointer (some ⟨b, 0, none⟩)] w fun e w' => ∃ g cp sq m, e = .returned (.slice (some ⟨g, 0, none⟩) 1 cp) ∧ w'.cell? ⟨g, 0, none⟩ = some (.slice sq m m) ∧ m = (encB (lfr L 0 ⟨#[]⟩)).length ∧ C.Bytes w' sq (encB (lfr L 0 ⟨#[]⟩)) ∧ C.But b w w' := by
  have HR := hide (rlen_any w b L none 0 c h)
  have HP := hide (ptick_any w b L _ h ho)
  have hn : lnow L = true := by unfold lnow; exact decide_eq_true hl
  rw [hn] at HP
  obtain ⟨-, -, -, -, -, -, -, -, -, -, -, -, -, -, c14, -⟩ := blk15 h
  rw [hp] at c14
  have HL := hide h
  have HT := hide hT
  have hlt := C.lt_of_block h
  have HK : Hid ((ltick L).known = 0 ∧ (ltick L).ack = false ∧ (ltick L).asked = false ∧ (ltick L).paced = true ∧ lfr (ltick L) 0 ⟨#[]⟩ = lfr L 0 ⟨#[]⟩) := by
    show _ ∧ _
    unfold ltick
    split <;> exact ⟨hk, ha, hs, hp, rfl⟩
  clear h hT hn
  go_enter Tryz.func16, Tryz.ntmps16
  go_wp2_with fail
  refine HR.out.mono ?_
  rintro e w1 ⟨rfl, rfl⟩
  go_wp2_with fail
  refine HP.out.mono ?_
  rintro e w2 ⟨rfl, hl2, ho2⟩
  obtain ⟨-, -, -, -, -, -, -, c7, -, -, -, -, -, -, -, -⟩ := blk15 hl2
  have hs2 := ho2.size
  have hlt2 : b < w2.heap.size := by omega
  have HL2 := hide hl2
  have HO2 := hide ho2
  clear hl2 ho2
  go_wp2_with fail
  obtain ⟨w3, hw3⟩ : ∃ w3, (w2.alloc (.cells #[.bool true] 4)).alloc (.cells #[.int .u64 ((ltick L).gone : Int)] 22) = w3 := ⟨_, rfl⟩
  rw [hw3]
  have hb3 : Below w2.heap.size w2 w3 := by rw [← hw3]; exact ((Below.refl _ _).alloc (Nat.le_refl _) _).alloc (by simp) _
  have ht3 : w3.heap[w1.heap.size]? = some (.cells #[.bool true] 4 (0, 0)) := by
    rw [← hw3, Below.heap_alloc _ _ _ (by simp; omega), ← hs2]; exact heap_alloc_new _ _
  have HL3 := hide (HL2.out.below hb3)
  have HB3 := hide hb3
  have HT3 := hide ht3
  clear hw3 hb3 ht3
  refine (bodies_none w3 b (ltick L) _ HL3.out HK.out.1 _).mono ?_
  rintro e w4 ⟨rfl, rfl⟩
  obtain ⟨-, -, -, -, -, -, -, -, -, c9, -, -, -, c13, c14', -⟩ := blk15 HL3.out
  rw [HK.out.2.1] at c9
  rw [HK.out.2.2.1] at c13
  rw [HK.out.2.2.2.1] at c14'
  have t0 : w4.cell? ⟨w1.heap.size, 0, none⟩ = some (.bool true) := by have := HT3.out; simp [World.cell?, this]
  have HB4 : Hid (C.But b w1 w4) := by
    refine ⟨HB3.out.os.trans HO2.out.os, HB3.out.tape.trans HO2.out.tape, HB3.out.output.trans HO2.out.output, by have := HB3.out.size; omega, fun k hk hkb => (HB3.out.block k (by omega)).trans (HO2.out.block k hkb)⟩
  have HTb : Hid (C.Tab w4) := fun j hj => by
    have hpos := HT.out.pos
    rw [World.cell?_of_block (w := w1) (a := ⟨0, j, none⟩) (HB4.out.block 0 hpos (by omega))]; exact HT.out j hj
  have HF := hide (frame_any w4 b (ltick L) _ 0 ⟨#[]⟩ HL3.out HTb.out)
  rw [HK.out.2.2.2.2] at HF
  clear c7 HR HP
  go_wp2_with fail
  refine HF.out.mono ?_
  rintro e w5 ⟨sq, m, hm, rfl, hmi, hb5⟩
  obtain ⟨i0, hi, hz0, hz1, hz2⟩ := info_parts Tryz.infoSl
  have HM := hide hm
  have HMi := hide hmi
  have HB5 := hide hb5
  have HL5 := hide (HL3.out.below hb5)
  have HBt5 : Hid (C.But b w1 w5) := HB4.out.trans (C.but_of hb5 b)
  have hs5 : w1.heap.size ≤ w5.heap.size := HBt5.out.size
  have hsm : Hid (∀ x ∈ encB (lfr L 0 ⟨#[]⟩), x < 256) := encB_small (by intro x hx; simp [lfr, nums] at hx)
  clear hm hmi hb5 c9 c13 c14' t0 HF
  go_wp2_with (at_builtin; refine wpList_append_lies _ rfl (.tmp 57) (.tmp 61) 44 rfl w5.heap.size 31 i0 (.slice none 0 0) 1 24 Tryz.underlying44 hi hz0 hz1 hz2 rfl (by omega) (.slice none 0 0) 0 [] rfl ⟨rfl, Or.inl ⟨rfl, rfl⟩⟩ ⟨w5.heap.size, 0, none⟩ 1 1 [.slice sq m m] rfl rfl (World.news_of_block (heap_alloc_new w5 (.cells #[.slice sq m m] 31))) (by simp [Value.oneCell']) (by omega) (by unfold maxLen; omega) (by omega) (by simp) _ rfl ?_; intro g' cap' w6 hown hgrow hat hltg; have hb6 : Below w5.heap.size w5 w6 := ((Below.refl _ _).alloc (Nat.le_refl _) _).grown hgrow (by simp) (fun k e => by simp [Value.ownBlock] at e); have HO6 := hide hown; have HB6 := hide hb6; obtain ⟨-, -, -, -, -, -, -, -, -, c9, -, -, -, c13, -, cf⟩ := blk15 (HL5.out.below hb6); have hlt6 : b < w6.heap.size := Nat.lt_of_lt_of_le (by omega) hb6.size; clear hown hgrow hat hb6)
  go_ret
  obtain ⟨g, e1, e2, e3, e4⟩ := own_cell0 HO6.out
  cases e1
  have hne : g' ≠ b := by omega
  have hk : ∀ k, k ≠ b → ((w6.setCell ⟨b, 9, none⟩ (.bool false)).setCell ⟨b, 13, none⟩ (.bool false)).heap[k]? = w6.heap[k]? := fun k hk =>
    (Below.heap_setCell _ _ _ _ (by simpa using hk)).trans (Below.heap_setCell _ _ _ _ (by simpa using hk))
  have hbt : C.But b w1 w6 := HBt5.out.trans (C.but_of HB6.out b)
  refine ⟨g', cap', sq, m, rfl, ?_, HM.out, ?_, ?_⟩
  · rw [World.cell?_of_block (w := w6) (a := ⟨g', 0, none⟩) (hk g' hne)]; exact e2
  · refine Mine.c_bytes HMi.out hsm.out (fun k h1 h2 => ?_)
    have hb4 := HL3.out
    have : b < w4.heap.size := C.lt_of_block hb4
    exact (hk k (by omega)).trans (HB6.out.block k h2)
  · exact (hbt.setCell (p := ⟨b, 9, none⟩) (Or.inl rfl) _).setCell (p := ⟨b, 13, none⟩) (Or.inl rfl) _
def fr3 : Fr := ⟨0, 2, 3, 0, 0, 0, []⟩
theorem fr3_fit : fr3.fit := by unfold Fr.fit fr3; simp
theorem fr3_small : fr3.small := by intro x hx; simp [fr3] at hx
set_option maxRecDepth 100000 in
set_option maxHeartbeats 2000000 in
theorem begun_any (w : World) (hT : C.Tab w) : Calls Tryz.prog 5 #[] w fun e w' => e = .returned (.bool true) ∧ Below w.heap.size w w' := by
  have hpos := hT.pos
  have HN := hide (new_any w 0 2 3 2 4)
  have HT := hide hT
  clear hT
  go_enter Tryz.func5, Tryz.ntmps5
  go_wp2_with fail
  refine HN.out.mono ?_
  rintro e w1 ⟨rfl, hl1, hb1⟩
  have HK := hide (known_any w1 _ _ _ hl1)
  have HL := hide (len_any w1 _ _ _ _ _ hl1)
  have HL1 := hide hl1
  have HB1 := hide hb1
  clear hl1 hb1
  go_wp2_with fail
  refine HK.out.mono ?_
  rintro e w2 ⟨rfl, rfl⟩
  go_wp2_with fail
  refine HL.out.mono ?_
  rintro e w3 ⟨rfl, rfl⟩
  have HTk := hide (tick_word w3 w.heap.size _ 0 HL1.out rfl rfl (by simp [Lk.new]) ⟨by simp [Lk.new], by simp [Lk.new], by intro m; simp [Lk.new]; omega⟩ rfl rfl (HT.out.below HB1.out hpos) hpos)
  have hef : lfr (Lk.new 0 2 3 2 4) 0 ⟨#[]⟩ = fr3 := rfl
  rw [hef] at HTk
  have hee : encB fr3 = fr3.bytes := by unfold encB; rw [if_pos fr3_fit]
  rw [hee] at HTk
  have HDc := hide (dec_bytes fr3_fit fr3_small)
  have HLn : Hid (fr3.bytes.length ≤ 2088) := by show _ ≤ _; rw [← hee]; exact encB_len fr3
  clear hef hee HK HL
  generalize fr3.bytes = FB at *
  go_wp2_with fail
  refine HTk.out.mono ?_
  rintro e w4 ⟨g, cp, sq, m, rfl, hc, hm, hby, hbt⟩
  have HB4 : Hid (Below w.heap.size w w4) := hbt.below HB1.out (Nat.le_refl _) HB1.out.size
  have HD := hide (dec_any w4 sq m m FB hm.symm (Nat.le_refl _) (by have := HLn.out; omega) (Bytes.of_c hby) (HT.out.below HB4.out hpos))
  clear HTk hm hby hbt
  go_wp2_with fail
  refine HD.out.mono ?_
  rintro e w5 (⟨f, sq2, hd, rfl, hmi, hb5⟩ | ⟨hd, _, _⟩)
  · rw [HDc.out] at hd
    cases hd
    have hv : frV fr3 sq2 fr3.body.length = .agg #[.int .i64 0, .int .i64 2, .int .u64 3, .int .u64 0, .int .u64 0, .int .u64 0, .slice sq2 0 0] := rfl
    rw [hv]
    have HB5 := hide (HB4.out.trans (hb5.mono HB4.out.size))
    have HQ : ∀ w6, Hid (Calls Tryz.prog 18 #[.agg #[.int .i64 0, .int .i64 2, .int .u64 3, .int .u64 0, .int .u64 0, .int .u64 0, .slice sq2 0 0], .agg #[.int .i64 0, .int .i64 2, .int .u64 3, .int .u64 0, .int .u64 0, .int .u64 0, .slice none 0 0]] w6 fun e w' => ∃ r, e = .returned (.bool r) ∧ (r = true ↔ fr3 = fr3) ∧ Below w6.heap.size w6 w') := fun w6 =>
      hide (eqfr_any w6 fr3 fr3 sq2 none 0 0 ⟨fr3_small, Or.inl rfl⟩ ⟨fr3_small, Or.inl rfl⟩ (by simp [fr3]) (by simp [fr3]))
    clear hmi hb5 hv HD hc
    go_wp2_with fail
    refine (HQ _).out.mono ?_
    rintro e w7 ⟨r, rfl, hr, hb7⟩
    obtain rfl : r = true := hr.2 (by first | trivial | rfl)
    have HB7 : Hid (Below w.heap.size w w7) := (HB5.out.alloc HB5.out.size _).trans (hb7.mono (by have := HB5.out.size; simp; omega))
    clear hr hb7
    go_wp2
    go_ret
    exact ⟨rfl, HB7.out⟩
  · rw [HDc.out] at hd; cases hd
end Go.Proofs.YtjcdnclfakmbpaaGreatDoor
namespace Go.Proofs.YtjcdnclfakmbpaaGreatDoor
open Go.RowKit
structure Fe where
  f : Fr
  p : Option Addr
  c : Nat
structure FeOk (w : World) (e : Fe) : Prop where
  by_ : Bytes w e.p e.f.body
  len : e.f.body.length ≤ 140737488351232
def feC (e : Fe) : List Value := [.int .i64 e.f.fr, .int .i64 e.f.tt, .int .u64 (e.f.mine : Int), .int .u64 (e.f.yours : Int), .int .u64 (e.f.seq : Int), .int .u64 (e.f.ack : Int), .slice e.p e.f.body.length e.c]
theorem owns_bytes {w : World} {B : Nat} {a : Option Addr} {n c : Nat} {xs : List Nat} (h : w.ownsRow B 5 1 (.slice a n c) n (vals xs)) (hs : ∀ x ∈ xs, x < 256) : Bytes w a xs := by
  refine ⟨hs, ?_⟩
  have hl := h.1
  rw [vals_len, Nat.mul_one] at hl
  rcases h.2 with ⟨h1, h2⟩ | ⟨g, cap, cur, h1, h2, h3, h4, h5, h6, h7⟩
  · left; exact List.eq_nil_of_length_eq_zero (by omega)
  · cases h1
    refine Or.inr ⟨g, 0, rfl, C.lt_of_block h3, fun j hj => ?_⟩
    have e : cur.toList[j]? = some (.int .u8 ((xs.getD j 0 : Nat) : Int)) := by
      have := congrArg (fun l : List Value => l[j]?) h7
      simp only [List.getElem?_take] at this
      rw [if_pos (by omega)] at this
      rw [this]
      simp [vals, List.getD, List.getElem?_eq_getElem hj]
    simp only [World.cell?, h3, Nat.zero_add]
    simpa using e
end Go.Proofs.YtjcdnclfakmbpaaGreatDoor
namespace Go.Proofs.YtjcdnclfakmbpaaGreatDoor.D
open Go.RowKit
structure Pc where
  left : Nat
  gap : Nat
  most : Nat
def Pc.tick (P : Pc) : Pc := if 1 < P.left then ⟨P.left - 1, P.gap, P.most⟩ else ⟨P.gap, min (2 * P.gap) P.most, P.most⟩
def Pc.now (P : Pc) : Bool := decide (P.left ≤ 1)
def Pc.new (m : Nat) : Pc := ⟨0, 1, m⟩
theorem Pc.new_ok {m : Nat} (h1 : 1 ≤ m) (h2 : m ≤ 64) : (Pc.new m).Ok := ⟨h1, h2, Nat.zero_le _, Nat.le_refl _, h1⟩
theorem Pc.tick_most (P : Pc) : P.tick.most = P.most := by unfold Pc.tick; split <;> rfl
def it (m : Nat) : Nat → Pc
  | 0 => .new m
  | n + 1 => (it m n).tick
def cnt (m : Nat) : Nat → Nat
  | 0 => 0
  | n + 1 => cnt m n + if (it m n).now then 1 else 0
theorem it_ok {m : Nat} (h1 : 1 ≤ m) (h2 : m ≤ 64) : ∀ n, (it m n).Ok
  | 0 => Pc.new_ok h1 h2
  | n + 1 => (it_ok h1 h2 n).tick
theorem it_most (m : Nat) : ∀ n, (it m n).most = m
  | 0 => rfl
  | n + 1 => (Pc.tick_most _).trans (it_most m n)
theorem run_on {m a l g : Nat} (hg : 1 ≤ g) (hd : it m a = ⟨l, g, m⟩) (hl : l ≤ 1) : ∀ j, j < g → it m (a + 1 + j) = ⟨g - j, min (2 * g) m, m⟩ ∧ cnt m (a + 1 + j) = cnt m a + 1
  | 0, _ => by
    refine ⟨?_, ?_⟩
    · show (it m a).tick = _
      rw [hd]; unfold Pc.tick; rw [if_neg (by show ¬ 1 < l; omega)]; rfl
    · show cnt m a + (if (it m a).now then 1 else 0) = _
      rw [hd]; unfold Pc.now; simp [hl]
  | j + 1, h => by
    obtain ⟨e1, e2⟩ := run_on hg hd hl j (by omega)
    refine ⟨?_, ?_⟩
    · show (it m (a + 1 + j)).tick = _
      rw [e1]; unfold Pc.tick; rw [if_pos (by show 1 < g - j; omega)]
      show Pc.mk (g - j - 1) _ _ = _
      congr 1
    · show cnt m (a + 1 + j) + (if (it m (a + 1 + j)).now then 1 else 0) = _
      rw [e2, e1]; unfold Pc.now
      rw [if_neg (by simp; omega)]
structure Tm (m n k at' gap : Nat) : Prop where
  g1 : 1 ≤ gap
  g2 : gap ≤ m
  le : at' ≤ n + 64
  is : (k = 0 ∧ at' = 1 ∧ gap = 1) ∨ ∃ a g, at' = a + g ∧ 1 ≤ a ∧ 1 ≤ g ∧ a ≤ n ∧ ∀ j, j < g → it m (a + j) = ⟨g - j, gap, m⟩ ∧ cnt m (a + j) = k
theorem Tm.start {m n : Nat} (h : 1 ≤ m) : Tm m n 0 1 1 := ⟨Nat.le_refl _, h, by omega, Or.inl ⟨rfl, rfl, rfl⟩⟩
theorem Tm.next {m n k at' gap : Nat} (h : Tm m n k at' gap) (hm : m ≤ 64) (hle : at' ≤ n) : Tm m n (k + 1) (at' + gap) (min (2 * gap) m) := by
  obtain ⟨h1, h2, h3, h4⟩ := h
  refine ⟨by omega, by omega, by omega, Or.inr ⟨at', gap, rfl, ?_, h1, hle, ?_⟩⟩
  · rcases h4 with ⟨_, e, _⟩ | ⟨a, g, e, e1, _⟩ <;> omega
  · rcases h4 with ⟨rfl, rfl, rfl⟩ | ⟨a, g, rfl, e1, e2, _, e4⟩
    · intro j hj
      have := run_on (m := m) (a := 0) (l := 0) (g := 1) (by omega) rfl (by omega) j hj
      simpa [cnt] using this
    · obtain ⟨d1, d2⟩ := e4 (g - 1) (by omega)
      intro j hj
      have := run_on (m := m) (a := a + (g - 1)) (l := g - (g - 1)) (g := gap) h1 d1 (by omega) j hj
      rw [d2, show a + (g - 1) + 1 + j = a + g + j by omega] at this
      exact this
def atOf (m n : Nat) : Nat := if n = 0 then 1 else n + (it m n).left
theorem Tm.done {m n k at' gap : Nat} (h : Tm m n k at' gap) (hlt : n < at') : k = cnt m n ∧ at' = atOf m n := by
  obtain ⟨_, _, _, h4⟩ := h
  unfold atOf
  rcases h4 with ⟨rfl, rfl, _⟩ | ⟨a, g, rfl, e1, e2, e3, e4⟩
  · obtain rfl : n = 0 := by omega
    exact ⟨rfl, rfl⟩
  · obtain ⟨d1, d2⟩ := e4 (n - a) (by omega)
    rw [show a + (n - a) = n by omega] at d1 d2
    rw [if_neg (by omega), d1]
    exact ⟨d2.symm, by show a + g = n + (g - (n - a)); omega⟩
set_option maxRecDepth 100000 in
theorem Times_any (w : World) (m n : Nat) (h1 : 1 ≤ m) (h2 : m ≤ 64) (hn : n ≤ 1000000) :
    Calls Tryz.prog 135 #[.int .i64 (m : Int), .int .i64 (n : Int)] w fun e w' => e = .returned (.tuple #[.int .i64 (cnt m n : Int), .int .i64 (atOf m n : Int)]) ∧ w' = w := by
  have HS := hide (Tm.start (n := n) h1)
  go_enter Tryz.func135, Tryz.ntmps135
  go_wp2
  go_loop [6, 7, 8] (fun g a k => ∃ (k' a' g' : Nat), g = .int .i64 (g' : Int) ∧ a = .int .i64 (a' : Int) ∧ k = .int .i64 (k' : Int) ∧ k' ≤ a' ∧ Hid (Tm m n k' a' g')) (fun _ a _ => n + 65 - (intOf a).toNat)
  case atStart => exact ⟨0, 1, 1, rfl, rfl, rfl, by omega, HS⟩
  case round =>
    obtain ⟨k, a, g, rfl, rfl, rfl, hk, HT⟩ := hrel
    have b1 := HT.out.g1
    have b2 := HT.out.g2
    have b3 := HT.out.le
    by_cases hlt : a ≤ n
    · have HN := hide (HT.out.next h2 hlt)
      by_cases hd : m < 2 * g
      · have hmin : Hid (min (2 * g) m = m) := by show _ = _; omega
        go_wp2
        go_round
        case rel => exact ⟨k + 1, a + g, m, rfl, by go_num, by go_num, by omega, by have h := HN.out; rw [hmin.out] at h; exact h⟩
        case measure => simp [intOf]; omega
      · have hmin : Hid (min (2 * g) m = 2 * g) := by show _ = _; omega
        go_wp2
        go_round
        case rel => exact ⟨k + 1, a + g, 2 * g, by go_num, by go_num, by go_num, by omega, by have h := HN.out; rw [hmin.out] at h; exact h⟩
        case measure => simp [intOf]; omega
    · have HD := hide (HT.out.done (by omega))
      go_wp2
      go_ret2
      exact ⟨by rw [← HD.out.1, ← HD.out.2]; rfl, rfl⟩
end Go.Proofs.YtjcdnclfakmbpaaGreatDoor.D
