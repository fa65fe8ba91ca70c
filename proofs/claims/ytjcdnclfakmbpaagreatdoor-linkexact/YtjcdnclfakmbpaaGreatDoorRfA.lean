import Derived.Maps.AppendAt
import Derived.Test.YtjcdnclfakmbpaaGreatDoorLkD
namespace Go.Proofs.YtjcdnclfakmbpaaGreatDoor
open Go.RowKit Go.Maps
theorem Tryz.infoU8 : (Tryz.prog.info? 5).map (fun i => (i.zero, i.size, i.bytes)) = some (some (.int .u8 0), 1, 1) := by kernel_rfl
theorem vals_len (xs : List Nat) : (vals xs).length = xs.length := by simp [vals]
theorem vals_one (xs : List Nat) : ∀ u ∈ vals xs, u.oneCell' = true := fun u hu => by
  simp only [vals, List.mem_map] at hu
  obtain ⟨x, _, rfl⟩ := hu
  rfl
theorem owns_form {w : World} {B : Nat} {e : TypeId} {v : Value} {s n : Nat} {xs : List Value} (h : w.ownsRow B e s v n xs) : ∃ a c, v = .slice a n c ∧ n ≤ c ∧ c ≤ maxLen := by
  rcases h.2 with ⟨h1, h2⟩ | ⟨g, cap, cur, h1, _, _, h3, h4, _⟩
  · exact ⟨none, 0, by rw [h1, h2], by omega, by unfold maxLen; omega⟩
  · exact ⟨_, cap, h1, h3, h4⟩
def Lies (w : World) (v v' : Value) : Prop := v'.ownBlock = v.ownBlock ∨ ∃ g, v'.ownBlock = some g ∧ w.heap.size ≤ g
theorem below_drewN {B : Nat} {w w' : World} (h : Below B w w') (n : Nat) : Below B w (w'.drewN n) := ⟨h.os, h.tape, h.output, h.size, h.block⟩
theorem Bytes.drewN {w : World} {sp : Option Addr} {xs : List Nat} (h : Bytes w sp xs) (q : Nat) : Bytes (w.drewN q) sp xs := ⟨h.small, h.lie⟩
theorem bytes_cells {w : World} {g o : Nat} {xs : List Nat} (hx : Bytes w (some ⟨g, o, none⟩) xs) : ∀ j u, (vals xs)[j]? = some u → w.cell? ((⟨g, o, none⟩ : Addr).add j) = some u := by
  intro j u hj
  simp only [vals, List.getElem?_map, Option.map_eq_some_iff] at hj
  obtain ⟨x, hx', rfl⟩ := hj
  have hlt : j < xs.length := (List.getElem?_eq_some_iff.1 hx').1
  rcases hx.lie with h0 | ⟨g', o', e, hg, hc⟩
  · subst h0; simp at hlt
  · cases e
    have := hc j hlt
    simp only [List.getD, hx', Option.getD_some] at this
    unfold Addr.add
    by_cases h0 : j = 0
    · subst h0; simpa using this
    · simpa [h0] using this
theorem run_app_bytes {w : World} {v : Value} {n : Nat} {ys : List Value} (hown : w.ownsRow 0 5 1 v n ys) {sp : Option Addr} {m c : Nat} {xs : List Nat} (hm : xs.length = m) (hb : Bytes w sp xs) (h63 : n + m ≤ 140737488355328) (ty : TypeId) :
    ∃ a' c' w', (Builtin.append_ #[31, 31] ty #[v, .slice sp m c]).run Tryz.prog w = .ok (.slice a' (n + m) c') w' ∧ w'.ownsRow 0 5 1 (.slice a' (n + m) c') (n + m) (ys ++ vals xs) ∧ w.grownBy w' v.ownBlock ∧ Lies w v (.slice a' (n + m) c') := by
  obtain ⟨i0, hi, hz0, hz1, hz2⟩ := info_parts Tryz.infoU8
  have go : ∀ (g o : Nat), Bytes w (some ⟨g, o, none⟩) xs → ∃ a' c' w', (Builtin.append_ #[31, 31] ty #[v, .slice (some ⟨g, o, none⟩) m c]).run Tryz.prog w = .ok (.slice a' (n + m) c') w' ∧ w'.ownsRow 0 5 1 (.slice a' (n + m) c') (n + m) (ys ++ vals xs) ∧ w.grownBy w' v.ownBlock ∧ Lies w v (.slice a' (n + m) c') := fun g o hb => by
    obtain ⟨v', w', hr, h2, h3, _, h5⟩ := run_append_own_at (P := Tryz.prog) w 0 31 ty 5 i0 (.int .u8 0) 1 1 Tryz.underlying31 hi hz0 hz1 hz2 rfl (by omega) v n ys hown ⟨g, o, none⟩ m c (vals xs) (by rw [vals_len, hm, Nat.mul_one]) (bytes_cells hb) (vals_one xs) (by unfold maxLen; omega) (by omega) (Nat.zero_le _)
    obtain ⟨a', c', rfl, _, _⟩ := owns_form h2
    exact ⟨a', c', w', hr, h2, h3, h5.imp id (fun e => ⟨_, e, Nat.le_refl _⟩)⟩
  rcases hb.lie with h0 | ⟨g, o, rfl, hg, hc⟩
  · cases sp with
    | none =>
      subst h0
      simp at hm
      subst hm
      obtain ⟨a, c', rfl, hle, _⟩ := owns_form hown
      refine ⟨a, c', w, ?_, by simpa [vals] using hown, ⟨rfl, rfl, rfl, Nat.le_refl _, fun _ _ _ => rfl⟩, Or.inl rfl⟩
      simp [Builtin.append_, run_underlying Tryz.underlying31, sizeOf, typeInfo, hi, Builtin.lenOf, Builtin.firstCells, hle]
      cases a <;> simp [storeCells]
    | some ad =>
      obtain ⟨v', w', hr, h2, h3, _, h5⟩ := run_append_own_at (P := Tryz.prog) w 0 31 ty 5 i0 (.int .u8 0) 1 1 Tryz.underlying31 hi hz0 hz1 hz2 rfl (by omega) v n ys hown ad m c (vals xs) (by rw [vals_len, hm, Nat.mul_one]) (by rw [h0]; intro j u hj; simp [vals] at hj) (vals_one xs) (by unfold maxLen; omega) (by omega) (Nat.zero_le _)
      obtain ⟨a', c', rfl, _, _⟩ := owns_form h2
      exact ⟨a', c', w', hr, h2, h3, h5.imp id (fun e => ⟨_, e, Nat.le_refl _⟩)⟩
  · exact go g o ⟨hb.small, Or.inr ⟨g, o, rfl, hg, hc⟩⟩
theorem wpList_app_run {w : World} {ops : Array Oper} {rest : List Oper} {o : Oper} {a : Act} {Q : Exit → Act → World → Prop} (hgd : o.guard = none) (s x : Operand) (t tn : TypeId)
    (ho : o.op = .call { callee := .builtin .append, args := #[s, x], argTypes := #[t, tn] }) (v1 v2 v' : Value) (w' : World) (hs : a.eval s = v1) (hx : a.eval x = v2)
    (hr : (Builtin.append_ #[t, tn] o.type #[v1, v2]).run Tryz.prog w = .ok v' w') (h : wpList Tryz.prog ops Q rest (a.put o.dst v') w') : wpList Tryz.prog ops Q (o :: rest) a w := by
  refine wpList_plain hgd fun K hK => ?_
  unfold Oper.wp execOp
  simp only [ho, resolve, invoke, builtin, Sem.run_bind, Sem.run_pure, Result.andThen_ok, List.map_toArray, List.map_cons, List.map_nil, hs, hx, hr]
  exact hK _ _ h
set_option maxRecDepth 100000 in
set_option maxHeartbeats 400000 in
theorem copy_any (w : World) (sp : Option Addr) (m cap : Nat) (xs : List Nat) (hm : xs.length = m) (hx : Bytes w sp xs) (hlen : m ≤ 140737488355328) :
    Calls Tryz.prog 57 #[.slice sp m cap] w fun e w' => ∃ a c, e = .returned (.slice a m c) ∧ w'.ownsRow w.heap.size 5 1 (.slice a m c) m (vals xs) ∧ Below w.heap.size w w' := by
  obtain ⟨a', c', w1, hr, ho, hg, hl⟩ := run_app_bytes (w := w) (v := .slice none 0 0) (n := 0) (ys := []) ⟨rfl, Or.inl ⟨rfl, rfl⟩⟩ (c := cap) hm hx (by omega) 31
  simp only [Nat.zero_add, List.nil_append] at hr ho hl
  have HO : Hid (w1.ownsRow w.heap.size 5 1 (.slice a' m c') m (vals xs)) := by
    refine ⟨ho.1, ho.2.imp id ?_⟩
    rintro ⟨g, cap, cur, h1, _, r⟩
    refine ⟨g, cap, cur, h1, ?_, r⟩
    cases h1
    rcases hl with e | ⟨g2, e, e2⟩
    · simp [Value.ownBlock] at e
    · simp [Value.ownBlock] at e; omega
  have HB : Hid (Below w.heap.size w w1) := (Below.refl _ _).grown hg (Nat.le_refl _) (fun k e => by simp [Value.ownBlock] at e)
  clear ho hg hl hx
  go_enter Tryz.func57, Tryz.ntmps57
  go_wp2_with (at_builtin; refine wpList_app_run rfl (.tmp 4) (.tmp 5) 31 31 rfl (.slice none 0 0) (.slice sp m cap) _ _ rfl rfl hr ?_)
  go_wp2
  go_ret
  exact ⟨a', c', rfl, HO.out, HB.out⟩
theorem ext_getD {xs ys : List Nat} (h : xs.length = ys.length) (he : ∀ j, j < xs.length → xs.getD j 0 = ys.getD j 0) : xs = ys := by
  apply List.ext_getElem h
  intro j h1 h2
  have := he j h1
  simpa [List.getD, h1, h2] using this
set_option maxRecDepth 100000 in
set_option maxHeartbeats 400000 in
theorem eq_dec (w : World) (sp sq : Option Addr) (n m c1 c2 : Nat) (xs ys : List Nat) (hl : xs.length = n) (hm : ys.length = m) (hn : n ≤ 140737488355328) (hn2 : m ≤ 140737488355328) (h1 : Bytes w sp xs) (h2 : Bytes w sq ys) :
    Calls Tryz.prog 49 #[.slice sp n c1, .slice sq m c2] w fun e w' => ∃ r, e = .returned (.bool r) ∧ (r = true ↔ xs = ys) ∧ ∃ q, w' = w.drewN q := by
  by_cases hnm : n = m
  · subst hnm
    by_cases h0 : n = 0
    · subst h0
      have hx : xs = [] := List.eq_nil_of_length_eq_zero hl
      have hy : ys = [] := List.eq_nil_of_length_eq_zero hm
      go_enter Tryz.func49, Tryz.ntmps49
      go_wp2
      refine wp_loop_rounds 1 ?_
      rw [rounds_succ]
      go_wp2
      go_ret
      exact ⟨true, rfl, by simp [hx, hy], 0, rfl⟩
    · obtain ⟨g, o, rfl, hg, hc⟩ : ∃ g o, sp = some ⟨g, o, none⟩ ∧ g < w.heap.size ∧ ∀ j, j < xs.length → w.cell? ⟨g, o + j, none⟩ = some (.int .u8 (xs.getD j 0)) := by
        rcases h1.lie with h | h
        · subst h; simp at hl; omega
        · exact h
      obtain ⟨g', o', rfl, hg', hc'⟩ : ∃ g o, sq = some ⟨g, o, none⟩ ∧ g < w.heap.size ∧ ∀ j, j < ys.length → w.cell? ⟨g, o + j, none⟩ = some (.int .u8 (ys.getD j 0)) := by
        rcases h2.lie with h | h
        · subst h; simp at hm; omega
        · exact h
      rw [hl] at hc
      rw [hm] at hc'
      have HC := hide hc
      have HC' := hide hc'
      have HL : Hid (xs.length = n ∧ ys.length = n) := ⟨hl, hm⟩
      clear hc hc' h1 h2 hl hm
      go_enter Tryz.func49, Tryz.ntmps49
      go_wp2
      go_loopw [5] (fun i wr => ∃ k q : Nat, k ≤ n ∧ i = .int .i64 k ∧ Hid (wr = w.drewN q) ∧ Hid (∀ j, j < k → xs.getD j 0 = ys.getD j 0)) (fun i _ => n - (intOf i).toNat)
      case atStart => exact ⟨0, 0, Nat.zero_le _, rfl, rfl, fun j hj => by omega⟩
      case round =>
        obtain ⟨k, q, hk, rfl, HW, HA⟩ := hrel
        by_cases hlt : k < n
        · have d1 : wr.cell? ⟨g, o + k, none⟩ = some (.int .u8 (xs.getD k 0)) := by rw [HW.out]; exact HC.out k hlt
          have d2 : wr.cell? ⟨g', o' + k, none⟩ = some (.int .u8 (ys.getD k 0)) := by rw [HW.out]; exact HC'.out k hlt
          have i1 : (0 : Int) ≤ (k : Int) := by omega
          have i2 : (k : Int) < (n : Int) := by omega
          have HE : Hid (xs = ys → xs.getD k 0 = ys.getD k 0) := fun e => by rw [e]
          have HA2 : Hid (xs.getD k 0 = ys.getD k 0 → ∀ j, j < k + 1 → xs.getD j 0 = ys.getD j 0) := fun h j hj => by
            by_cases e : j = k
            · subst e; exact h
            · exact HA.out j (by omega)
          generalize xs.getD k 0 = x at *
          generalize ys.getD k 0 = y at *
          by_cases hxy : x = y
          · subst hxy
            have HA3 := hide (HA2.out rfl)
            clear HA2 HE
            go_wp2
            go_quiet (fail)
            go_wp2
            go_roundw
            case rel => exact ⟨k + 1, q + nq, by omega, by go_num, by show _ = _; rw [HW.out, World.drewN_drewN], HA3⟩
            case measure => simp [intOf]; omega
          · have hb : ((x : Int) != (y : Int)) = true := by simp; omega
            have HX := hide hxy
            clear hxy
            go_wp2
            go_quiet (fail)
            go_wp2
            go_ret
            exact ⟨false, rfl, ⟨fun e => (by cases e), fun e => absurd (HE.out e) HX.out⟩, q + nq, by rw [HW.out, World.drewN_drewN]⟩
        · obtain rfl : k = n := by omega
          have HY : Hid (xs = ys) := ext_getD (by rw [HL.out.1, HL.out.2]) (fun j hj => HA.out j (by rw [HL.out.1] at hj; exact hj))
          go_wp2
          go_ret
          exact ⟨true, rfl, ⟨fun _ => HY.out, fun _ => rfl⟩, q, HW.out⟩
  · have hb : ((n : Int) != (m : Int)) = true := by simp; omega
    have HX : Hid (xs ≠ ys) := fun e => hnm (by rw [← hl, ← hm, e])
    clear h1 h2 hl hm hnm
    go_enter Tryz.func49, Tryz.ntmps49
    go_wp2
    go_ret
    exact ⟨false, rfl, ⟨fun e => (by cases e), fun e => absurd e HX.out⟩, 0, rfl⟩
theorem eq_val (w : World) (sp sq : Option Addr) (n m c1 c2 : Nat) (xs ys : List Nat) (hl : xs.length = n) (hm : ys.length = m) (hn : n ≤ 140737488355328) (hn2 : m ≤ 140737488355328) (h1 : Bytes w sp xs) (h2 : Bytes w sq ys) :
    Calls Tryz.prog 49 #[.slice sp n c1, .slice sq m c2] w fun e w' => e = .returned (.bool (decide (xs = ys))) ∧ ∃ q, w' = w.drewN q :=
  (eq_dec w sp sq n m c1 c2 xs ys hl hm hn hn2 h1 h2).mono fun e w' ⟨r, e1, e2, e3⟩ => ⟨by rw [e1]; congr 2; cases r <;> simp_all, e3⟩
theorem decB_gen (xs : List Nat) (hn : xs.length ≤ 2112) : (okB xs → decB xs = some (frOf xs)) ∧ (¬ okB xs → decB xs = none) := by
  unfold decB
  exact ⟨fun h => if_pos ⟨hn, h⟩, fun h => if_neg (fun h' => h h'.2)⟩
def DecPost (w : World) (xs : List Nat) (e : Ending) (w' : World) : Prop :=
  (∃ f sq, decB xs = some f ∧ e = .returned (.tuple #[frV f sq f.body.length, .bool true]) ∧ C.Mine w.heap.size w' sq f.body ∧ Below w.heap.size w w') ∨
  (decB xs = none ∧ e = .returned (.tuple #[frV fr0 none 0, .bool false]) ∧ Below w.heap.size w w')
set_option maxRecDepth 100000 in
set_option maxHeartbeats 1000000 in
theorem dec_long (w : World) (sp : Option Addr) (n cap : Nat) (hn : 2112 < n) :
    Calls Tryz.prog 17 #[.slice sp n cap] w fun e w' => e = .returned (.tuple #[frV fr0 none 0, .bool false]) ∧ Below w.heap.size w w' := by
  have h12 : (2112 : Int) < (n : Int) := by omega
  go_enter Tryz.func17, Tryz.ntmps17
  go_wp2
  refine bodyPost_ret (results_row_tmp rfl _ _ w.heap.size 33 _ (0, 0) _ rfl (heap_alloc_new _ _) Tryz.underlying33 rfl (by kernel_rfl)) rfl ?_
  exact ⟨rfl, (Below.refl _ _).alloc (Nat.le_refl _) _⟩
theorem dec_any (w : World) (sp : Option Addr) (n cap : Nat) (xs : List Nat) (hl : xs.length = n) (hcap : n ≤ cap) (hc : cap ≤ 9223372036854775807) (hx : Bytes w sp xs) (hT : C.Tab w) :
    Calls Tryz.prog 17 #[.slice sp n cap] w (DecPost w xs) := by
  by_cases hn : n ≤ 2112
  · have hg := decB_gen xs (by omega)
    have e1 : q1 xs = C.rNext 0 0 xs 0 0 := by unfold q1; rfl
    have e2 : q2 xs = C.rNext 0 0 xs (q1 xs).2.1 (q1 xs).2.2 := by unfold q2; rfl
    have e3 : q3 xs = C.rNext 3 1099511627776 xs (q2 xs).2.1 (q2 xs).2.2 := by unfold q3; rfl
    have e4 : q4 xs = C.rNext 3 1099511627776 xs (q3 xs).2.1 (q3 xs).2.2 := by unfold q4; rfl
    have e5 : q5 xs = C.rNext 3 1099511627776 xs (q4 xs).2.1 (q4 xs).2.2 := by unfold q5; rfl
    have e6 : q6 xs = C.rNext 3 1099511627776 xs (q5 xs).2.1 (q5 xs).2.2 := by unfold q6; rfl
    have e7 : q7 xs = C.rText 2048 xs (q6 xs).2.1 (q6 xs).2.2 := by unfold q7; rfl
    have e8 : q8 xs = C.rNext 1 0 xs (q7 xs).2.1 (q7 xs).2.2 := by unfold q8; rfl
    have ef : frOf xs = ⟨(q1 xs).1.num, (q2 xs).1.num, (q3 xs).1.num, (q4 xs).1.num, (q5 xs).1.num, (q6 xs).1.num, C.got xs (q6 xs).2.1 (q7 xs)⟩ := by unfold frOf; rfl
    have eo : decide (okB xs) = decide ((q8 xs).1.num = C.sumOf (xs.take (q7 xs).2.1) ∧ C.pEnd xs.length (q8 xs).2.1 (q8 xs).2.2 = 0 ∧ (frOf xs).fit) := decide_eq_decide.2 (by unfold okB; exact Iff.rfl)
    refine (dec_go w sp n cap xs hl hcap hc hn hx hT (q1 xs) (q2 xs) (q3 xs) (q4 xs) (q5 xs) (q6 xs) (q7 xs) (q8 xs) e1 e2 e3 e4 e5 e6 e7 e8 (frOf xs) ef (decide (okB xs)) eo).mono ?_
    clear e1 e2 e3 e4 e5 e6 e7 e8 ef eo
    generalize frOf xs = f at *
    rintro e w' ⟨sq, he, hm, hb⟩
    by_cases ho : okB xs
    · rw [decide_eq_true ho] at he
      exact Or.inl ⟨f, sq, hg.1 ho, he, hm, hb⟩
    · rw [decide_eq_false ho] at he
      exact Or.inr ⟨hg.2 ho, he, hb⟩
  · refine (dec_long w sp n cap (by omega)).mono ?_
    rintro e w' ⟨he, hb⟩
    exact Or.inr ⟨by unfold decB; rw [if_neg (fun h => by omega)], he, hb⟩
end Go.Proofs.YtjcdnclfakmbpaaGreatDoor
namespace Go.Proofs.YtjcdnclfakmbpaaGreatDoor
open Go.RowKit
theorem Fr.ext_iff' {f g : Fr} : f = g ↔ f.fr = g.fr ∧ f.tt = g.tt ∧ f.mine = g.mine ∧ f.yours = g.yours ∧ f.seq = g.seq ∧ f.ack = g.ack ∧ f.body = g.body :=
  ⟨fun h => by subst h; exact ⟨rfl, rfl, rfl, rfl, rfl, rfl, rfl⟩, fun ⟨h1, h2, h3, h4, h5, h6, h7⟩ => Fr.ext' h1 h2 h3 h4 h5 h6 h7⟩
set_option maxRecDepth 100000 in
set_option maxHeartbeats 2000000 in
theorem eqfr_any (w : World) (f g : Fr) (sp sq : Option Addr) (c d : Nat) (hf : Bytes w sp f.body) (hg : Bytes w sq g.body) (hfl : f.body.length ≤ 140737488355328) (hgl : g.body.length ≤ 140737488355328) :
    Calls Tryz.prog 18 #[frV f sp c, frV g sq d] w fun e w' => ∃ r, e = .returned (.bool r) ∧ (r = true ↔ f = g) ∧ Below w.heap.size w w' := by
  have HI := hide (Fr.ext_iff' (f := f) (g := g))
  have HV := hide (fun w' h1 h2 => eq_val w' sp sq f.body.length g.body.length c d f.body g.body rfl rfl hfl hgl h1 h2)
  have HBf := hide hf
  have HBg := hide hg
  have HFe := hide (rfl : f.body = f.body)
  clear hf hg
  unfold frV
  obtain ⟨f0, f1, f2, f3, f4, f5, fb⟩ := f
  obtain ⟨g0, g1, g2, g3, g4, g5, gb⟩ := g
  simp only at *
  generalize fb.length = n at *
  generalize gb.length = m at *
  have hB : Below w.heap.size w ((w.alloc (.cells #[.int .i64 f0, .int .i64 f1, .int .u64 (f2 : Int), .int .u64 (f3 : Int), .int .u64 (f4 : Int), .int .u64 (f5 : Int), .slice sp n c] 33)).alloc (.cells #[.int .i64 g0, .int .i64 g1, .int .u64 (g2 : Int), .int .u64 (g3 : Int), .int .u64 (g4 : Int), .int .u64 (g5 : Int), .slice sq m d] 33)) := ((Below.refl _ _).alloc (Nat.le_refl _) _).alloc (by simp) _
  have hk2 := heap_alloc2_new w (.cells #[.int .i64 f0, .int .i64 f1, .int .u64 (f2 : Int), .int .u64 (f3 : Int), .int .u64 (f4 : Int), .int .u64 (f5 : Int), .slice sp n c] 33) (.cells #[.int .i64 g0, .int .i64 g1, .int .u64 (g2 : Int), .int .u64 (g3 : Int), .int .u64 (g4 : Int), .int .u64 (g5 : Int), .slice sq m d] 33)
  have hk1 : ((w.alloc (.cells #[.int .i64 f0, .int .i64 f1, .int .u64 (f2 : Int), .int .u64 (f3 : Int), .int .u64 (f4 : Int), .int .u64 (f5 : Int), .slice sp n c] 33)).alloc (.cells #[.int .i64 g0, .int .i64 g1, .int .u64 (g2 : Int), .int .u64 (g3 : Int), .int .u64 (g4 : Int), .int .u64 (g5 : Int), .slice sq m d] 33)).heap[w.heap.size]? = some (.cells #[.int .i64 f0, .int .i64 f1, .int .u64 (f2 : Int), .int .u64 (f3 : Int), .int .u64 (f4 : Int), .int .u64 (f5 : Int), .slice sp n c] 33 (0, 0)) := by
    rw [Below.heap_alloc _ _ _ (by simp)]; exact heap_alloc_new _ _
  obtain ⟨w2, hw2⟩ : ∃ w2, (w.alloc (.cells #[.int .i64 f0, .int .i64 f1, .int .u64 (f2 : Int), .int .u64 (f3 : Int), .int .u64 (f4 : Int), .int .u64 (f5 : Int), .slice sp n c] 33)).alloc (.cells #[.int .i64 g0, .int .i64 g1, .int .u64 (g2 : Int), .int .u64 (g3 : Int), .int .u64 (g4 : Int), .int .u64 (g5 : Int), .slice sq m d] 33) = w2 := ⟨_, rfl⟩
  rw [hw2] at hB hk1 hk2
  obtain ⟨c0, c1, c2, c3, c4, c5, c6, -⟩ := blk7 hk1
  obtain ⟨d0, d1, d2, d3, d4, d5, d6, -⟩ := blk7 hk2
  have HB := hide hB
  have HW := hide hw2
  clear hB hk1 hk2 hw2
  by_cases h0 : ¬ (f0 = g0)
  · have e0 : (f0 == g0) = false := by simp; omega
    go_enter Tryz.func18, Tryz.ntmps18
    go_upto_region 1 with (fail)
    rw [HW.out]
    go_wp2
    go_ret
    exact ⟨false, rfl, ⟨fun h => (by cases h), fun h => absurd (HI.out.1 h).1 h0⟩, HB.out⟩
  replace h0 := Decidable.not_not.1 h0
  have e0 : (f0 == g0) = true := by simp; omega
  have H0 := hide h0
  clear h0
  by_cases h1 : ¬ (f1 = g1)
  · have e1 : (f1 == g1) = false := by simp; omega
    go_enter Tryz.func18, Tryz.ntmps18
    go_upto_region 1 with (fail)
    rw [HW.out]
    go_wp2
    go_ret
    exact ⟨false, rfl, ⟨fun h => (by cases h), fun h => absurd (HI.out.1 h).2.1 h1⟩, HB.out⟩
  replace h1 := Decidable.not_not.1 h1
  have e1 : (f1 == g1) = true := by simp; omega
  have H1 := hide h1
  clear h1
  by_cases h2 : ¬ (f2 = g2)
  · have e2 : ((f2 : Int) == (g2 : Int)) = false := by simp; omega
    go_enter Tryz.func18, Tryz.ntmps18
    go_upto_region 1 with (fail)
    rw [HW.out]
    go_wp2
    go_ret
    exact ⟨false, rfl, ⟨fun h => (by cases h), fun h => absurd (HI.out.1 h).2.2.1 h2⟩, HB.out⟩
  replace h2 := Decidable.not_not.1 h2
  have e2 : ((f2 : Int) == (g2 : Int)) = true := by simp; omega
  have H2 := hide h2
  clear h2
  by_cases h3 : ¬ (f3 = g3)
  · have e3 : ((f3 : Int) == (g3 : Int)) = false := by simp; omega
    go_enter Tryz.func18, Tryz.ntmps18
    go_upto_region 1 with (fail)
    rw [HW.out]
    go_wp2
    go_ret
    exact ⟨false, rfl, ⟨fun h => (by cases h), fun h => absurd (HI.out.1 h).2.2.2.1 h3⟩, HB.out⟩
  replace h3 := Decidable.not_not.1 h3
  have e3 : ((f3 : Int) == (g3 : Int)) = true := by simp; omega
  have H3 := hide h3
  clear h3
  by_cases h4 : ¬ (f4 = g4)
  · have e4 : ((f4 : Int) == (g4 : Int)) = false := by simp; omega
    go_enter Tryz.func18, Tryz.ntmps18
    go_upto_region 1 with (fail)
    rw [HW.out]
    go_wp2
    go_ret
    exact ⟨false, rfl, ⟨fun h => (by cases h), fun h => absurd (HI.out.1 h).2.2.2.2.1 h4⟩, HB.out⟩
  replace h4 := Decidable.not_not.1 h4
  have e4 : ((f4 : Int) == (g4 : Int)) = true := by simp; omega
  have H4 := hide h4
  clear h4
  by_cases h5 : ¬ (f5 = g5)
  · have e5 : ((f5 : Int) == (g5 : Int)) = false := by simp; omega
    go_enter Tryz.func18, Tryz.ntmps18
    go_upto_region 1 with (fail)
    rw [HW.out]
    go_wp2
    go_ret
    exact ⟨false, rfl, ⟨fun h => (by cases h), fun h => absurd (HI.out.1 h).2.2.2.2.2.1 h5⟩, HB.out⟩
  replace h5 := Decidable.not_not.1 h5
  have e5 : ((f5 : Int) == (g5 : Int)) = true := by simp; omega
  have H5 := hide h5
  clear h5
  have HQ := hide (HV.out w2 (HBf.out.below HB.out) (HBg.out.below HB.out))
  go_enter Tryz.func18, Tryz.ntmps18
  go_upto_region 1 with (fail)
  rw [HW.out]
  go_wp2_with fail
  refine HQ.out.mono ?_
  rintro e w3 ⟨rfl, q, rfl⟩
  go_wp2
  go_ret
  refine ⟨decide (fb = gb), rfl, ?_, below_drewN HB.out q⟩
  rw [decide_eq_true_iff, HI.out]
  exact ⟨fun h => ⟨H0.out, H1.out, H2.out, H3.out, H4.out, H5.out, h⟩, fun h => h.2.2.2.2.2.2⟩
theorem tmod_into (n m : Int) (hm : 0 < m) : n % m = if n.tmod m < 0 then n.tmod m + m else n.tmod m := by
  have h1 := Int.tmod_lt_of_pos n hm
  have h2 : -m < n.tmod m := Int.lt_tmod_of_pos n hm
  have e : n % m = n.tmod m % m := by rw [Int.tmod_def, Int.sub_mul_emod_self_left]
  split
  · rw [e, ← Int.add_emod_right, Int.emod_eq_of_lt (by omega) (by omega)]
  · rw [e, Int.emod_eq_of_lt (by omega) (by omega)]
set_option maxRecDepth 100000 in
set_option maxHeartbeats 400000 in
theorem within_any (w : World) (n : Int) (m : Nat) (hm : 0 < m) (hb : m ≤ 1125899906842624) :
    Calls Tryz.prog 10 #[.int .i64 n, .int .i64 (m : Int)] w fun r w' => r = .returned (.int .i64 ((n % (m : Int)).toNat : Int)) ∧ w' = w := by
  have m0 : (0 : Int) < (m : Int) := by omega
  have h1 := Int.tmod_lt_of_pos n m0
  have h2 : -(m : Int) < n.tmod (m : Int) := Int.lt_tmod_of_pos n m0
  have h3 := tmod_into n (m : Int) m0
  have h4 := Int.emod_nonneg n (show (m : Int) ≠ 0 by omega)
  have h6 : (((n % (m : Int)).toNat : Nat) : Int) = n % (m : Int) := by omega
  have m1 : ((m : Int) == 0) = false := by simp; omega
  have m2 : (m : Int) ≠ 0 := by omega
  rw [h6]
  by_cases hlt : n.tmod (m : Int) < 0
  · rw [if_pos hlt] at h3
    generalize n % (m : Int) = r at *
    have H3 := hide h3
    clear h3 h6 h4
    go_enter Tryz.func10, Tryz.ntmps10
    go_wp2
    go_ret
    exact ⟨by rw [H3.out]; rfl, rfl⟩
  · rw [if_neg hlt] at h3
    generalize n % (m : Int) = r at *
    have H3 := hide h3
    clear h3 h6 h4
    go_enter Tryz.func10, Tryz.ntmps10
    go_wp2
    go_ret
    exact ⟨by rw [H3.out]; rfl, rfl⟩
end Go.Proofs.YtjcdnclfakmbpaaGreatDoor
namespace Go.Proofs.YtjcdnclfakmbpaaGreatDoor
open Go.RowKit
structure Lk where
  me : Int
  other : Int
  life : Nat
  window : Int
  known : Nat
  row : List (Nat × ByteArray)
  numbered : Nat
  gone : Nat
  handed : Nat
  ack : Bool
  left : Nat
  gap : Nat
  lim : Option Nat
  asked : Bool
  paced : Bool
def bhV : Option Nat → Value
  | none => Value.nilFunc
  | some m => .func (.func 89) #[.int .i64 (m : Int)] #[]
def lkC (L : Lk) (rv : Value) : Array Value := #[.int .i64 L.me, .int .i64 L.other, .int .u64 (L.life : Int), .int .i64 L.window, .int .u64 (L.known : Int), rv, .int .u64 (L.numbered : Int), .int .u64 (L.gone : Int), .int .u64 (L.handed : Int), .bool L.ack, .int .i64 (L.left : Int), .int .i64 (L.gap : Int), bhV L.lim, .bool L.asked, .bool L.paced]
def Lb (w : World) (b : Nat) (L : Lk) (rv : Value) : Prop := w.heap[b]? = some (.cells (lkC L rv) 106 (0, 0))
theorem blk15 {w : World} {b : Nat} {x0 x1 x2 x3 x4 x5 x6 x7 x8 x9 x10 x11 x12 x13 x14 : Value} {t : TypeId} (h : w.heap[b]? = some (.cells #[x0, x1, x2, x3, x4, x5, x6, x7, x8, x9, x10, x11, x12, x13, x14] t (0, 0))) :
    w.cell? ⟨b, 0, none⟩ = some x0 ∧ w.cell? ⟨b, 1, none⟩ = some x1 ∧ w.cell? ⟨b, 2, none⟩ = some x2 ∧ w.cell? ⟨b, 3, none⟩ = some x3 ∧ w.cell? ⟨b, 4, none⟩ = some x4 ∧ w.cell? ⟨b, 5, none⟩ = some x5 ∧ w.cell? ⟨b, 6, none⟩ = some x6 ∧ w.cell? ⟨b, 7, none⟩ = some x7 ∧ w.cell? ⟨b, 8, none⟩ = some x8 ∧ w.cell? ⟨b, 9, none⟩ = some x9 ∧ w.cell? ⟨b, 10, none⟩ = some x10 ∧ w.cell? ⟨b, 11, none⟩ = some x11 ∧ w.cell? ⟨b, 12, none⟩ = some x12 ∧ w.cell? ⟨b, 13, none⟩ = some x13 ∧ w.cell? ⟨b, 14, none⟩ = some x14 ∧ (∀ o, w.frozen? ⟨b, o, none⟩ = false) := by
  simp only [World.cell?, World.frozen?, h]
  exact ⟨rfl, rfl, rfl, rfl, rfl, rfl, rfl, rfl, rfl, rfl, rfl, rfl, rfl, rfl, rfl, fun o => by simp⟩
theorem Lb.kept {w w' : World} {b : Nat} {L : Lk} {rv : Value} (h : Lb w b L rv) (hb : w'.heap[b]? = w.heap[b]?) : Lb w' b L rv := Eq.trans hb h
theorem Lb.below {w w' : World} {b : Nat} {L : Lk} {rv : Value} (h : Lb w b L rv) (hb : Below w.heap.size w w') : Lb w' b L rv := h.kept (hb.block b (C.lt_of_block h))
theorem Lb.set {w : World} {b : Nat} {L : Lk} {rv : Value} (h : Lb w b L rv) (i : Nat) (v : Value) (L' : Lk) (rv' : Value) (he : (lkC L rv).setIfInBounds i v = lkC L' rv') : Lb (w.setCell ⟨b, i, none⟩ v) b L' rv' := by
  unfold Lb at h ⊢
  rw [C.block_set h v, he]
structure Onl (b : Nat) (w w' : World) : Prop where
  os : w'.os = w.os
  tape : w'.tape = w.tape
  output : w'.output = w.output
  size : w'.heap.size = w.heap.size
  block : ∀ c, c ≠ b → w'.heap[c]? = w.heap[c]?
theorem Onl.refl (b : Nat) (w : World) : Onl b w w := ⟨rfl, rfl, rfl, rfl, fun _ _ => rfl⟩
theorem Onl.trans {b : Nat} {w w1 w2 : World} (h : Onl b w w1) (k : Onl b w1 w2) : Onl b w w2 :=
  ⟨k.os.trans h.os, k.tape.trans h.tape, k.output.trans h.output, k.size.trans h.size, fun c hc => (k.block c hc).trans (h.block c hc)⟩
theorem Onl.set {b : Nat} {w w1 : World} (h : Onl b w w1) (i : Nat) (v : Value) : Onl b w (w1.setCell ⟨b, i, none⟩ v) :=
  ⟨h.os, h.tape, h.output, by simpa [World.setCell] using h.size, fun c hc => by rw [Below.heap_setCell _ _ _ _ (by simpa using hc)]; exact h.block c hc⟩
theorem Onl.drew {b : Nat} {w w1 : World} (h : Onl b w w1) : Onl b w w1.drew := ⟨h.os, h.tape, h.output, h.size, h.block⟩
theorem Onl.below {b B : Nat} {W w w' : World} (h : Onl b w w') (hb : Below B W w) (hl : B ≤ b) : Below B W w' :=
  ⟨h.os.trans hb.os, h.tape.trans hb.tape, h.output.trans hb.output, by rw [h.size]; exact hb.size, fun c hc => (h.block c (by omega)).trans (hb.block c hc)⟩
def ltick (L : Lk) : Lk := if 1 < L.left then { L with left := L.left - 1 } else { L with left := L.gap, gap := match L.lim with | none => L.gap | some m => min (2 * L.gap) m }
def lnow (L : Lk) : Bool := decide (L.left ≤ 1)
def lreset (L : Lk) : Lk := { L with left := 0, gap := 1 }
set_option maxRecDepth 100000 in
theorem fn_neq (m : Int) (w : World) : Sem.run Tryz.prog (binOp BinOp.neq 102 (.func (.func 89) #[.int .i64 m] #[]) Value.nilFunc) w = .ok (.bool true) w := by first | kernel_rfl | rfl | (simp [binOp, go_sem])
set_option maxRecDepth 100000 in
theorem fn_neq0 (w : World) : Sem.run Tryz.prog (binOp BinOp.neq 102 Value.nilFunc Value.nilFunc) w = .ok (.bool false) w := by first | kernel_rfl | rfl | (simp [binOp, go_sem])
structure Lk.Pok (L : Lk) : Prop where
  l : L.left ≤ 64
  g : L.gap ≤ 64
  m : ∀ m, L.lim = some m → m ≤ 64
set_option maxRecDepth 100000 in
theorem behind_any (w : World) (m g : Nat) (_hm : m ≤ 64) (hg : g ≤ 64) :
    Calls Tryz.prog 89 #[.int .i64 (m : Int), .int .i64 (g : Int)] w fun e w' => e = .returned (.int .i64 ((min (2 * g) m : Nat) : Int)) ∧ w' = w := by
  have hm : ((min (2 * g) m : Nat) : Int) = min (2 * (g : Int)) (m : Int) := by omega
  rw [hm]
  generalize hK : min (2 * (g : Int)) (m : Int) = K
  go_enter Tryz.func89, Tryz.ntmps89
  go_wp2
  go_ret
  exact ⟨rfl, rfl⟩
set_option maxRecDepth 100000 in
set_option maxHeartbeats 1000000 in
theorem preset_any (w : World) (b : Nat) (L : Lk) (rv : Value) (h : Lb w b L rv) :
    Calls Tryz.prog 52 #[.pointer (some ⟨b, 10, none⟩)] w fun e w' => e = .returned (.tuple #[]) ∧ Lb w' b (lreset L) rv ∧ Onl b w w' := by
  obtain ⟨-, -, -, -, -, -, -, -, -, -, c10, c11, -, -, -, cf⟩ := blk15 h
  have H := hide h
  clear h
  go_enter Tryz.func52, Tryz.ntmps52
  go_wp2
  go_end0
  exact ⟨rfl, (H.out.set 10 (.int .i64 0) { L with left := 0 } rv rfl).set 11 (.int .i64 1) (lreset L) rv rfl, ((Onl.refl b w).set 10 _).set 11 _⟩
set_option maxRecDepth 100000 in
set_option maxHeartbeats 1000000 in
theorem ptick_any (w : World) (b : Nat) (L : Lk) (rv : Value) (h : Lb w b L rv) (ho : L.Pok) :
    Calls Tryz.prog 36 #[.pointer (some ⟨b, 10, none⟩)] w fun e w' => e = .returned (.bool (lnow L)) ∧ Lb w' b (ltick L) rv ∧ Onl b w w' := by
  obtain ⟨-, -, -, -, -, -, -, -, -, -, c10, c11, c12, -, -, cf⟩ := blk15 h
  have H := hide h
  have hl6 := ho.l
  have hg6 := ho.g
  have hm6 := ho.m
  clear h ho
  by_cases hl : 1 < L.left
  · have E1 : Hid (lnow L = false) := by show _ = _; unfold lnow; exact decide_eq_false (by omega)
    have E2 : Hid (ltick L = { L with left := L.left - 1 }) := by show _ = _; unfold ltick; rw [if_pos hl]
    have E3 : Hid ((L.left : Int) - 1 = ((L.left - 1 : Nat) : Int)) := by show _ = _; omega
    obtain ⟨l, hll⟩ : ∃ l, L.left = l := ⟨_, rfl⟩
    rw [hll] at c10 hl hl6
    have hl1 : (1 : Int) < (l : Int) := by omega
    have HL := hide hll
    clear hll hm6
    go_enter Tryz.func36, Tryz.ntmps36
    go_wp2
    go_ret
    refine ⟨by rw [E1.out]; rfl, ?_, (Onl.refl b w).set 10 _⟩
    rw [E2.out]
    exact H.out.set 10 _ _ rv (by rw [← HL.out, E3.out]; rfl)
  · have E1 : Hid (lnow L = true) := by show _ = _; unfold lnow; exact decide_eq_true (by omega)
    have E2 : Hid (ltick L = { L with left := L.gap, gap := match L.lim with | none => L.gap | some m => min (2 * L.gap) m }) := by show _ = _; unfold ltick; rw [if_neg hl]
    have hl1 : ¬ (1 : Int) < (L.left : Int) := by omega
    cases hlm : L.lim with
    | none =>
      rw [hlm] at c12 E2
      have hn := fn_neq0
      unfold bhV at c12
      have HM := hide hlm
      clear hlm hm6
      go_enter Tryz.func36, Tryz.ntmps36
      go_wp2
      go_ret
      refine ⟨by rw [E1.out]; rfl, ?_, (Onl.refl b w).set 10 _⟩
      rw [E2.out]
      exact H.out.set 10 _ _ rv (by unfold lkC; rw [HM.out]; rfl)
    | some m =>
      rw [hlm] at c12 E2
      have hm64 := hm6 m hlm
      have hn := fn_neq
      unfold bhV at c12
      have HBh := hide (fun w => behind_any w m L.gap hm64 hg6)
      have HM := hide hlm
      clear hlm hm6
      simp only at E2
      generalize hN : min (2 * L.gap) m = N at *
      have HN := hide hN
      clear hN
      go_enter Tryz.func36, Tryz.ntmps36
      go_wp2_with fail
      go_region_with (go_at_call 89; refine (HBh.out _).mono ?_; rintro e w2 ⟨rfl, rfl⟩)
      all_goals (go_wp2; go_ret; exact ⟨by rw [E1.out]; rfl, by rw [E2.out]; exact (H.out.set 10 _ { L with left := L.gap } rv rfl).set 11 _ _ rv (by unfold lkC; rw [HM.out]; rfl), (((Onl.refl b w).set 10 _).set 11 _).drew⟩)
end Go.Proofs.YtjcdnclfakmbpaaGreatDoor
namespace Go.Proofs.YtjcdnclfakmbpaaGreatDoor.D
open Go.RowKit
structure Pc where
  left : Nat
  gap : Nat
  most : Nat
structure Pc.Ok (P : Pc) : Prop where
  m1 : 1 ≤ P.most
  m2 : P.most ≤ 64
  l : P.left ≤ P.most
  g1 : 1 ≤ P.gap
  g2 : P.gap ≤ P.most
def Pc.tick (P : Pc) : Pc := if 1 < P.left then ⟨P.left - 1, P.gap, P.most⟩ else ⟨P.gap, min (2 * P.gap) P.most, P.most⟩
def Pc.now (P : Pc) : Bool := decide (P.left ≤ 1)
def Pc.new (m : Nat) : Pc := ⟨0, 1, m⟩
theorem Pc.Ok.tick {P : Pc} (h : P.Ok) : P.tick.Ok := by
  obtain ⟨h1, h2, h3, h4, h5⟩ := h
  unfold Pc.tick
  split
  · exact ⟨h1, h2, by show P.left - 1 ≤ P.most; omega, h4, h5⟩
  · exact ⟨h1, h2, h5, by show 1 ≤ min (2 * P.gap) P.most; omega, by show min (2 * P.gap) P.most ≤ P.most; omega⟩
theorem Pc.new_ok {m : Nat} (h1 : 1 ≤ m) (h2 : m ≤ 64) : (Pc.new m).Ok := ⟨h1, h2, Nat.zero_le _, Nat.le_refl _, h1⟩
theorem Pc.tick_most (P : Pc) : P.tick.most = P.most := by unfold Pc.tick; split <;> rfl
def it (m : Nat) : Nat → Pc
  | 0 => .new m
  | n + 1 => (it m n).tick
def cnt (m : Nat) : Nat → Nat
  | 0 => 0
  | n + 1 => cnt m n + if (it m n).now then 1 else 0
theorem it_ok {m : Nat} (h1 : 1 ≤ m) (h2 : m ≤ 64) : ∀ n, (it m n).Ok
  | 0 => Pc.new_ok h1 h2
  | n + 1 => (it_ok h1 h2 n).tick
theorem it_most (m : Nat) : ∀ n, (it m n).most = m
  | 0 => rfl
  | n + 1 => (Pc.tick_most _).trans (it_most m n)
theorem run_on {m a l g : Nat} (hg : 1 ≤ g) (hd : it m a = ⟨l, g, m⟩) (hl : l ≤ 1) : ∀ j, j < g → it m (a + 1 + j) = ⟨g - j, min (2 * g) m, m⟩ ∧ cnt m (a + 1 + j) = cnt m a + 1
  | 0, _ => by
    refine ⟨?_, ?_⟩
    · show (it m a).tick = _
      rw [hd]; unfold Pc.tick; rw [if_neg (by show ¬ 1 < l; omega)]; rfl
    · show cnt m a + (if (it m a).now then 1 else 0) = _
      rw [hd]; unfold Pc.now; simp [hl]
  | j + 1, h => by
    obtain ⟨e1, e2⟩ := run_on hg hd hl j (by omega)
    refine ⟨?_, ?_⟩
    · show (it m (a + 1 + j)).tick = _
      rw [e1]; unfold Pc.tick; rw [if_pos (by show 1 < g - j; omega)]
      show Pc.mk (g - j - 1) _ _ = _
      congr 1
    · show cnt m (a + 1 + j) + (if (it m (a + 1 + j)).now then 1 else 0) = _
      rw [e2, e1]; unfold Pc.now
      rw [if_neg (by simp; omega)]
structure Tm (m n k at' gap : Nat) : Prop where
  g1 : 1 ≤ gap
  g2 : gap ≤ m
  le : at' ≤ n + 64
  is : (k = 0 ∧ at' = 1 ∧ gap = 1) ∨ ∃ a g, at' = a + g ∧ 1 ≤ a ∧ 1 ≤ g ∧ a ≤ n ∧ ∀ j, j < g → it m (a + j) = ⟨g - j, gap, m⟩ ∧ cnt m (a + j) = k
theorem Tm.start {m n : Nat} (h : 1 ≤ m) : Tm m n 0 1 1 := ⟨Nat.le_refl _, h, by omega, Or.inl ⟨rfl, rfl, rfl⟩⟩
theorem Tm.next {m n k at' gap : Nat} (h : Tm m n k at' gap) (hm : m ≤ 64) (hle : at' ≤ n) : Tm m n (k + 1) (at' + gap) (min (2 * gap) m) := by
  obtain ⟨h1, h2, h3, h4⟩ := h
  refine ⟨by omega, by omega, by omega, Or.inr ⟨at', gap, rfl, ?_, h1, hle, ?_⟩⟩
  · rcases h4 with ⟨_, e, _⟩ | ⟨a, g, e, e1, _⟩ <;> omega
  · rcases h4 with ⟨rfl, rfl, rfl⟩ | ⟨a, g, rfl, e1, e2, _, e4⟩
    · intro j hj
      have := run_on (m := m) (a := 0) (l := 0) (g := 1) (by omega) rfl (by omega) j hj
      simpa [cnt] using this
    · obtain ⟨d1, d2⟩ := e4 (g - 1) (by omega)
      intro j hj
      have := run_on (m := m) (a := a + (g - 1)) (l := g - (g - 1)) (g := gap) h1 d1 (by omega) j hj
      rw [d2, show a + (g - 1) + 1 + j = a + g + j by omega] at this
      exact this
def atOf (m n : Nat) : Nat := if n = 0 then 1 else n + (it m n).left
theorem Tm.done {m n k at' gap : Nat} (h : Tm m n k at' gap) (hlt : n < at') : k = cnt m n ∧ at' = atOf m n := by
  obtain ⟨_, _, _, h4⟩ := h
  unfold atOf
  rcases h4 with ⟨rfl, rfl, _⟩ | ⟨a, g, rfl, e1, e2, e3, e4⟩
  · obtain rfl : n = 0 := by omega
    exact ⟨rfl, rfl⟩
  · obtain ⟨d1, d2⟩ := e4 (n - a) (by omega)
    rw [show a + (n - a) = n by omega] at d1 d2
    rw [if_neg (by omega), d1]
    exact ⟨d2.symm, by show a + g = n + (g - (n - a)); omega⟩
set_option maxRecDepth 100000 in
theorem Times_any (w : World) (m n : Nat) (h1 : 1 ≤ m) (h2 : m ≤ 64) (hn : n ≤ 1000000) :
    Calls Tryz.prog 135 #[.int .i64 (m : Int), .int .i64 (n : Int)] w fun e w' => e = .returned (.tuple #[.int .i64 (cnt m n : Int), .int .i64 (atOf m n : Int)]) ∧ w' = w := by
  have HS := hide (Tm.start (n := n) h1)
  go_enter Tryz.func135, Tryz.ntmps135
  go_wp2
  go_loop [6, 7, 8] (fun g a k => ∃ (k' a' g' : Nat), g = .int .i64 (g' : Int) ∧ a = .int .i64 (a' : Int) ∧ k = .int .i64 (k' : Int) ∧ k' ≤ a' ∧ Hid (Tm m n k' a' g')) (fun _ a _ => n + 65 - (intOf a).toNat)
  case atStart => exact ⟨0, 1, 1, rfl, rfl, rfl, by omega, HS⟩
  case round =>
    obtain ⟨k, a, g, rfl, rfl, rfl, hk, HT⟩ := hrel
    have b1 := HT.out.g1
    have b2 := HT.out.g2
    have b3 := HT.out.le
    by_cases hlt : a ≤ n
    · have HN := hide (HT.out.next h2 hlt)
      by_cases hd : m < 2 * g
      · have hmin : Hid (min (2 * g) m = m) := by show _ = _; omega
        go_wp2
        go_round
        case rel => exact ⟨k + 1, a + g, m, rfl, by go_num, by go_num, by omega, by have h := HN.out; rw [hmin.out] at h; exact h⟩
        case measure => simp [intOf]; omega
      · have hmin : Hid (min (2 * g) m = 2 * g) := by show _ = _; omega
        go_wp2
        go_round
        case rel => exact ⟨k + 1, a + g, 2 * g, by go_num, by go_num, by go_num, by omega, by have h := HN.out; rw [hmin.out] at h; exact h⟩
        case measure => simp [intOf]; omega
    · have HD := hide (HT.out.done (by omega))
      go_wp2
      go_ret2
      exact ⟨by rw [← HD.out.1, ← HD.out.2]; rfl, rfl⟩
end Go.Proofs.YtjcdnclfakmbpaaGreatDoor.D
namespace Go.Proofs.YtjcdnclfakmbpaaGreatDoor
open Go.RowKit
set_option maxRecDepth 100000 in
set_option maxHeartbeats 2000000 in
theorem rfit_go (w : World) (fr tt : Int) (mine yours seq ack n c : Nat) (sp : Option Addr) (r : Bool) (hr : r = decide ((0 ≤ fr ∧ fr ≤ 8) ∧ (0 ≤ tt ∧ tt ≤ 8) ∧ (1 ≤ mine ∧ mine ≤ 1099511627776) ∧ yours ≤ 1099511627776 ∧ seq ≤ 1099511627776 ∧ ack ≤ 1099511627776 ∧ n ≤ 2048 ∧ (seq = 0 → n = 0))) :
    Calls Tryz.prog 100 #[.agg #[.int .i64 fr, .int .i64 tt, .int .u64 (mine : Int), .int .u64 (yours : Int), .int .u64 (seq : Int), .int .u64 (ack : Int), .slice sp n c]] w fun e w' => e = .returned (.bool r) ∧ Below w.heap.size w w' := by
  by_cases c0 : fr < 0
  · have HR : Hid (r = false) := by show _ = _; rw [hr]; exact decide_eq_false (by omega)
    clear hr
    go_enter Tryz.func100, Tryz.ntmps100
    go_wp2
    go_ret
    exact ⟨by rw [HR.out]; try rfl, by first | exact Below.refl _ _ | exact (Below.refl _ _).alloc (Nat.le_refl _) _⟩
  by_cases c1 : 8 < fr
  · have HR : Hid (r = false) := by show _ = _; rw [hr]; exact decide_eq_false (by omega)
    clear hr
    go_enter Tryz.func100, Tryz.ntmps100
    go_wp2
    go_ret
    exact ⟨by rw [HR.out]; try rfl, by first | exact Below.refl _ _ | exact (Below.refl _ _).alloc (Nat.le_refl _) _⟩
  by_cases c2 : tt < 0
  · have HR : Hid (r = false) := by show _ = _; rw [hr]; exact decide_eq_false (by omega)
    clear hr
    go_enter Tryz.func100, Tryz.ntmps100
    go_wp2
    go_ret
    exact ⟨by rw [HR.out]; try rfl, by first | exact Below.refl _ _ | exact (Below.refl _ _).alloc (Nat.le_refl _) _⟩
  by_cases c3 : 8 < tt
  · have HR : Hid (r = false) := by show _ = _; rw [hr]; exact decide_eq_false (by omega)
    clear hr
    go_enter Tryz.func100, Tryz.ntmps100
    go_wp2
    go_ret
    exact ⟨by rw [HR.out]; try rfl, by first | exact Below.refl _ _ | exact (Below.refl _ _).alloc (Nat.le_refl _) _⟩
  by_cases c4 : (mine : Int) < 1
  · have HR : Hid (r = false) := by show _ = _; rw [hr]; exact decide_eq_false (by omega)
    clear hr
    go_enter Tryz.func100, Tryz.ntmps100
    go_wp2
    go_ret
    exact ⟨by rw [HR.out]; try rfl, by first | exact Below.refl _ _ | exact (Below.refl _ _).alloc (Nat.le_refl _) _⟩
  by_cases c5 : (1099511627776 : Int) < (mine : Int)
  · have HR : Hid (r = false) := by show _ = _; rw [hr]; exact decide_eq_false (by omega)
    clear hr
    go_enter Tryz.func100, Tryz.ntmps100
    go_wp2
    go_ret
    exact ⟨by rw [HR.out]; try rfl, by first | exact Below.refl _ _ | exact (Below.refl _ _).alloc (Nat.le_refl _) _⟩
  by_cases c6 : (1099511627776 : Int) < (yours : Int)
  · have HR : Hid (r = false) := by show _ = _; rw [hr]; exact decide_eq_false (by omega)
    clear hr
    go_enter Tryz.func100, Tryz.ntmps100
    go_wp2
    go_ret
    exact ⟨by rw [HR.out]; try rfl, by first | exact Below.refl _ _ | exact (Below.refl _ _).alloc (Nat.le_refl _) _⟩
  by_cases c7 : (1099511627776 : Int) < (seq : Int)
  · have HR : Hid (r = false) := by show _ = _; rw [hr]; exact decide_eq_false (by omega)
    clear hr
    go_enter Tryz.func100, Tryz.ntmps100
    go_wp2
    go_ret
    exact ⟨by rw [HR.out]; try rfl, by first | exact Below.refl _ _ | exact (Below.refl _ _).alloc (Nat.le_refl _) _⟩
  by_cases c8 : (1099511627776 : Int) < (ack : Int)
  · have HR : Hid (r = false) := by show _ = _; rw [hr]; exact decide_eq_false (by omega)
    clear hr
    go_enter Tryz.func100, Tryz.ntmps100
    go_wp2
    go_ret
    exact ⟨by rw [HR.out]; try rfl, by first | exact Below.refl _ _ | exact (Below.refl _ _).alloc (Nat.le_refl _) _⟩
  have i0 : (0 : Int) ≤ (seq : Int) := by omega
  by_cases d1 : (n : Int) ≤ 2048
  · by_cases d2 : (0 : Int) < (seq : Int)
    · have HR : Hid (r = true) := by show _ = _; rw [hr]; exact decide_eq_true (by omega)
      clear hr
      go_enter Tryz.func100, Tryz.ntmps100
      go_wp2
      go_ret
      exact ⟨by rw [HR.out]; try rfl, by first | exact Below.refl _ _ | exact (Below.refl _ _).alloc (Nat.le_refl _) _⟩
    · by_cases d3 : n = 0
      · have HR : Hid (r = true) := by show _ = _; rw [hr]; exact decide_eq_true (by omega)
        subst d3
        clear hr d1
        go_enter Tryz.func100, Tryz.ntmps100
        go_wp2
        go_ret
        exact ⟨by rw [HR.out]; try rfl, by first | exact Below.refl _ _ | exact (Below.refl _ _).alloc (Nat.le_refl _) _⟩
      · have HR : Hid (r = false) := by show _ = _; rw [hr]; exact decide_eq_false (by omega)
        have hz : ((n : Int) == 0) = false := by simpa using d3
        clear hr d3
        go_enter Tryz.func100, Tryz.ntmps100
        go_wp2
        go_ret
        exact ⟨by rw [HR.out]; try rfl, by first | exact Below.refl _ _ | exact (Below.refl _ _).alloc (Nat.le_refl _) _⟩
  · have HR : Hid (r = false) := by show _ = _; rw [hr]; exact decide_eq_false (by omega)
    clear hr
    go_enter Tryz.func100, Tryz.ntmps100
    go_wp2
    go_ret
    exact ⟨by rw [HR.out]; try rfl, by first | exact Below.refl _ _ | exact (Below.refl _ _).alloc (Nat.le_refl _) _⟩
theorem rfit_any (w : World) (f : Fr) (sp : Option Addr) (c : Nat) : Calls Tryz.prog 100 #[frV f sp c] w fun e w' => e = .returned (.bool (decide f.fit)) ∧ Below w.heap.size w w' :=
  rfit_go w f.fr f.tt f.mine f.yours f.seq f.ack f.body.length c sp (decide f.fit) (decide_eq_decide.2 (by unfold Fr.fit; exact Iff.rfl))
end Go.Proofs.YtjcdnclfakmbpaaGreatDoor
