import Derived.Test.YtolegbngjhfdlabDoorQuoP
import Derived.Test.YtolegbngjhfdlabDoorFoldQ
import Derived.Deep.AppendLies
import Derived.OwnWalk
import Derived.Laws.OwnMore
import Derived.Laws.BytesString
namespace Go.Proofs.YtolegbngjhfdlabDoor
open Go.RowKit

theorem Tryd.infoB : (Tryd.prog.info? 5).map (fun i => (i.zero, i.size, i.bytes)) = some (some (.int .u8 0), 1, 1) := by kernel_rfl

def bys (l : List Nat) : List Value := l.map fun (x : Nat) => Value.int .u8 (x : Int)

/-- A row of bytes of the call's own, as a text. -/
theorem own_back (W : World) (base g n c : Nat) (l : List Nat) (h : W.ownsRow base 5 1 (.slice (some ⟨g, 0, none⟩) n c) n (bys l)) (hl : l.length = n) (hf : ∀ x ∈ l, x < 256) :
    ∃ t, (convert 40 9 (.slice (some ⟨g, 0, none⟩) n c)).run Tryd.prog W = .ok (.string t) W ∧ nums t = l := by
  subst hl
  refine ⟨⟨(l.map UInt8.ofNat).toArray⟩, ?_, ?_⟩
  · have := run_convert_bytes_back (P := Tryd.prog) W 40 9 5 ⟨g, 0, none⟩ c (l.map UInt8.ofNat) Tryd.underlying40 Tryd.underlying5 Tryd.underlying9 (fun j hj => by
      have hj' : j < l.length := by simpa using hj
      have hx := hf _ (List.getElem_mem hj')
      have e : (UInt8.ofNat l[j]).toNat = l[j] := by simp; omega
      refine h.cells rfl j _ ?_
      simp [bys, List.getElem?_eq_getElem hj', e])
    rw [List.length_map] at this
    exact this
  · simp only [nums, List.map_map]
    conv => rhs; rw [← List.map_id l]
    apply List.map_congr_left
    intro x hx
    have := hf x hx
    simp; omega

theorem own_none {W : World} {base n c : Nat} {l : List Nat} (h : W.ownsRow base 5 1 (.slice none n c) n (bys l)) : n = 0 ∧ c = 0 := by
  rcases h.2 with ⟨e, h0⟩ | ⟨g, cap, cur, e, _⟩
  · cases e; exact ⟨rfl, rfl⟩
  · cases e
theorem own_some {W : World} {base n c : Nat} {a : Addr} {l : List Nat} (h : W.ownsRow base 5 1 (.slice (some a) n c) n (bys l)) : ∃ g, a = ⟨g, 0, none⟩ := by
  rcases h.2 with ⟨e, h0⟩ | ⟨g, cap, cur, e, _⟩
  · cases e
  · cases e; exact ⟨g, rfl⟩
theorem own_ge {W : World} {base : Nat} {v : Value} {n : Nat} {l : List Value} (h : W.ownsRow base 5 1 v n l) : ∀ k, v.ownBlock = some k → base ≤ k := fun k e => (h.lt k e).1

theorem news_one (W : World) (v : Value) (t : TypeId) : ∀ j u, [v][j]? = some u → (W.alloc (.cells #[v] t)).cell? ((⟨W.heap.size, 0, none⟩ : Addr).add j) = some u := fun j u h => by
  match j, h with
  | 0, h =>
    simp only [List.getElem?_cons_zero, Option.some.injEq] at h
    subst h
    have h := World.alloc_heap_new W (.cells #[v] t)
    rw [Lib.add_plain, Nat.zero_add]
    unfold World.cell?; simp only [h]; rfl
  | j + 1, h => simp at h

/-- One byte behind a row of the call's own. -/
theorem app_byte {W w0 : World} {ops : Array Oper} {rest : List Oper} {o : Oper} {a : Act} {Q : Exit → Act → World → Prop} (hgd : o.guard = none) (s x : Operand)
    (ho : o.op = .call { callee := .builtin .append, args := #[s, x], argTypes := #[40, 40] }) (base n : Nat) (p : Option Addr) (c : Nat) (l : List Nat) (y : Nat)
    (hs : a.eval s = .slice p n c) (hO : W.ownsRow base 5 1 (.slice p n c) n (bys l)) (hx : a.eval x = .slice (some ⟨W.heap.size, 0, none⟩) 1 1) (hn : n ≤ 1000000) (hB : Below base w0 W) (hle : base ≤ W.heap.size)
    (h : ∀ g cap w', w'.ownsRow base 5 1 (.slice (some ⟨g, 0, none⟩) (n + 1) cap) (n + 1) (bys (l ++ [y])) → Below base w0 w' → wpList Tryd.prog ops Q rest (a.put o.dst (.slice (some ⟨g, 0, none⟩) (n + 1) cap)) w') :
    wpList Tryd.prog ops Q (o :: rest) a (W.alloc (.cells #[.int .u8 (y : Int)] 5)) := by
  obtain ⟨i0, hi, hz0, hz1, hz2⟩ := info_parts Tryd.infoB
  refine wpList_append_lies _ hgd s x 40 ho base 5 i0 (.int .u8 0) 1 1 Tryd.underlying40 hi hz0 hz1 hz2 rfl (by omega) _ n _ hs (hO.alloc _) ⟨W.heap.size, 0, none⟩ 1 1 [.int .u8 (y : Int)] hx rfl (news_one W _ _) (by simp [Value.oneCell']) (by omega) (by unfold maxLen; omega) (by omega) (by simp; omega) _ rfl ?_
  intro g' c' w5 hown hgrow _ _
  refine h g' c' w5 ?_ ?_
  · rw [bys, List.map_append]; exact hown
  · exact (hB.alloc hle _).grown hgrow (by simp; omega) (own_ge hO)

theorem nil_back (W : World) : (convert 40 9 (.slice none 0 0)).run Tryd.prog W = .ok (.string ⟨#[]⟩) W := by
  rw [run_convert_bytes_string W 40 9 5 none 0 0 Tryd.underlying40 Tryd.underlying5 Tryd.underlying9]; rfl

theorem within_any (w : World) (n : Int) (_h0 : -9223372036854775808 ≤ n) (_h1 : n ≤ 9223372036854775807) :
    Calls Tryd.prog 6 #[.int .i64 n, .int .i64 3] w fun e w' => (∃ r : Nat, r ≤ 2 ∧ e = .returned (.int .i64 (r : Int))) ∧ w' = w := by
  obtain ⟨t, ht⟩ : ∃ t, n.tmod 3 = t := ⟨_, rfl⟩
  have hb : -3 < t ∧ t < 3 := by
    rw [← ht]
    have := Int.tmod_lt_of_pos n (b := 3) (by omega)
    have h2 := Int.neg_tmod n 3
    have h3 := Int.tmod_lt_of_pos (-n) (b := 3) (by omega)
    omega
  obtain ⟨b1, b2⟩ := hb
  obtain ⟨r, hr⟩ : ∃ r : Nat, (t + 3) % 3 = (r : Int) := ⟨((t + 3) % 3).toNat, by omega⟩
  have hr2 : r ≤ 2 := by omega
  have b3 : (0 : Int) ≤ t + 3 := by omega
  go_enter Tryd.func6, Tryd.ntmps6
  go_wp2
  go_ret
  exact ⟨⟨r, hr2, ret_int hr⟩, rfl⟩

set_option maxRecDepth 100000 in
set_option maxHeartbeats 1000000 in
theorem may_any (w : World) (s : ByteArray) (hs : s.size ≤ 140737488355328) :
    Calls Tryd.prog 5 #[.string s] w fun e w' => (∃ t, e = .returned (.string t) ∧ (∀ x ∈ nums t, may1 x) ∧ t.size ≤ 40) ∧ Below w.heap.size w w' := by
  go_enter Tryd.func5, Tryd.ntmps5
  go_wp2
  go_loopw [3, 4] (fun b i wr => ∃ (k : Nat) (p : Option Addr) (c : Nat) (l : List Nat) (n : Nat), n ≤ 40 ∧ k ≤ s.size ∧ b = .slice p n c ∧ i = .int .i64 (k : Int) ∧ Hid (l.length = n) ∧ Hid (wr.ownsRow w.heap.size 5 1 (.slice p n c) n (bys l)) ∧ Hid (∀ x ∈ l, may1 x) ∧ Hid (Below w.heap.size w wr)) (fun _ i _ => s.size - (intOf i).toNat)
  case atStart => exact ⟨0, none, 0, [], 0, by omega, Nat.zero_le _, rfl, rfl, hide rfl, World.ownsRow_nil _ _ _ _, hide (by simp), hide (Below.refl _ _)⟩
  case round =>
    obtain ⟨k, p, c, l, n, hn, hk, rfl, rfl, HL, HO, HM, HB⟩ := hrel
    by_cases hgo : k < s.size ∧ n < 40
    · obtain ⟨hlt, hn4⟩ := hgo
      have u1 : (k : Int) < (s.size : Int) := by omega
      have u2 : (0 : Int) ≤ (k : Int) := by omega
      have u3 : (n : Int) < 40 := by omega
      obtain ⟨x, hx⟩ : ∃ x, (s[k]'hlt).toNat = x := ⟨_, rfl⟩
      by_cases h32 : 32 ≤ x
      · have y1 : (32 : Int) ≤ (x : Int) := by omega
        by_cases h127 : x < 127
        · have y2 : (x : Int) < 127 := by omega
          go_wp2_with (at_builtin; refine app_byte rfl _ _ rfl w.heap.size n p c l x rfl HO.out rfl (by omega) HB.out HB.out.size ?_; intro g' c' w5 ho hb; have HO2 := hide ho; have HB2 := hide hb; clear ho hb)
          go_roundw
          case rel => exact ⟨k + 1, some ⟨g', 0, none⟩, c', l ++ [x], n + 1, by omega, by omega, rfl, by go_num, hide (by simp [HL.out]), HO2, hide (fun y hy => by
            rcases List.mem_append.1 hy with h | h
            · exact HM.out y h
            · rw [List.mem_singleton] at h; rw [h]; exact ⟨h32, h127⟩), HB2⟩
          case measure => simp [intOf]; omega
        · have y2 : decide ((x : Int) < 127) = false := decide_eq_false (by omega)
          go_wp2
          go_roundw
          case rel => exact ⟨k + 1, p, c, l, n, hn, by omega, rfl, by go_num, HL, HO, HM, HB⟩
          case measure => simp [intOf]; omega
      · have y1 : decide ((32 : Int) ≤ (x : Int)) = false := decide_eq_false (by omega)
        go_wp2
        go_roundw
        case rel => exact ⟨k + 1, p, c, l, n, hn, by omega, rfl, by go_num, HL, HO, HM, HB⟩
        case measure => simp [intOf]; omega
    · have hx : (decide ((k : Int) < (s.size : Int)) = false ∧ decide (k < s.size) = false) ∨ ((k : Int) < (s.size : Int) ∧ k < s.size ∧ decide ((n : Int) < 40) = false ∧ decide (n < 40) = false) := by
        by_cases h : k < s.size
        · exact .inr ⟨by omega, h, decide_eq_false (by omega), decide_eq_false (by omega)⟩
        · exact .inl ⟨decide_eq_false (by omega), decide_eq_false (by omega)⟩
      clear hgo
      cases p with
      | none =>
        obtain ⟨rfl, rfl⟩ := own_none HO.out
        have hcv := nil_back wr
        rcases hx with ⟨x1, x2⟩ | ⟨x1, x2, x3, x4⟩
        · go_wp2
          go_ret
          exact ⟨⟨_, rfl, by simp [nums], by decide⟩, HB.out⟩
        · simp at x4
      | some a =>
        obtain ⟨g, rfl⟩ := own_some HO.out
        obtain ⟨t, hcv, ht⟩ := own_back wr _ g n c l HO.out HL.out (fun x hx => by have := HM.out x hx; unfold may1 at this; omega)
        have HT2 := hide ht
        have hts : t.size ≤ 40 := by rw [← nums_len, ht, HL.out]; exact hn
        clear ht
        rcases hx with ⟨x1, x2⟩ | ⟨x1, x2, x3, x4⟩
        · go_wp2
          go_ret
          exact ⟨⟨t, rfl, by rw [HT2.out]; exact HM.out, hts⟩, HB.out⟩
        · go_wp2
          go_ret
          exact ⟨⟨t, rfl, by rw [HT2.out]; exact HM.out, hts⟩, HB.out⟩

theorem esc_snoc (l : List Nat) (x : Nat) : esc (l ++ [x]) = esc l ++ (if x = 34 ∨ x = 92 then [92, x] else [x]) := by
  induction l with
  | nil => simp [esc]
  | cons a l ih => simp only [List.cons_append, esc, ih, List.append_assoc]

theorem take_one (s : ByteArray) (k x : Nat) (hk : k < s.size) (hx : (s[k]'hk).toNat = x) : (nums s).take (k + 1) = (nums s).take k ++ [x] := by
  rw [List.take_add_one, nums_at s k hk, hx]; rfl

theorem esc_len : ∀ (l : List Nat), (esc l).length ≤ 2 * l.length
  | [] => by simp [esc]
  | c :: r => by
    have := esc_len r
    simp only [esc, List.length_append, List.length_cons]
    split <;> simp <;> omega
theorem esc_small : ∀ (l : List Nat), (∀ x ∈ l, x < 256) → ∀ x ∈ esc l, x < 256
  | [], _, x, h => by simp [esc] at h
  | c :: r, hl, x, h => by
    have hc := hl c (List.mem_cons_self ..)
    simp only [esc, List.mem_append] at h
    rcases h with h | h
    · split at h
      · simp at h; omega
      · simp at h; omega
    · exact esc_small r (fun y hy => hl y (List.mem_cons_of_mem _ hy)) x h

set_option maxRecDepth 100000 in
set_option maxHeartbeats 1000000 in
theorem quote_any (w : World) (s : ByteArray) (hs : s.size ≤ 40) :
    Calls Tryd.prog 7 #[.string s] w fun e w' => (∃ t, e = .returned (.string t) ∧ nums t = quo (nums s)) ∧ Below w.heap.size w w' := by
  have HO0 : Hid ((w.alloc (.cells #[.int .u8 34] 5)).ownsRow w.heap.size 5 1 (.slice (some ⟨w.heap.size, 0, none⟩) 1 1) 1 (bys [34])) := World.ownsRow_lit w #[.int .u8 34] 1 (Nat.le_refl _) (by unfold maxLen; omega) rfl
  have HB0 : Hid (Below w.heap.size w (w.alloc (.cells #[.int .u8 34] 5))) := (Below.refl _ w).alloc (Nat.le_refl _) _
  go_enter Tryd.func7, Tryd.ntmps7
  go_wp2
  go_loopw [3, 4] (fun b i wr => ∃ (k g c n : Nat) (l : List Nat), n ≤ 1 + 2 * k ∧ k ≤ s.size ∧ b = .slice (some ⟨g, 0, none⟩) n c ∧ i = .int .i64 (k : Int) ∧ Hid (l = 34 :: esc ((nums s).take k)) ∧ Hid (l.length = n) ∧ Hid (wr.ownsRow w.heap.size 5 1 (.slice (some ⟨g, 0, none⟩) n c) n (bys l)) ∧ Hid (Below w.heap.size w wr)) (fun _ i _ => s.size - (intOf i).toNat)
  case atStart => exact ⟨0, w.heap.size, 1, 1, [34], by omega, Nat.zero_le _, rfl, rfl, hide (by simp [esc]), hide rfl, HO0, HB0⟩
  case round =>
    clear HO0 HB0
    obtain ⟨k, g, c, n, l, hn, hk, rfl, rfl, HE, HL, HO, HB⟩ := hrel
    by_cases hlt : k < s.size
    · have u1 : (k : Int) < (s.size : Int) := by omega
      have u2 : (0 : Int) ≤ (k : Int) := by omega
      obtain ⟨x, hx⟩ : ∃ x, (s[k]'hlt).toNat = x := ⟨_, rfl⟩
      have HTk := hide (take_one s k x hlt hx)
      by_cases hq : x = 34 ∨ x = 92
      · have hb : (((x : Int) == 34) = true) ∨ (((x : Int) == 34) = false ∧ ((x : Int) == 92) = true) := by
          rcases hq with h | h
          · exact .inl (by simp; omega)
          · exact .inr ⟨by simp; omega, by simp; omega⟩
        have HE2 : Hid (l ++ [92] ++ [x] = 34 :: esc ((nums s).take (k + 1))) := by
          show _ = _
          rw [HTk.out, esc_snoc, if_pos hq, HE.out]; simp
        clear hq
        rcases hb with y1 | ⟨y1, y2⟩
        · go_wp2_with (at_builtin; first | (refine app_byte rfl _ _ rfl w.heap.size n (some ⟨g, 0, none⟩) c l 92 rfl HO.out rfl (by omega) HB.out HB.out.size ?_; intro g1 c1 w4 ho hb; have HO2 := hide ho; have HB2 := hide hb; clear ho hb) | (refine app_byte rfl _ _ rfl w.heap.size (n + 1) (some ⟨g1, 0, none⟩) c1 (l ++ [92]) x rfl HO2.out rfl (by omega) HB2.out HB2.out.size ?_; intro g2 c2 w5 ho hb; have HO3 := hide ho; have HB3 := hide hb; clear ho hb))
          go_roundw
          case rel => exact ⟨k + 1, g2, c2, n + 1 + 1, l ++ [92] ++ [x], by omega, by omega, rfl, by go_num, HE2, hide (by simp [HL.out]), HO3, HB3⟩
          case measure => simp [intOf]; omega
        · go_wp2_with (at_builtin; first | (refine app_byte rfl _ _ rfl w.heap.size n (some ⟨g, 0, none⟩) c l 92 rfl HO.out rfl (by omega) HB.out HB.out.size ?_; intro g1 c1 w4 ho hb; have HO2 := hide ho; have HB2 := hide hb; clear ho hb) | (refine app_byte rfl _ _ rfl w.heap.size (n + 1) (some ⟨g1, 0, none⟩) c1 (l ++ [92]) x rfl HO2.out rfl (by omega) HB2.out HB2.out.size ?_; intro g2 c2 w5 ho hb; have HO3 := hide ho; have HB3 := hide hb; clear ho hb))
          go_roundw
          case rel => exact ⟨k + 1, g2, c2, n + 1 + 1, l ++ [92] ++ [x], by omega, by omega, rfl, by go_num, HE2, hide (by simp [HL.out]), HO3, HB3⟩
          case measure => simp [intOf]; omega
      · have y1 : ((x : Int) == 34) = false := by simp; omega
        have y2 : ((x : Int) == 92) = false := by simp; omega
        have HE2 : Hid (l ++ [x] = 34 :: esc ((nums s).take (k + 1))) := by
          show _ = _
          rw [HTk.out, esc_snoc, if_neg hq, HE.out]; simp
        clear hq
        go_wp2_with (at_builtin; refine app_byte rfl _ _ rfl w.heap.size n (some ⟨g, 0, none⟩) c l x rfl HO.out rfl (by omega) HB.out HB.out.size ?_; intro g2 c2 w5 ho hb; have HO3 := hide ho; have HB3 := hide hb; clear ho hb)
        go_roundw
        case rel => exact ⟨k + 1, g2, c2, n + 1, l ++ [x], by omega, by omega, rfl, by go_num, HE2, hide (by simp [HL.out]), HO3, HB3⟩
        case measure => simp [intOf]; omega
    · have u1 : decide ((k : Int) < (s.size : Int)) = false := decide_eq_false (by omega)
      have u1b : decide (k < s.size) = false := decide_eq_false (by omega)
      have HE2 : Hid (l ++ [34] = quo (nums s)) := by
        show _ = _
        rw [HE.out, List.take_of_length_le (by rw [nums_len]; omega)]; simp [quo]
      have HSm : Hid (∀ x ∈ l ++ [34], x < 256) := fun x hx => by
        rcases List.mem_append.1 hx with h | h
        · rw [HE.out] at h
          rcases List.mem_cons.1 h with h | h
          · omega
          · exact esc_small _ (fun y hy => nums_lt s y (List.mem_of_mem_take hy)) x h
        · simp at h; omega
      go_wp2_with (at_builtin; refine app_byte rfl _ _ rfl w.heap.size n (some ⟨g, 0, none⟩) c l 34 rfl HO.out rfl (by omega) HB.out HB.out.size ?_; intro g2 c2 w5 ho hb; obtain ⟨t, hcv, ht⟩ := own_back w5 _ g2 (n + 1) c2 (l ++ [34]) ho (by simp [HL.out]) HSm.out; have HT2 := hide ht; have HB3 := hide hb; clear ho hb ht)
      go_ret
      exact ⟨⟨t, rfl, by rw [HT2.out, HE2.out]⟩, HB3.out⟩

end Go.Proofs.YtolegbngjhfdlabDoor
