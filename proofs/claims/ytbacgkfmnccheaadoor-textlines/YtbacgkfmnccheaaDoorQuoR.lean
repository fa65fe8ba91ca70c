import Derived.Test.YtbacgkfmnccheaaDoorMayQ
import Derived.Test.YtbacgkfmnccheaaDoorBegun2
namespace Go.Proofs.YtbacgkfmnccheaaDoor
open Go.RowKit

theorem Tryd.infoT : (Tryd.prog.info? 9).map (fun i => (i.zero, i.size, i.bytes)) = some (some (.string ⟨#[]⟩), 1, 16) := by kernel_rfl

/-- One text behind a row of the call's own. -/
theorem app_str {W w0 : World} {ops : Array Oper} {rest : List Oper} {o : Oper} {a : Act} {Q : Exit → Act → World → Prop} (hgd : o.guard = none) (s x : Operand)
    (ho : o.op = .call { callee := .builtin .append, args := #[s, x], argTypes := #[22, 22] }) (base n : Nat) (p : Option Addr) (c : Nat) (l : List ByteArray) (y : ByteArray)
    (hs : a.eval s = .slice p n c) (hO : W.ownsRow base 9 1 (.slice p n c) n (l.map Value.string)) (hx : a.eval x = .slice (some ⟨W.heap.size, 0, none⟩) 1 1) (hn : n ≤ 1000000) (hB : Below base w0 W) (hle : base ≤ W.heap.size)
    (h : ∀ g cap w', w'.ownsRow base 9 1 (.slice (some ⟨g, 0, none⟩) (n + 1) cap) (n + 1) ((l ++ [y]).map Value.string) → Below base w0 w' → wpList Tryd.prog ops Q rest (a.put o.dst (.slice (some ⟨g, 0, none⟩) (n + 1) cap)) w') :
    wpList Tryd.prog ops Q (o :: rest) a (W.alloc (.cells #[.string y] 9)) := by
  obtain ⟨i0, hi, hz0, hz1, hz2⟩ := info_parts Tryd.infoT
  refine wpList_append_lies _ hgd s x 22 ho base 9 i0 (.string ⟨#[]⟩) 1 16 Tryd.underlying22 hi hz0 hz1 hz2 rfl (by omega) _ n _ hs (hO.alloc _) ⟨W.heap.size, 0, none⟩ 1 1 [.string y] hx rfl (news_one W _ _) (by simp [Value.oneCell']) (by omega) (by unfold maxLen; omega) (by omega) (by simp; omega) _ rfl ?_
  intro g' c' w5 hown hgrow _ _
  refine h g' c' w5 ?_ ?_
  · rw [List.map_append]; exact hown
  · exact (hB.alloc hle _).grown hgrow (by simp; omega) (fun k e => (hO.lt k e).1)

/-- A row of texts of the call's own lies as texts do. -/
theorem own_strs {W : World} {base n c : Nat} {p : Option Addr} {l : List ByteArray} (h : W.ownsRow base 9 1 (.slice p n c) n (l.map Value.string)) (hl : l.length = n) : Strs W p l := by
  rcases h.2 with ⟨e, h0⟩ | ⟨g, cap, cur, e, hg, hh, _⟩
  · left
    subst h0
    exact List.eq_nil_of_length_eq_zero hl
  · cases e
    right
    refine ⟨g, 0, rfl, (Array.getElem?_eq_some_iff.1 hh).1, fun j s hj => ?_⟩
    have := h.cells rfl j (.string s) (by rw [List.getElem?_map, hj]; rfl)
    rw [Lib.add_plain] at this
    exact this

theorem lineOf_snoc (r : List (List Nat × List Nat)) (x : List Nat × List Nat) : lineOf (r ++ [x]) = lineOf r ++ (x.1 ++ quo x.2) := by
  induction r with
  | nil => obtain ⟨a, b⟩ := x; simp [lineOf]
  | cons a r ih => obtain ⟨g, w⟩ := a; simp only [List.cons_append, lineOf, ih, List.append_assoc]

theorem valid_ascii : ∀ (m : Nat) (l : List UInt8), l.length ≤ m → (∀ x ∈ l, x.toNat < 128) → Lib.validD l = true
  | m, [], _, _ => rfl
  | 0, a :: l, h, _ => by simp at h
  | m + 1, a :: l, h, hx => by
    have ha := hx a (List.mem_cons_self ..)
    have e : Lib.decodeL (a :: l) = (a.toNat, 1) := by
      have h1 := Lib.decodeL_drop ⟨(a :: l).toArray⟩ 0
      rw [List.drop_zero] at h1
      rw [h1]
      exact decode_ascii ⟨(a :: l).toArray⟩ 0 (by show 0 < (a :: l).toArray.size; simp) (by show ((a :: l).toArray[0]).toNat < 128; simpa using ha)
    rw [Lib.validD_step _ (by simp), e, if_neg (by simp only; omega)]
    exact valid_ascii m l (by simpa using h) (fun x hx' => hx x (List.mem_cons_of_mem _ hx'))

theorem good_ascii (s : ByteArray) (h : ∀ x ∈ nums s, x < 128) : good s = true := by
  refine valid_ascii _ _ (Nat.le_refl _) (fun x hx => ?_)
  exact h _ (List.mem_map.2 ⟨x, hx, rfl⟩)

theorem esc_ascii : ∀ (l : List Nat), (∀ x ∈ l, may1 x) → ∀ x ∈ esc l, x < 128
  | [], _, x, h => by simp [esc] at h
  | c :: r, hl, x, h => by
    have hc := hl c (List.mem_cons_self ..)
    unfold may1 at hc
    simp only [esc, List.mem_append] at h
    rcases h with h | h
    · split at h
      · simp at h; omega
      · simp at h; omega
    · exact esc_ascii r (fun y hy => hl y (List.mem_cons_of_mem _ hy)) x h
theorem line_ascii : ∀ (r : List (List Nat × List Nat)), (∀ x ∈ r, Item x) → ∀ x ∈ lineOf r, x < 128
  | [], _, x, h => by simp [lineOf] at h
  | (g, w) :: r, hr, x, h => by
    obtain ⟨_, h2, h3⟩ := hr (g, w) (List.mem_cons_self ..)
    simp only [lineOf, quo, List.mem_append, List.mem_cons] at h
    rcases h with h | (h | h | h) | h
    · have : isBlank x = true := h2 x h
      simp [isBlank] at this; omega
    · omega
    · exact esc_ascii w h3 x h
    · simp at h; omega
    · exact line_ascii r (fun y hy => hr y (List.mem_cons_of_mem _ hy)) x h

theorem words_line (S : ByteArray) (r : List (List Nat × List Nat)) (hS : nums S = lineOf r) (hr : ∀ x ∈ r, Item x) : wordsR S = if S.size ≤ 1024 ∧ r.length ≤ 32 then some (r.map Prod.snd) else none := by
  have ht : tot S = (r.map Prod.snd, 0) := by unfold tot; rw [hS]; exact (wrd_line r hr).1
  have hg := good_ascii S (by rw [hS]; exact line_ascii r hr)
  unfold wordsR
  rw [ht, hg]
  simp

/-- What 'within' answers. -/
def wth (z : Int) : Nat := ((z.tmod 3 + 3) % 3).toNat
theorem wth_le (z : Int) : wth z ≤ 2 := by unfold wth; omega
end Go.Proofs.YtbacgkfmnccheaaDoor
