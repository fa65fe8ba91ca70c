import Derived.Test.YtbacgkfmnccheaaDoorQuoP
import Derived.Test.YtbacgkfmnccheaaDoorFoldQ
import Derived.Deep.AppendLies
import Derived.OwnWalk
import Derived.Laws.OwnMore
import Derived.Laws.BytesString
namespace Go.Proofs.YtbacgkfmnccheaaDoor
open Go.RowKit

theorem Tryd.infoB : (Tryd.prog.info? 5).map (fun i => (i.zero, i.size, i.bytes)) = some (some (.int .u8 0), 1, 1) := by kernel_rfl

def bys (l : List Nat) : List Value := l.map fun (x : Nat) => Value.int .u8 (x : Int)

/-- A row of bytes of the call's own, as a text. -/
theorem own_back (W : World) (base g n c : Nat) (l : List Nat) (h : W.ownsRow base 5 1 (.slice (some ⟨g, 0, none⟩) n c) n (bys l)) (hl : l.length = n) (hf : ∀ x ∈ l, x < 256) :
    ∃ t, (convert 43 9 (.slice (some ⟨g, 0, none⟩) n c)).run Tryd.prog W = .ok (.string t) W ∧ nums t = l := by
  subst hl
  refine ⟨⟨(l.map UInt8.ofNat).toArray⟩, ?_, ?_⟩
  · have := run_convert_bytes_back (P := Tryd.prog) W 43 9 5 ⟨g, 0, none⟩ c (l.map UInt8.ofNat) Tryd.underlying43 Tryd.underlying5 Tryd.underlying9 (fun j hj => by
      have hj' : j < l.length := by simpa using hj
      have hx := hf _ (List.getElem_mem hj')
      have e : (UInt8.ofNat l[j]).toNat = l[j] := by simp; omega
      refine h.cells rfl j _ ?_
      simp [bys, List.getElem?_eq_getElem hj', e])
    rw [List.length_map] at this
    exact this
  · simp only [nums, List.map_map]
    conv => rhs; rw [← List.map_id l]
    apply List.map_congr_left
    intro x hx
    have := hf x hx
    simp; omega

theorem own_none {W : World} {base n c : Nat} {l : List Nat} (h : W.ownsRow base 5 1 (.slice none n c) n (bys l)) : n = 0 ∧ c = 0 := by
  rcases h.2 with ⟨e, h0⟩ | ⟨g, cap, cur, e, _⟩
  · cases e; exact ⟨rfl, rfl⟩
  · cases e
theorem own_some {W : World} {base n c : Nat} {a : Addr} {l : List Nat} (h : W.ownsRow base 5 1 (.slice (some a) n c) n (bys l)) : ∃ g, a = ⟨g, 0, none⟩ := by
  rcases h.2 with ⟨e, h0⟩ | ⟨g, cap, cur, e, _⟩
  · cases e
  · cases e; exact ⟨g, rfl⟩
theorem own_ge {W : World} {base : Nat} {v : Value} {n : Nat} {l : List Value} (h : W.ownsRow base 5 1 v n l) : ∀ k, v.ownBlock = some k → base ≤ k := fun k e => (h.lt k e).1

theorem news_one (W : World) (v : Value) (t : TypeId) : ∀ j u, [v][j]? = some u → (W.alloc (.cells #[v] t)).cell? ((⟨W.heap.size, 0, none⟩ : Addr).add j) = some u := fun j u h => by
  match j, h with
  | 0, h =>
    simp only [List.getElem?_cons_zero, Option.some.injEq] at h
    subst h
    have h := World.alloc_heap_new W (.cells #[v] t)
    rw [Lib.add_plain, Nat.zero_add]
    unfold World.cell?; simp only [h]; rfl
  | j + 1, h => simp at h

/-- One byte behind a row of the call's own. -/
theorem app_byte {W w0 : World} {ops : Array Oper} {rest : List Oper} {o : Oper} {a : Act} {Q : Exit → Act → World → Prop} (hgd : o.guard = none) (s x : Operand)
    (ho : o.op = .call { callee := .builtin .append, args := #[s, x], argTypes := #[43, 43] }) (base n : Nat) (p : Option Addr) (c : Nat) (l : List Nat) (y : Nat)
    (hs : a.eval s = .slice p n c) (hO : W.ownsRow base 5 1 (.slice p n c) n (bys l)) (hx : a.eval x = .slice (some ⟨W.heap.size, 0, none⟩) 1 1) (hn : n ≤ 1000000) (hB : Below base w0 W) (hle : base ≤ W.heap.size)
    (h : ∀ g cap w', w'.ownsRow base 5 1 (.slice (some ⟨g, 0, none⟩) (n + 1) cap) (n + 1) (bys (l ++ [y])) → Below base w0 w' → wpList Tryd.prog ops Q rest (a.put o.dst (.slice (some ⟨g, 0, none⟩) (n + 1) cap)) w') :
    wpList Tryd.prog ops Q (o :: rest) a (W.alloc (.cells #[.int .u8 (y : Int)] 5)) := by
  obtain ⟨i0, hi, hz0, hz1, hz2⟩ := info_parts Tryd.infoB
  refine wpList_append_lies _ hgd s x 43 ho base 5 i0 (.int .u8 0) 1 1 Tryd.underlying43 hi hz0 hz1 hz2 rfl (by omega) _ n _ hs (hO.alloc _) ⟨W.heap.size, 0, none⟩ 1 1 [.int .u8 (y : Int)] hx rfl (news_one W _ _) (by simp [Value.oneCell']) (by omega) (by unfold maxLen; omega) (by omega) (by simp; omega) _ rfl ?_
  intro g' c' w5 hown hgrow _ _
  refine h g' c' w5 ?_ ?_
  · rw [bys, List.map_append]; exact hown
  · exact (hB.alloc hle _).grown hgrow (by simp; omega) (own_ge hO)

theorem nil_back (W : World) : (convert 43 9 (.slice none 0 0)).run Tryd.prog W = .ok (.string ⟨#[]⟩) W := by
  rw [run_convert_bytes_string W 43 9 5 none 0 0 Tryd.underlying43 Tryd.underlying5 Tryd.underlying9]; rfl

theorem esc_snoc (l : List Nat) (x : Nat) : esc (l ++ [x]) = esc l ++ (if x = 34 ∨ x = 92 then [92, x] else [x]) := by
  induction l with
  | nil => simp [esc]
  | cons a l ih => simp only [List.cons_append, esc, ih, List.append_assoc]

theorem take_one (s : ByteArray) (k x : Nat) (hk : k < s.size) (hx : (s[k]'hk).toNat = x) : (nums s).take (k + 1) = (nums s).take k ++ [x] := by
  rw [List.take_add_one, nums_at s k hk, hx]; rfl

theorem esc_len : ∀ (l : List Nat), (esc l).length ≤ 2 * l.length
  | [] => by simp [esc]
  | c :: r => by
    have := esc_len r
    simp only [esc, List.length_append, List.length_cons]
    split <;> simp <;> omega
theorem esc_small : ∀ (l : List Nat), (∀ x ∈ l, x < 256) → ∀ x ∈ esc l, x < 256
  | [], _, x, h => by simp [esc] at h
  | c :: r, hl, x, h => by
    have hc := hl c (List.mem_cons_self ..)
    simp only [esc, List.mem_append] at h
    rcases h with h | h
    · split at h
      · simp at h; omega
      · simp at h; omega
    · exact esc_small r (fun y hy => hl y (List.mem_cons_of_mem _ hy)) x h

end Go.Proofs.YtbacgkfmnccheaaDoor
