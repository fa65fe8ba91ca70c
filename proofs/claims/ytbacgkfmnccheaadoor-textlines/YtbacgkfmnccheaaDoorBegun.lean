import Derived.Test.YtbacgkfmnccheaaDoorEqS
import Derived.Test.YtbacgkfmnccheaaDoorWordsA
import Derived.Test.YtbacgkfmnccheaaDoorFold
import Derived.Test.YtbacgkfmnccheaaDoorMoney
import Derived.Test.YtbacgkfmnccheaaDoorAmount
import Derived.Test.YtbacgkfmnccheaaDoorWhole
namespace Go.Proofs.YtbacgkfmnccheaaDoor
open Go.RowKit

/-- Amounts, of the whole text. -/
def amtL (l : List Nat) : Nat × Nat := amtR (l.takeWhile fun x => x != 46) ((l.dropWhile fun x => x != 46).tail) (decide (46 ∈ l))

theorem tw_none : ∀ (h : List Nat), 46 ∉ h → (h.takeWhile fun x => x != 46) = h ∧ (h.dropWhile fun x => x != 46) = []
  | [], _ => ⟨rfl, rfl⟩
  | a :: h, hn => by
    have ha : (a != 46) = true := by simp; rintro rfl; exact hn (List.mem_cons_self ..)
    obtain ⟨h1, h2⟩ := tw_none h (fun hm => hn (List.mem_cons_of_mem _ hm))
    exact ⟨by rw [List.takeWhile_cons, if_pos ha, h1], by rw [List.dropWhile_cons, if_pos ha, h2]⟩
theorem tw_some : ∀ (h t : List Nat), 46 ∉ h → ((h ++ 46 :: t).takeWhile fun x => x != 46) = h ∧ ((h ++ 46 :: t).dropWhile fun x => x != 46) = 46 :: t
  | [], t, _ => ⟨rfl, rfl⟩
  | a :: h, t, hn => by
    have ha : (a != 46) = true := by simp; rintro rfl; exact hn (List.mem_cons_self ..)
    obtain ⟨h1, h2⟩ := tw_some h t (fun hm => hn (List.mem_cons_of_mem _ hm))
    exact ⟨by rw [List.cons_append, List.takeWhile_cons, if_pos ha, h1], by rw [List.cons_append, List.dropWhile_cons, if_pos ha, h2]⟩

theorem parted_eq {l h t : List Nat} {B : Bool} (hp : Parted l h t B) : amtR h t B = amtL l := by
  obtain ⟨he, hn, ht⟩ := hp
  unfold amtL
  cases B with
  | true =>
    rw [if_pos rfl] at he
    obtain ⟨h1, h2⟩ := tw_some h t hn
    rw [he, h1, h2]
    simp
  | false =>
    rw [if_neg (by simp)] at he
    obtain ⟨h1, h2⟩ := tw_none h hn
    rw [he, h1, h2, ht rfl]
    simp [hn]

theorem amt_any (w : World) (s : ByteArray) (hs : s.size ≤ 140737488355328) :
    Calls Tryd.prog 10 #[.string s] w fun e w' => e = .returned (.tuple #[.int .i64 ((amtL (nums s)).1 : Nat), .int .i64 ((amtL (nums s)).2 : Nat)]) ∧ Below w.heap.size w w' :=
  (amount_any w s hs).mono fun e w' ⟨⟨h, t, B, hp, he⟩, hb⟩ => ⟨by rw [he, parted_eq hp], hb⟩

theorem k_amt : amtL (nums ⟨#[49, 39, 50, 51, 52, 46, 53, 48]⟩) = (123450, 0) := by decide +kernel
theorem k_whole : wholeR (nums ⟨#[45, 55, 48]⟩) = (-70, 0) := by decide +kernel
theorem k_words : wordsR ⟨#[97, 32, 34, 98, 32, 99, 34]⟩ = some [[97], [98, 32, 99]] := by decide +kernel
theorem k_itoa : (⟨(Lib.itoa (-70)).toArray⟩ : ByteArray).toList = [45, 55, 48] := by
  rw [ByteArray.toList_mk, Lib.itoa, if_pos (by omega), show (-70 : Int).natAbs = 70 from rfl, Lib.decDigits_two (by omega) (by omega)]
  rfl
theorem k_ann : chkR ⟨#[97, 110, 110]⟩ = 0 := by decide +kernel
theorem k_ab : chkR ⟨#[97, 32, 98]⟩ = 20 := by decide +kernel
theorem k_mny : mny 5 = [48, 46, 48, 53] := by
  rw [mny, show (5 : Int).natAbs = 5 from rfl, dn_one (by omega)]
  rfl
theorem k_fold : foldR (nums ⟨#[65, 110, 110]⟩) = [97, 110, 110] := by decide +kernel

end Go.Proofs.YtbacgkfmnccheaaDoor
