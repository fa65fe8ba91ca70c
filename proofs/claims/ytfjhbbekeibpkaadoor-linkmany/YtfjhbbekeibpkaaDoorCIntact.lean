import Derived.Test.YtfjhbbekeibpkaaDoorCLent
namespace Go.Proofs.YtfjhbbekeibpkaaDoor.C
open Go.RowKit

/-- The bytes as a string. -/
def str (xs : List Nat) : ByteArray := strOfNums (xs.map fun (x : Nat) => (x : Int))

theorem conv_str {w : World} {sp : Option Addr} {xs : List Nat} {m : Nat} (h : Bytes w sp xs) (hm : xs.length = m) (c : Nat) :
    (convert 27 9 (.slice sp m c)).run Tryd.prog w = .ok (.string (str xs)) w := by
  subst hm
  have hz : ∀ a : Option Addr, (convert 27 9 (.slice a 0 c)).run Tryd.prog w = .ok (.string (str [])) w := fun a => by
    rw [run_convert_bytes_string w 27 9 5 a 0 c Tryd.underlying27 Tryd.underlying5 Tryd.underlying9]
    cases a with
    | none => simp [Conv.bytesToString]; rfl
    | some a =>
      rw [run_bytesToString w a 0 c [] (by simpa using run_loadCells_list (P := Tryd.prog) w a [] (by simp))]
      rfl
  rcases h.lie with h0 | ⟨g, o, rfl, hg, hc⟩
  · subst h0; exact hz sp
  · refine run_convert_bytes_arg w 27 5 Tryd.underlying27 Tryd.underlying5 g o _ c _ (by simp) (fun i hi => ?_) 9 Tryd.underlying9
    rw [hc i hi]
    simp [List.getD, hi]

theorem Own.front {B : Nat} {w : World} {g cap : Nat} {xs ys : List Nat} (h : Own B w g cap (xs ++ ys)) : Bytes w (some ⟨g, 0, none⟩) xs := by
  have := h.bytes.take xs.length
  rwa [List.take_left' rfl] at this
theorem Own.behind {B : Nat} {w : World} {g cap : Nat} {xs ys : List Nat} (h : Own B w g cap (xs ++ ys)) (k : Nat) (hk : k < ys.length) : w.cell? ⟨g, xs.length + k, none⟩ = some (.int .u8 (ys.getD k 0 : Nat)) := by
  have := (h.cell (xs.length + k) (by simp; omega)).1
  rw [this]
  simp [List.getD, List.getElem?_append_right]

theorem cell_draws (w : World) (n : Nat) (a : Addr) : (w.drewN n).cell? a = w.cell? a := rfl

end Go.Proofs.YtfjhbbekeibpkaaDoor.C
