import Derived.Test.YtbacgkfmnccheaaDoorTagS
import Derived.Laws.BytesString
namespace Go.Proofs.YtbacgkfmnccheaaDoor
open Go.RowKit
/-- The mark of a list. -/
def mkS (x0 x1 x2 x3 : Nat) : ByteArray := ⟨([x0, x1, x2, x3].map UInt8.ofNat).toArray⟩
def mkB (i b : Nat) : ByteArray := mkS (i % 256) (i / 256 % 256) (i / 65536 % 256) (b % 256)
theorem mark_conv (w : World) (x0 x1 x2 x3 : Nat) (h0 : x0 < 256) (h1 : x1 < 256) (h2 : x2 < 256) (h3 : x3 < 256) :
    (convert 43 9 (.slice (some ⟨w.heap.size, 0, none⟩) 4 4)).run Tryd.prog (w.alloc (.cells #[.int .u8 (x0 : Int), .int .u8 (x1 : Int), .int .u8 (x2 : Int), .int .u8 (x3 : Int)] 5)) = .ok (.string (mkS x0 x1 x2 x3)) (w.alloc (.cells #[.int .u8 (x0 : Int), .int .u8 (x1 : Int), .int .u8 (x2 : Int), .int .u8 (x3 : Int)] 5)) := by
  have := run_convert_bytes_back (P := Tryd.prog) (w.alloc (.cells #[.int .u8 (x0 : Int), .int .u8 (x1 : Int), .int .u8 (x2 : Int), .int .u8 (x3 : Int)] 5)) 43 9 5 ⟨w.heap.size, 0, none⟩ 4 ([x0, x1, x2, x3].map UInt8.ofNat) Tryd.underlying43 Tryd.underlying5 Tryd.underlying9 (fun j hj => by
    have hj' : j < 4 := by simpa using hj
    refine cells_new (heap_nw w _) j _ ?_
    have : j = 0 ∨ j = 1 ∨ j = 2 ∨ j = 3 := by omega
    rcases this with rfl | rfl | rfl | rfl <;> simp <;> omega)
  exact this
theorem mark_any (w : World) (i b : Nat) :
    Calls Tryd.prog 9 #[.int .i64 (i : Int), .int .i64 (b : Int)] w fun e w' => e = .returned (.string (mkB i b)) ∧ Below w.heap.size w w' := by
  unfold mkB
  have e0 : IntKind.u8.wrap (i : Int) = ((i % 256 : Nat) : Int) := by rw [IntKind.wrap_u8]; omega
  have e1 : IntKind.u8.wrap ((i : Int) / 256) = ((i / 256 % 256 : Nat) : Int) := by rw [IntKind.wrap_u8]; omega
  have e2 : IntKind.u8.wrap ((i : Int) / 65536) = ((i / 65536 % 256 : Nat) : Int) := by rw [IntKind.wrap_u8]; omega
  have e3 : IntKind.u8.wrap (b : Int) = ((b % 256 : Nat) : Int) := by rw [IntKind.wrap_u8]; omega
  have b0 : i % 256 < 256 := by omega
  have b1 : i / 256 % 256 < 256 := by omega
  have b2 : i / 65536 % 256 < 256 := by omega
  have b3 : b % 256 < 256 := by omega
  generalize i % 256 = x0 at *
  generalize i / 256 % 256 = x1 at *
  generalize i / 65536 % 256 = x2 at *
  generalize b % 256 = x3 at *
  have hc := mark_conv w x0 x1 x2 x3 b0 b1 b2 b3
  clear b0 b1 b2 b3
  go_enter Tryd.func9, Tryd.ntmps9
  go_wp2
  go_ret
  exact ⟨rfl, (Below.refl _ _).alloc (Nat.le_refl _) _⟩
end Go.Proofs.YtbacgkfmnccheaaDoor
