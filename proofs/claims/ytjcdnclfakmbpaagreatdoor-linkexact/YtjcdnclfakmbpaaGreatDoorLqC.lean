import Derived.Test.YtjcdnclfakmbpaaGreatDoorMbB
namespace Go.Proofs.YtjcdnclfakmbpaaGreatDoor
open Go.RowKit
def lanew (L : Lk) (mine : Nat) : Lk := { L with known := mine, row := [], numbered := 0, gone := 0, handed := 0, ack := false }
def hear1 (L : Lk) (mine : Nat) : Lk := if L.known < mine then lreset (lanew L mine) else L
section
variable {w wr : World} {b : Nat} {L : Lk} {f0 f1 : Int} {mine yours ack : Nat} {sp : Option Addr} {c : Nat}
end
end Go.Proofs.YtjcdnclfakmbpaaGreatDoor
