import Derived.Test.YtecbidaljchmoaaRpW
import Derived.Test.YtecbidaljchmoaaRpE
namespace Go.Proofs.Ytecbidaljchmoaa
open Go.RowKit

/-- Numbers for a configuration. -/
structure Cnf where
  tills : Int
  ctr : Sli Tri
  prc : Sli Int
  lease : Int
  watch : Int
  beat : Int
  window : Int
  cap : Int
  flight : Int
def Cnf.arr (p : Cnf) : Array Value := #[.int .i64 p.tills, .slice p.ctr.p p.ctr.n p.ctr.c, .slice p.prc.p p.prc.n p.prc.c, .int .i64 p.lease, .int .i64 p.watch, .int .i64 p.beat, .int .i64 p.window, .int .i64 p.cap, .int .i64 p.flight]
/-- A counter, as a configuration has it. -/
structure Ctr where
  name : ByteArray
  lo : Int
  hi : Int
  st : Int
def ctc (c : Ctr) : List Value := [.string c.name, .int .i64 c.lo, .int .i64 c.hi, .int .i64 c.st]
theorem elt_ctr : Elt ctc 4 40 31 59 := ⟨fun _ => rfl, fun x u hu => by simp [ctc] at hu; rcases hu with rfl | rfl | rfl | rfl <;> rfl, by omega, Try.underlying31, by
  obtain ⟨i, h⟩ := info_parts (show (Try.prog.info? 59).map (fun i => (i.zero, i.size, i.bytes)) = some (some (.agg #[.string ⟨#[]⟩, .int .i64 0, .int .i64 0, .int .i64 0]), 4, 40) by kernel_rfl)
  exact ⟨i, _, h.1, h.2.1, h.2.2.1, h.2.2.2, rfl⟩, by omega⟩
def loT (x : Tri) : Int := x.a % 18014398509481985 - 9007199254740992
def hiT (x : Tri) : Int := loT x + x.b % (9007199254740992 - loT x + 1)
def stT (x : Tri) : Int := loT x + x.n % (hiT x - loT x + 1)
def ctrT (i : Nat) (x : Tri) : Ctr := ⟨nameT 99 i, loT x, hiT x, stT x⟩
theorem lo_facts (x : Tri) : -9007199254740992 ≤ loT x ∧ loT x ≤ 9007199254740992 := by
  have h1 := Int.emod_lt_of_pos x.a (show (0 : Int) < 18014398509481985 by omega)
  have h2 := Int.emod_nonneg x.a (show (18014398509481985 : Int) ≠ 0 by omega)
  unfold loT
  omega
theorem hi_facts (x : Tri) : loT x ≤ hiT x ∧ hiT x ≤ 9007199254740992 := by
  have h0 := lo_facts x
  have h1 := Int.emod_lt_of_pos x.b (show (0 : Int) < 9007199254740992 - loT x + 1 by omega)
  have h2 := Int.emod_nonneg x.b (show (9007199254740992 - loT x + 1 : Int) ≠ 0 by omega)
  unfold hiT
  omega

end Go.Proofs.Ytecbidaljchmoaa
