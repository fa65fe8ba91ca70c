import Derived.Test.YtfdanocpbhbieaaGreatRwA
import Derived.Test.YtfdanocpbhbieaaGreatWkC
namespace Go.Proofs.YtfdanocpbhbieaaGreat
open Go.RowKit

def intc (x : Int) : List Value := [.int .i64 x]
/-- A state as it came in, or as it was lent: what lies in its lists. -/
structure Sta where
  pos : Int
  pp : Option Addr
  pn : Nat
  pc : Nat
  rp : Option Addr
  rn : Nat
  rc : Nat
  lp : Option Addr
  ln : Nat
  lc : Nat
  gp : Option Addr
  gn : Nat
  gc : Nat
  op : Option Addr
  on : Nat
  oc : Nat
  pools : List Pl
  prices : List Lin
  last : List Int
  gen : List Int
  owed : List Bool
def Sta.arr (s : Sta) : Array Value := #[.int .u64 s.pos, .slice s.pp s.pn s.pc, .slice s.rp s.rn s.rc, .slice s.lp s.ln s.lc, .slice s.gp s.gn s.gc, .slice s.op s.on s.oc]
def uc (x : Int) : List Value := [.int .u64 x]
def boolc (x : Bool) : List Value := [.bool x]
structure PlOk (w : World) (x : Pl) : Prop where
  len : x.hs.length = x.hl
  cel : Cel w x.hp 2 (x.hs.map linc)
structure StaOk (w : World) (s : Sta) : Prop where
  pn : s.pools.length = s.pn
  pools : Cel w s.pp 4 (s.pools.map plc)
  held : ∀ x ∈ s.pools, PlOk w x
  rn : s.prices.length = s.rn
  prices : Cel w s.rp 2 (s.prices.map linc)
  ln : s.last.length = s.ln
  last : Cel w s.lp 1 (s.last.map uc)
  gn : s.gen.length = s.gn
  gen : Cel w s.gp 1 (s.gen.map uc)
  on : s.owed.length = s.on
  owed : Cel w s.op 1 (s.owed.map boolc)
theorem StaOk.below {w w' : World} {s : Sta} (h : StaOk w s) (hb : Below w.heap.size w w') : StaOk w' s :=
  ⟨h.pn, h.pools.below hb, fun x hx => ⟨(h.held x hx).len, (h.held x hx).cel.below hb⟩, h.rn, h.prices.below hb, h.ln, h.last.below hb, h.gn, h.gen.below hb, h.on, h.owed.below hb⟩
theorem getAt_mem {α : Type} (l : List α) (z : α) (i : Int) : getAt l z i ∈ l ∨ getAt l z i = z := by
  unfold getAt
  split
  · cases h : l[i.toNat]? with
    | none => right; simp [List.getD, h]
    | some x => left; simp [List.getD, h]; exact List.mem_of_getElem? h
  · exact Or.inr rfl
theorem StaOk.at {w : World} {s : Sta} (h : StaOk w s) (i : Int) : PlOk w (getAt s.pools pl0 i) := by
  rcases getAt_mem s.pools pl0 i with e | e
  · exact h.held _ e
  · rw [e]; exact ⟨rfl, Or.inl rfl⟩
/-- What rule.free and rule.held tell. -/
def Sta.free (s : Sta) (c w : Int) : Int := getAt [(getAt s.pools pl0 c).f0, (getAt s.pools pl0 c).f1] 0 w
def Sta.held (s : Sta) (t c w : Int) : Int := getAt [(getAt (getAt s.pools pl0 c).hs ⟨0, 0⟩ t).c, (getAt (getAt s.pools pl0 c).hs ⟨0, 0⟩ t).n] 0 w
theorem cel_two {w : World} {b o : Nat} {x y : Int} (hb : b < w.heap.size) (h0 : w.cell? ⟨b, o, none⟩ = some (.int .i64 x)) (h1 : w.cell? ⟨b, o + 1, none⟩ = some (.int .i64 y)) : Cel w (some ⟨b, o, none⟩) 1 ([x, y].map intc) := by
  refine Or.inr ⟨b, o, rfl, hb, fun i r hr j v hv => ?_⟩
  match i, hr with
  | 0, hr =>
    cases hr
    match j, hv with
    | 0, hv => cases hv; exact h0
    | j + 1, hv => simp [intc] at hv
  | 1, hr =>
    cases hr
    match j, hv with
    | 0, hv => cases hv; exact h1
    | j + 1, hv => simp [intc] at hv
  | i + 2, hr => simp at hr

end Go.Proofs.YtfdanocpbhbieaaGreat
