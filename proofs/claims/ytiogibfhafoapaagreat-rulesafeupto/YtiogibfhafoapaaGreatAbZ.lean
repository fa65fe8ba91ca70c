import Derived.Test.YtiogibfhafoapaaGreatProg
import Derived.WalkKit
import Derived.WalkSpells
import Derived.WalkLawsBesides
import Derived.Laws.CopyOwn
import Derived.Deep.OwnRows
set_option maxRecDepth 100000
set_option maxHeartbeats 8000000
set_option linter.unusedSimpArgs false
set_option linter.unusedVariables false
namespace Go.Proofs.YtiogibfhafoapaaGreat
open Go.RowKit
theorem Qh5 (w:World) (c cs:Array Value) (t:TypeId) (fr:Nat × Nat):(w.alloc (.cells c t fr)).setRow w.heap.size cs=w.alloc (.cells cs t fr):=by
 unfold World.setRow World.alloc;congr 1;apply Array.ext
 ·simp
 ·intro k h1 h2
  simp only[Array.getElem_modify,Array.getElem_push];split
  ·rename_i h;subst h;simp
  ·rename_i h
   simp at h1;rw[dif_pos (by omega),dif_pos (by omega)]
theorem Tryz.info5:(Tryz.prog.info? 5).map (fun i=>(i.zero,i.size,i.bytes))=some (some (.int .u8 0),1,1):=by kernel_rfl
theorem Tryz.size5:(Tryz.prog.info? 5).map (·.size)=some 1:=by kernel_rfl
theorem QiU (z:Value) (n:Nat):(madeCells #[z] n).size=n:=by simp[madeCells]
theorem QlR (z:Value):madeCells #[z] 0=#[]:=Array.eq_empty_of_size_eq_zero (QiU z 0)
theorem QlL {w:World} {p:Addr} {v:Value} (h:w.cell? p=some v):p.block<w.heap.size:=by
 unfold World.cell? at h;rcases Nat.lt_or_ge p.block w.heap.size with hl | hl
 ·exact hl
 ·rw[Array.getElem?_eq_none hl]at h;cases h
structure Holds (w:World) (sp:Option Addr) (cs:List Value):Prop where
 at_:∀j v,cs[j]?=some v→∃ad,sp=some ad∧w.cell? (ad.add j)=some v
 one:∀v∈cs,v.oneCell'=true
structure Qiq (w:World) (sp:Option Addr) (xs:List Nat):Prop where
 small:∀x∈xs,x<256
 lie:xs=[]∨∃g o,sp=some ⟨g,o,none⟩∧g<w.heap.size∧∀j,j<xs.length→w.cell? ⟨g,o+j,none⟩=some (.int .u8 (xs.getD j 0))
theorem Qiq.below {w w':World} {sp:Option Addr} {xs:List Nat} (h:Qiq w sp xs) (hb:Below w.heap.size w w'):Qiq w' sp xs:=by
 refine⟨h.small,?_⟩;rcases h.lie with h0 | ⟨g,o,e,hg,hc⟩
 ·exact Or.inl h0
 ·exact Or.inr ⟨g,o,e,Nat.lt_of_lt_of_le hg hb.size,fun j hj=>by rw[hb.cell (p:=⟨g,o+j,none⟩) hg];exact hc j hj⟩
def Qmc (xs:List Nat):List Value:=xs.map fun (x:Nat)=>Value.int .u8 (x:Int)
theorem Qiq.holds {w:World} {sp:Option Addr} {xs:List Nat} (h:Qiq w sp xs):Holds w sp (Qmc xs):=by
 refine⟨fun j v hj=>?_,fun v hv=>?_⟩
 ·rcases h.lie with h0 | ⟨g,o,e,hg,hc⟩
  ·subst h0;simp[Qmc]at hj
  ·refine⟨_,e,?_⟩
   simp only[Qmc,List.getElem?_map,Option.map_eq_some_iff]at hj;obtain⟨x,hx,rfl⟩:=hj;have hlt:j<xs.length:=(List.getElem?_eq_some_iff.1 hx).1;have:=hc j hlt;simp only[List.getD,hx,Option.getD_some]at this;unfold Addr.add;by_cases h0:j=0
   ·subst h0;simpa using this
   ·simpa[h0] using this
 ·simp only[Qmc,List.mem_map]at hv
  obtain⟨x,_,rfl⟩:=hv;rfl
abbrev qs:Array Value:=#[.int .u64 0,.slice none 0 0,.slice none 0 0,.slice none 0 0,.slice none 0 0,.slice none 0 0]
abbrev qa:Array Value:=#[.int .i64 0,.int .u64 0,.int .i64 0,.bool false,.slice none 0 0,.slice none 0 0,.slice none 0 0,.int .i64 0,.slice none 0 0,.int .i64 0,.int .i64 0,.int .i64 0,.int .i64 0,.int .u64 0,.slice none 0 0]
abbrev qe:Array Value:=#[.int .u64 0,.int .i64 0,.int .u64 0,.int .i64 0,.bool false,.slice none 0 0,.slice none 0 0,.slice none 0 0,.int .i64 0,.slice none 0 0,.int .i64 0,.int .i64 0,.int .i64 0,.int .i64 0,.int .u64 0,.slice none 0 0,.int .i64 0,.slice none 0 0,.slice none 0 0,.int .i64 0,.int .i64 0,.int .u64 0]
end Go.Proofs.YtiogibfhafoapaaGreat
