import Derived.Laws.CopyRow
import Derived.Laws.Tables
import Derived.Test.YtfbegfapoijbnaaGreatNdV
set_option maxRecDepth 100000
namespace Go.Proofs.YtfbegfapoijbnaaGreat.RB
open Go.RowKit Go.Proofs.YtfbegfapoijbnaaGreat
theorem lt_of_block {w:World} {b:Nat} {o:Obj} (h:w.heap[b]?=some o):b<w.heap.size:=(Array.getElem?_eq_some_iff.1 h).1
theorem block_set {w:World} {g i:Nat} {cs:Array Value} {t:TypeId} {fr:Nat × Nat} (h:w.heap[g]?=some (.cells cs t fr)) (v:Value):(w.setCell ⟨g,i,none⟩ v).heap[g]?=some (.cells (cs.setIfInBounds i v) t fr):=by
 rw[setCell_eq_setRow w g i cs t fr v h]
 exact setRow_heap w g _ _ t _ h
theorem owns_lt {w:World} {B n s:Nat} {t:TypeId} {v:Value} {xs:List Value} (h:w.ownsRow B t s v n xs) (g:Nat) (e:v.ownBlock=some g):g<w.heap.size:=rk_lt h e
theorem owns_ne {w:World} {B n k s:Nat} {t t':TypeId} {v:Value} {xs:List Value} {C:Array Value} {fr:Nat × Nat} (h:w.ownsRow B t s v n xs) (hk:w.heap[k]?=some (.cells C t' fr)) (ht:t'≠t):v.ownBlock≠some k:=fun e=>owns_apart h hk ht e.symm
theorem owns_kept' {w w':World} {B n:Nat} {e:TypeId} {size:Nat} {v:Value} {xs:List Value} (h:w.ownsRow B e size v n xs) (hk:∀g,v.ownBlock=some g→w'.heap[g]?=w.heap[g]?):w'.ownsRow B e size v n xs:=owns_same h hk
theorem owns_low {w:World} {B n s:Nat} {t:TypeId} {v:Value} {xs:List Value} (h:w.ownsRow B t s v n xs) (g:Nat) (e:v.ownBlock=some g):B≤g:=by
 rcases h.2 with ⟨h1,h2⟩ | ⟨g',cap,cur,h1,hb,hg,_⟩
 ·rw[h1]at e;simp[Value.ownBlock]at e
 ·rw[h1]at e;simp[Value.ownBlock]at e;omega
theorem row_cell {w:World} {B n k s:Nat} {t:TypeId} {v a:Value} {xs:List Value} (h:w.ownsRow B t s v n xs) (hk:xs[k]?=some a):∃g c,v=.slice (some ⟨g,0,none⟩) n c∧w.cell? ⟨g,k,none⟩=some a:=by
 obtain⟨a',c,rfl⟩:=slice_form h
 obtain⟨g,e,_,hc⟩:=YtfbegfapoijbnaaGreat.row_cell h hk
 exact⟨g,c,by rw[e],hc⟩
theorem bk_thaw {w:World} {b:Nat} {C:Array Value} {t:TypeId} (h:w.heap[b]?=some (.cells C t (0,0))) (j:Nat):w.frozen? ⟨b,j,none⟩=false:=by simp[World.frozen?,h]
end Go.Proofs.YtfbegfapoijbnaaGreat.RB
