import Derived.Test.YtiogibfhafoapaaGreatAbA
import Derived.Test.YtiogibfhafoapaaGreatAbS
import Derived.Test.YtiogibfhafoapaaGreatDdB
import Derived.Test.YtiogibfhafoapaaGreatDdC
import Derived.Test.YtiogibfhafoapaaGreatDdD
import Derived.Test.YtiogibfhafoapaaGreatDdE
import Derived.Test.YtiogibfhafoapaaGreatDdG
set_option maxRecDepth 100000
set_option maxHeartbeats 8000000
set_option linter.unusedSimpArgs false
set_option linter.unusedVariables false
namespace Go.Proofs.YtiogibfhafoapaaGreat
open Go.RowKit
open Z (Sli SlOk Acd AcdOk Elt)
theorem rjudge_any (w:World) (s:Sta) (hs:StaOk w s) (hpm:s.pn≤4194304) (hpw:∀p∈s.pools,LinWf (frL p)) (a:Acd) (hok:AcdOk w a) (hrg:JudgeRg s a) :
  Calls Tryz.prog 62 #[.agg (qS s),.agg (qA a)] w fun e w'=>∃T:Tld,e=.returned (.agg T.arr)∧T.d=judgeD s a∧TldOk w' T∧T.far w.heap.size a∧Below w.heap.size w w':=by
 have hk:=hrg.kind;rcases (show a.kind=1∨a.kind=2∨a.kind=3∨a.kind=4∨a.kind=5 by omega) with h | h | h | h | h
 ·exact rjudge_1 w s hs hpm hpw a hok hrg h
 ·exact rjudge_2 w s hs hpm hpw a hok hrg h
 ·exact rjudge_3 w s hs hpm hpw a hok hrg h
 ·rcases (hrg.right (by omega) (by omega)).2 with h2 | h2
  ·exact rjudge_40 w s hs hpm hpw a hok hrg h h2
  ·exact rjudge_41 w s hs hpm hpw a hok hrg h h2
 ·exact rjudge_5 w s hs hpm hpw a hok hrg h
end Go.Proofs.YtiogibfhafoapaaGreat
