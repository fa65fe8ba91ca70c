import Derived.Test.YtiogibfhafoapaaGreatAbA
set_option maxRecDepth 100000
set_option maxHeartbeats 8000000
set_option linter.unusedSimpArgs false
set_option linter.unusedVariables false
namespace Go.Proofs.YtiogibfhafoapaaGreat
open Go.RowKit
open Z (Eda)
abbrev qE (e:Eda):Array Value:=#[.int .u64 e.po,.int .i64 e.ac.till,.int .u64 e.ac.num,.int .i64 e.ac.kind,.bool e.ac.sure,.slice e.ac.lines.p e.ac.lines.n e.ac.lines.c,.slice e.ac.guards.p e.ac.guards.n e.ac.guards.c,.slice e.ac.sets.p e.ac.sets.n e.ac.sets.c,.int .i64 e.ac.mg,.slice e.ac.other.p e.ac.other.n e.ac.other.c,.int .i64 e.ac.ra,.int .i64 e.ac.rb,.int .i64 e.ac.rd,.int .i64 e.ac.to,.int .u64 e.ac.gen,.slice e.ac.rights.p e.ac.rights.n e.ac.rights.c,.int .i64 e.oc,.slice e.made.p e.made.n e.made.c,.slice e.sets.p e.sets.n e.sets.c,.int .i64 e.n,.int .i64 e.fe,.int .u64 e.ge]
end Go.Proofs.YtiogibfhafoapaaGreat
