import Derived.Test.YtfbegfapoijbnaaGreatRwI
set_option maxRecDepth 100000
namespace Go.Proofs.YtfbegfapoijbnaaGreat
open Go.RowKit
def Sta.want (s:Sta) (x:Tri):Bool:=s.isOpen x.a && (decide (x.b = -1) || decide (x.b=(getAt s.prices ⟨0,0⟩ x.a).n))
end Go.Proofs.YtfbegfapoijbnaaGreat
