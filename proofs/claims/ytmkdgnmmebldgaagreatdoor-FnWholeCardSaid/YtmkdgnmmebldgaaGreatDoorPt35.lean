import Derived.Test.YtmkdgnmmebldgaaGreatDoorPt2
import Derived.Test.YtmkdgnmmebldgaaGreatDoorPt5
import Derived.Test.YtmkdgnmmebldgaaGreatDoorPt3
import Derived.Laws.BitsAllLaws
set_option maxRecDepth 100000
set_option maxHeartbeats 8000000
namespace Go.Proofs.YtmkdgnmmebldgaaGreatDoor
open Go.RowKit Go.Deep
structure ShortN (r:MRoute):Prop where
 lies:r.lies.length≤1048576
 flanks:r.flanks.length≤1048576
theorem routeCell_box (w:World)(d:RAddr)(r:MRoute)(T:Nat):RouteCell (w.alloc (.cells #[.int .i64 r.start,.int .i64 r.stop,.slice d.a0 r.steps.length d.c0,.slice d.a1 r.lies.length d.c1,.slice d.a2 r.crosses.length d.c2,.slice d.a3 r.parts.length d.c3,.slice d.a4 r.over.length d.c4,.slice d.a5 r.flanks.length d.c5] T)) w.heap.size 0 d r:=by
 constructor <;> simp [go_sem]
end Go.Proofs.YtmkdgnmmebldgaaGreatDoor
namespace Go.Proofs.YtmkdgnmmebldgaaGreatDoor
open Go.RowKit
structure WfR (r:MRoute):Prop where
 lies:∀ i (h:i<r.lies.length),(Lit.int .i64 r.lies[i].piece).wf=true∧(Lit.int .i64 r.lies[i].side).wf=true
 flanks:∀ i (h:i<r.flanks.length),(Lit.int .i64 r.flanks[i].of).wf=true∧(Lit.int .i64 r.flanks[i].lie).wf=true
end Go.Proofs.YtmkdgnmmebldgaaGreatDoor
