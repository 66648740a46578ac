import Derived.Test.YtmkdgnmmebldgaaGreatDoorPt2
namespace Go.Proofs.YtmkdgnmmebldgaaGreatDoor
open Go.RowKit
theorem Only.alloc {S:Nat→Prop}{a w:World}(h:Only S a w)(o:Obj):Only S a (w.alloc o):=
 h.trans ⟨rfl,rfl,rfl,by simp,fun k hk _=>Below.heap_alloc _ _ _ hk⟩
end Go.Proofs.YtmkdgnmmebldgaaGreatDoor
