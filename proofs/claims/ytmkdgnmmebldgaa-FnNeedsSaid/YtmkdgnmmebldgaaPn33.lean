import Derived.Test.YtmkdgnmmebldgaaPn13
import Derived.Test.YtmkdgnmmebldgaaPn7
import Derived.Test.YtmkdgnmmebldgaaPn16
import Derived.Laws.BitsLemmas
import Derived.Test.YtmkdgnmmebldgaaPn14
import Derived.Deep.RegionHeld3
namespace Go.Proofs.Ytmkdgnmmebldgaa
open Go.RowKit Go.Deep
structure TNet (w : World) (K : Nat) (pa ja sa : Option Addr) (pc jc sc : Nat) (ps : List MPiece) (js : List MJoint) (ss : List MPiece) : Prop where
  c0 : w.cell? ⟨K, 0, none⟩ = some (.slice pa ps.length pc)
  c1 : w.cell? ⟨K, 1, none⟩ = some (.slice ja js.length jc)
  c2 : w.cell? ⟨K, 2, none⟩ = some (.slice sa ss.length sc)
  P : PiecesAt w pa ps
  J : JointsAt w ja js
  S : PiecesAt w sa ss
theorem TNet.below {w w' : World} {K : Nat} {pa ja sa : Option Addr} {pc jc sc : Nat} {ps : List MPiece} {js : List MJoint} {ss : List MPiece} (h : TNet w K pa ja sa pc jc sc ps js ss) (hb : Below w.heap.size w w') : TNet w' K pa ja sa pc jc sc ps js ss :=
  ⟨cell_later hb h.c0, cell_later hb h.c1, cell_later hb h.c2, h.P.below hb, h.J.below hb, h.S.below hb⟩
end Go.Proofs.Ytmkdgnmmebldgaa

namespace Go.Proofs.Ytmkdgnmmebldgaa
open Go.RowKit Go.Deep
end Go.Proofs.Ytmkdgnmmebldgaa
