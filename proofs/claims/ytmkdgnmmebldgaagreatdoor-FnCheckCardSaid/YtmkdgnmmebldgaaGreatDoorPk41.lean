import Derived.Test.YtmkdgnmmebldgaaGreatDoorTie
import Derived.Test.YtmkdgnmmebldgaaGreatDoorCards
import Derived.Test.YtmkdgnmmebldgaaGreatDoorPk1
import Derived.OpenShut
import Derived.ChangeOld
import Derived.Stop.LaidErr
import Derived.ChangeSame
import Derived.ChangeVars
import Derived.JoinedOf
import Derived.RowKitTokens
import Derived.LaidLaws
import Derived.LaidHandle
import Derived.Stop.Joined
set_option maxRecDepth 100000
set_option maxHeartbeats 8000000
open Go.Proofs.Tryz
namespace Go.Proofs.YtmkdgnmmebldgaaGreatDoor
open Go.ChangeShapes Go.WideShapes Go.RowKit
theorem pG (hh:∀ (os:Os) (_:os.Started) (H:Type) (enc:TypeId × Value->H),ReturnsInHanded {} Tryz.checked os 5 .any (fun w args=>(Rows.fnCheckSpec.pre enc prog Tryz.f5 [] false w args/\laidMetH prog Rows.fnCheckRow.laid w)/\sizedMet enc prog Tryz.f5 (OpenSpec.ofChange Rows.fnCheckSpec) false w args)
   (Rows.fnCheckSpec.post enc prog Tryz.f5 false true false false)):Rows.FnCheckSaid:=
 OpenClaim.holds_of_wide 5 Tryz.f5 rfl rfl rfl rfl rfl rfl rfl ⟨rfl,rfl,rfl,rfl,rfl⟩ rfl rfl rfl rfl rfl CH func5 CH
  (of_decide_eq_true CH) (by unfold Func.isWrapper;first | (rw [if_pos (by decide +kernel)];kernel_rfl) | (rw [if_neg (by decide +kernel)];exact ⟨rfl,rfl⟩))
  (fun os a H enc _=>hh os a H enc)
theorem qB (th:Rows.FnCheckSaid):Rows.FnCheckCardSaid:=
 Claim7.holds_tied_plain_at .later [] [.handle] true _ true
  th (fun _ h=>by cases h) CH (fun _ h=>by cases h) fnCheck_row_tie rfl ⟨rfl,rfl⟩ CH rfl
  (fun f fn hf a=>by
   obtain rfl : f = 5 := Option.some.inj ((show prog.funcNamed "loop.example/lockbar/laws.FnCheck" = some 5 by kernel_rfl).symm.trans hf) |>.symm
   obtain rfl:fn=Tryz.f5:=(Option.some.inj (func5.symm.trans a)).symm;exact ⟨CH,fun j t ht=>by
    rw [params5] at ht;have h3:t=22:=by
     rcases j with _ | _ | j
     ·simpa using ht.symm
     ·simpa using ht.symm
     ·simp at ht
    subst h3;exact (show prog.wantsStandIn 22=false by kernel_rfl)⟩)
  CH
end Go.Proofs.YtmkdgnmmebldgaaGreatDoor
