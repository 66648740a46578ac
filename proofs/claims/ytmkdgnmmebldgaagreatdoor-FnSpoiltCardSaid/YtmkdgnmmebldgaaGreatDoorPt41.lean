import Derived.Test.YtmkdgnmmebldgaaGreatDoorPt40
import Derived.Test.YtmkdgnmmebldgaaGreatDoorPt1
import Derived.ProofKit
import Derived.Deep.Slices
import Derived.Deep.Strs
import Derived.Lib.SmallJoins
import Derived.WalkKit
import Derived.OpenShut
import Derived.ShutString
import Derived.ChangeOld
import Derived.Below
import Derived.Test.YtmkdgnmmebldgaaGreatDoorTie
import Derived.Test.YtmkdgnmmebldgaaGreatDoorCards
import Derived.Stop.LaidErr
import Derived.ChangeSame
import Derived.ChangeVars
import Derived.JoinedOf
import Derived.RowKitTokens
import Derived.LaidLaws
import Derived.LaidHandle
import Derived.Stop.Joined
set_option maxRecDepth 100000
set_option maxHeartbeats 8000000
namespace Go.Proofs.YtmkdgnmmebldgaaGreatDoor
open Go.RowKit Go.Deep
structure BytesAt (w:World)(a:Option Addr)(bs:List Int):Prop where
 len:bs.length≤maxLen
 lie:bs=[]∨∃ b off,a=some ⟨b,off,none⟩∧ByteCells w b off bs
 small:∀ x ∈ bs,0≤x∧x<256
end Go.Proofs.YtmkdgnmmebldgaaGreatDoor
namespace Go.Proofs.YtmkdgnmmebldgaaGreatDoor
open Go.RowKit Go.Deep Go.ChangeShapes Go.WideShapes
theorem chooseB {α:Type}{p:Nat→α→Prop}:∀ (n:Nat),(∀ i,i<n→∃ x,p i x)→∃ l:List α,l.length=n∧∀ i (hi:i<l.length),p i l[i]
 | 0,_=>⟨[],rfl,fun i hi=>absurd hi (Nat.not_lt_zero i)⟩
 | n+1,h=>by
  obtain ⟨l,hl,hp⟩:=chooseB n (fun i hi=>h i (by omega))
  obtain ⟨x,hx⟩:=h n (by omega)
  refine ⟨l++[x],by simp [hl],fun i hi=>?_⟩
  by_cases e:i<l.length
  ·rw [List.getElem_append_left e];exact hp i e
  ·have:i=n:=by simp at hi;omega
   subst this
   simp [hl]
   exact hx
theorem addrAddB (b o n m:Nat):(Addr.add ⟨b,o,none⟩ n).add m=⟨b,o+n+m,none⟩:=by
 unfold Addr.add
 by_cases h1:n=0 <;> by_cases h2:m=0 <;> simp [h1,h2]
theorem spotOfB {w:World}{a:Addr}{k n:Nat}{cs:List Value}(h:w.cells? 0 (a.add (0*k)) n=some cs)(hn:0<n):a.spot=none:=by
 obtain ⟨_,hlen,hc⟩:=World.cells?_some h
 have k0:=hc 0 hn
 rw [List.getElem?_eq_getElem (by omega)] at k0
 have:=World.cell?_spot k0
 simpa [Addr.add] using this
theorem Tryz.laidOutD:Go.laidOutB Tryz.prog=true:=by kernel_rfl
theorem ownDraws:ownKnob Tryz.prog.godebug=none:=by kernel_rfl
end Go.Proofs.YtmkdgnmmebldgaaGreatDoor
namespace Go.Proofs.YtmkdgnmmebldgaaGreatDoor
open Go.ChangeShapes Go.WideShapes Go.ChangeAt Go.RowKit Go.Deep
theorem Tryz.cellsU8:Tryz.prog.cellsOf 5=1:=by kernel_rfl
theorem u8_small {x:Int}(h:(Lit.int .u8 x).wf=true):0≤x∧x<256:=by
 have e1:IntKind.u8.min=0:=by decide
 have e2:IntKind.u8.max=255:=by decide
 simp only [Lit.wf,e1,e2] at h
 simp at h
 omega
section
variable {H:Type} {enc:TypeId × Value→H} {w:World}
theorem openByteS {fuel:Nat}{cs:List Value}{y:DataW H × List MemPlace}(h:DataW.trod enc Tryz.prog w 0 (fun _=>true) true fuel 22 cs=some y):
  ∃ (a:Option Addr) (cap:Nat) (bs:List Int),cs=[.slice a bs.length cap]∧BytesAt w a bs:=by
 rcases open_slice Tryz.underlying22 h with ⟨hcs,_⟩ | ⟨a,len,cap,m,n,D,Pl,hcs,_,hl,hm,hmm,_,hx⟩
 ·exact ⟨none,0,[],hcs,by simp [maxLen],Or.inl rfl,fun x hx=>by cases hx⟩
 ·rw [if_pos rfl] at hmm
  subst hmm
  by_cases hl0:len=0
  ·subst hl0
   exact ⟨some a,m,[],hcs,by simp [maxLen],Or.inl rfl,fun x hx=>by cases hx⟩
  obtain ⟨cs0,hcs0,_⟩:=hx 0 (by omega)
  have hspot:=spotOfB hcs0 (by rw [Tryz.cellsU8];omega)
  clear hcs0
  obtain ⟨ab,ao,asp⟩:=a
  simp only at hspot
  subst hspot
  have hi:∀ i,i<len→∃ p:Int,w.cell? ⟨ab,ao+i,none⟩=some (.int .u8 p)∧0≤p∧p<256:=by
   intro i hi
   obtain ⟨cs',h1,h2⟩:=hx i (by omega)
   rw [Tryz.cellsU8] at h1
   obtain ⟨_,hlen,hc⟩:=World.cells?_some h1
   match cs',hlen with
   | [c0],_ =>
    obtain ⟨x0,e0,_,hw⟩:=DataW.trod_int Tryz.underlying5 h2
    simp at e0
    subst e0
    have k0:=hc 0 (by omega)
    rw [addrAddB] at k0
    simp at k0
    exact ⟨x0,k0,u8_small hw⟩
  obtain ⟨ps,hpl,hp⟩:=chooseB len hi
  subst hpl
  refine ⟨_,m,ps,hcs,by omega,Or.inr ⟨ab,ao,rfl,fun i hi'=>(hp i hi').1⟩,fun x hx'=>?_⟩
  obtain ⟨i,hi',rfl⟩:=List.getElem_of_mem hx'
  exact (hp i hi').2
theorem openBytesV {r0:Reach}{b0:Nat}{v:Value}{d:DataW H}{p:List MemPlace}(hv:Value.okWide Tryz.prog w r0 b0 22 v)(h:DataW.Trod enc Tryz.prog w 0 (fun _=>true) true 22 v d p):
  ∃ (a:Option Addr) (cap:Nat) (bs:List Int),v = .slice a bs.length cap∧BytesAt w a bs:=by
 obtain ⟨a0,len,cap,rfl⟩:=okWide_slice Tryz.underlying22 hv
 obtain ⟨fuel,hf⟩:=h
 obtain ⟨a,c,bs,hcs,hb⟩:=openByteS (by simpa [Value.cells] using hf)
 refine ⟨a,c,bs,?_,hb⟩
 simpa using hcs
end
end Go.Proofs.YtmkdgnmmebldgaaGreatDoor
namespace Go.Proofs.YtmkdgnmmebldgaaGreatDoor
open Go.ChangeShapes Go.WideShapes Go.RowKit
theorem spoilt_holds_of (hh:∀ (os:Os) (_:os.Started) (H:Type) (enc:TypeId × Value→H),ReturnsInHanded {} Tryz.checked os 7 .any (fun w args=>(Rows.fnSpoiltSpec.pre enc Tryz.prog Tryz.f7 [] false w args∧laidMetH Tryz.prog Rows.fnSpoiltRow.laid w)∧sizedMet enc Tryz.prog Tryz.f7 (OpenSpec.ofChange Rows.fnSpoiltSpec) false w args)
   (Rows.fnSpoiltSpec.post enc Tryz.prog Tryz.f7 false true false false)):Rows.FnSpoiltSaid:=
 OpenClaim.holds_of_wide 7 Tryz.f7 rfl rfl rfl rfl rfl rfl rfl ⟨rfl,rfl,rfl,rfl,rfl⟩ rfl rfl rfl rfl rfl (by kernel_rfl) Tryz.func7 (by kernel_rfl)
  (of_decide_eq_true (by kernel_rfl)) (by unfold Func.isWrapper;first | (rw [if_pos (by decide +kernel)];kernel_rfl) | (rw [if_neg (by decide +kernel)];exact ⟨rfl,rfl⟩))
  (fun os started H enc _=>hh os started H enc)
theorem spoilt_card_of (th:Rows.FnSpoiltSaid):Rows.FnSpoiltCardSaid:=
 Claim7.holds_tied_plain_at .later [] [.data,.data,.data,.handle] true _ true
  th (fun _ h=>by cases h) (by kernel_rfl) (fun _ h=>by cases h) fnSpoilt_row_tie rfl ⟨rfl,rfl⟩ (by kernel_rfl) rfl
  (fun f fn hf hfn=>by
   obtain rfl : f = 7 := Option.some.inj ((show Tryz.prog.funcNamed "loop.example/lockbar/laws.FnSpoilt" = some 7 by kernel_rfl).symm.trans hf) |>.symm
   obtain rfl:fn=Tryz.f7:=(Option.some.inj (Tryz.func7.symm.trans hfn)).symm
   exact ⟨by kernel_rfl,fun j t ht=>by
    rw [Tryz.params7] at ht
    have h3:t=22:=by
     rcases j with _ | j
     ·simpa using ht.symm
     ·simp at ht
    subst h3
    exact (show Tryz.prog.wantsStandIn 22=false by kernel_rfl)⟩)
  (by kernel_rfl)
end Go.Proofs.YtmkdgnmmebldgaaGreatDoor
