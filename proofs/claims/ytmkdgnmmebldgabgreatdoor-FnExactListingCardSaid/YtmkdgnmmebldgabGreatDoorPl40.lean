import Derived.Test.YtmkdgnmmebldgabGreatDoorPl39
import Derived.Test.YtmkdgnmmebldgabGreatDoorPl35
import Derived.ProofKit
import Derived.Deep.Slices
import Derived.Deep.Strs
import Derived.Lib.SmallJoins
import Derived.Test.YtmkdgnmmebldgabGreatDoorPl2
import Derived.WalkKit
import Derived.OpenShut
import Derived.ShutString
import Derived.ChangeOld
import Derived.Below
set_option maxRecDepth 100000
set_option maxHeartbeats 8000000
namespace Go.Proofs.YtmkdgnmmebldgabGreatDoor
open Go.RowKit Go.Deep Go.ChangeShapes Go.WideShapes
theorem chooseL {α:Type}{p:Nat→α→Prop}:∀ (n:Nat),(∀ i,i<n→∃ x,p i x)→∃ l:List α,l.length=n∧∀ i (hi:i<l.length),p i l[i]
 | 0,_=>⟨[],rfl,fun i hi=>absurd hi (Nat.not_lt_zero i)⟩
 | n+1,h=>by
  obtain ⟨l,hl,hp⟩:=chooseL n (fun i hi=>h i (by omega))
  obtain ⟨x,hx⟩:=h n (by omega)
  refine ⟨l++[x],by simp [hl],fun i hi=>?_⟩
  by_cases e:i<l.length
  ·rw [List.getElem_append_left e];exact hp i e
  ·have:i=n:=by simp at hi;omega
   subst this
   simp [hl]
   exact hx
theorem addrAdd2 (b o n m:Nat):(Addr.add ⟨b,o,none⟩ n).add m=⟨b,o+n+m,none⟩:=by
 unfold Addr.add
 by_cases h1:n=0 <;> by_cases h2:m=0 <;> simp [h1,h2]
theorem spotOf {w:World}{a:Addr}{k n:Nat}{cs:List Value}(h:w.cells? 0 (a.add (0*k)) n=some cs)(hn:0<n):a.spot=none:=by
 obtain ⟨_,hlen,hc⟩:=World.cells?_some h
 have k0:=hc 0 hn
 rw [List.getElem?_eq_getElem (by omega)] at k0
 have:=World.cell?_spot k0
 simpa [Addr.add] using this
theorem Tryz.cellsI:Tryz.prog.cellsOf 3=1:=by kernel_rfl
theorem Tryz.cellsLStep:Tryz.prog.cellsOf 199=2:=by kernel_rfl
theorem Tryz.cellsLStepS:Tryz.prog.cellsOf 65=1:=by kernel_rfl
theorem Tryz.cellsLLie:Tryz.prog.cellsOf 201=2:=by kernel_rfl
theorem Tryz.cellsLLieS:Tryz.prog.cellsOf 66=1:=by kernel_rfl
theorem Tryz.cellsLIntS:Tryz.prog.cellsOf 54=1:=by kernel_rfl
theorem Tryz.cellsLPart:Tryz.prog.cellsOf 203=3:=by kernel_rfl
theorem Tryz.cellsLPartS:Tryz.prog.cellsOf 67=1:=by kernel_rfl
theorem Tryz.cellsLFlank:Tryz.prog.cellsOf 205=4:=by kernel_rfl
theorem Tryz.cellsLFlankS:Tryz.prog.cellsOf 68=1:=by kernel_rfl
theorem Tryz.cellsLRoute:Tryz.prog.cellsOf 70=8:=by kernel_rfl
section
variable {H:Type} {enc:TypeId × Value→H} {w:World}
theorem openStepS {fuel:Nat}{cs:List Value}{y:DataW H × List MemPlace}(h:DataW.trod enc Tryz.prog w 0 (fun _=>true) true fuel 65 cs=some y):
  ∃ (a:Option Addr) (cap:Nat) (ps:List MEnd),cs=[.slice a ps.length cap]∧EndsAt w a ps:=by
 rcases open_slice Tryz.underlying65 h with ⟨hcs,_⟩ | ⟨a,len,cap,m,n,D,Pl,hcs,_,hl,hm,hmm,_,hx⟩
 ·exact ⟨none,0,[],hcs,by simp [maxLen],Or.inl rfl⟩
 ·rw [if_pos rfl] at hmm
  subst hmm
  by_cases hl0:len=0
  ·subst hl0
   exact ⟨some a,m,[],hcs,by simp [maxLen],Or.inl rfl⟩
  obtain ⟨cs0,hcs0,_⟩:=hx 0 (by omega)
  have hspot:=spotOf hcs0 (by rw [Tryz.cellsLStep];omega)
  clear hcs0
  obtain ⟨ab,ao,asp⟩:=a
  simp only at hspot
  subst hspot
  have hi:∀ i,i<len→∃ p:MEnd,w.cell? ⟨ab,ao+i*2,none⟩=some (.int .i64 p.piece)∧w.cell? ⟨ab,ao+i*2+1,none⟩=some (.int .i64 p.side):=by
   intro i hi
   obtain ⟨cs',h1,h2⟩:=hx i (by omega)
   rw [Tryz.cellsLStep] at h1
   obtain ⟨_,hlen,hc⟩:=World.cells?_some h1
   match cs',hlen with
   | [c0,c1],_ =>
    obtain ⟨y0,y1,n',_,_,t0,t1⟩:=trod_struct2 Tryz.underlying199 h2
    simp [Tryz.cellsI] at t0 t1
    obtain ⟨x0,e0,_,_⟩:=DataW.trod_int Tryz.underlying3 t0
    obtain ⟨x1,e1,_,_⟩:=DataW.trod_int Tryz.underlying3 t1
    simp at e0 e1
    subst e0 e1
    have k0:=hc 0 (by omega)
    have k1:=hc 1 (by omega)
    rw [addrAdd2] at k0 k1
    simp at k0 k1
    exact ⟨⟨x0,x1⟩,k0,k1⟩
  obtain ⟨ps,hpl,hp⟩:=chooseL len hi
  subst hpl
  refine ⟨_,m,ps,hcs,by omega,?_⟩
  exact Or.inr ⟨ab,ao,rfl,fun i hi'=>hp i hi'⟩
theorem openLieS {fuel:Nat}{cs:List Value}{y:DataW H × List MemPlace}(h:DataW.trod enc Tryz.prog w 0 (fun _=>true) true fuel 66 cs=some y):
  ∃ (a:Option Addr) (cap:Nat) (ps:List MEnd),cs=[.slice a ps.length cap]∧EndsAt w a ps∧(a=none→cap=0)∧∀ i (h:i<ps.length),(Lit.int .i64 ps[i].piece).wf=true∧(Lit.int .i64 ps[i].side).wf=true:=by
 rcases open_slice Tryz.underlying66 h with ⟨hcs,_⟩ | ⟨a,len,cap,m,n,D,Pl,hcs,_,hl,hm,hmm,_,hx⟩
 ·exact ⟨none,0,[],hcs,⟨by simp [maxLen],Or.inl rfl⟩,(fun e=>by first | rfl | cases e),fun i h=>absurd h (by simp)⟩
 ·rw [if_pos rfl] at hmm
  subst hmm
  by_cases hl0:len=0
  ·subst hl0
   exact ⟨some a,m,[],hcs,⟨by simp [maxLen],Or.inl rfl⟩,(fun e=>by first | rfl | cases e),fun i h=>absurd h (by simp)⟩
  obtain ⟨cs0,hcs0,_⟩:=hx 0 (by omega)
  have hspot:=spotOf hcs0 (by rw [Tryz.cellsLLie];omega)
  clear hcs0
  obtain ⟨ab,ao,asp⟩:=a
  simp only at hspot
  subst hspot
  have hi:∀ i,i<len→∃ p:MEnd,w.cell? ⟨ab,ao+i*2,none⟩=some (.int .i64 p.piece)∧w.cell? ⟨ab,ao+i*2+1,none⟩=some (.int .i64 p.side)∧(Lit.int .i64 p.piece).wf=true∧(Lit.int .i64 p.side).wf=true:=by
   intro i hi
   obtain ⟨cs',h1,h2⟩:=hx i (by omega)
   rw [Tryz.cellsLLie] at h1
   obtain ⟨_,hlen,hc⟩:=World.cells?_some h1
   match cs',hlen with
   | [c0,c1],_ =>
    obtain ⟨y0,y1,n',_,_,t0,t1⟩:=trod_struct2 Tryz.underlying201 h2
    simp [Tryz.cellsI] at t0 t1
    obtain ⟨x0,e0,_,v0⟩:=DataW.trod_int Tryz.underlying3 t0
    obtain ⟨x1,e1,_,v1⟩:=DataW.trod_int Tryz.underlying3 t1
    simp at e0 e1
    subst e0 e1
    have k0:=hc 0 (by omega)
    have k1:=hc 1 (by omega)
    rw [addrAdd2] at k0 k1
    simp at k0 k1
    exact ⟨⟨x0,x1⟩,k0,k1,v0,v1⟩
  obtain ⟨ps,hpl,hp⟩:=chooseL len hi
  subst hpl
  exact ⟨_,m,ps,hcs,⟨by omega,Or.inr ⟨ab,ao,rfl,fun i hi'=>⟨(hp i hi').1,(hp i hi').2.1⟩⟩⟩,(fun e=>by cases e),fun i hi'=>(hp i hi').2.2⟩
theorem openIntS {fuel:Nat}{cs:List Value}{y:DataW H × List MemPlace}(h:DataW.trod enc Tryz.prog w 0 (fun _=>true) true fuel 54 cs=some y):
  ∃ (a:Option Addr) (cap:Nat) (ps:List Int),cs=[.slice a ps.length cap]∧NumsAt w a ps:=by
 rcases open_slice Tryz.underlying54 h with ⟨hcs,_⟩ | ⟨a,len,cap,m,n,D,Pl,hcs,_,hl,hm,hmm,_,hx⟩
 ·exact ⟨none,0,[],hcs,by simp [maxLen],Or.inl rfl⟩
 ·rw [if_pos rfl] at hmm
  subst hmm
  by_cases hl0:len=0
  ·subst hl0
   exact ⟨some a,m,[],hcs,by simp [maxLen],Or.inl rfl⟩
  obtain ⟨cs0,hcs0,_⟩:=hx 0 (by omega)
  have hspot:=spotOf hcs0 (by rw [Tryz.cellsI];omega)
  clear hcs0
  obtain ⟨ab,ao,asp⟩:=a
  simp only at hspot
  subst hspot
  have hi:∀ i,i<len→∃ p:Int,w.cell? ⟨ab,ao+i,none⟩=some (.int .i64 p):=by
   intro i hi
   obtain ⟨cs',h1,h2⟩:=hx i (by omega)
   rw [Tryz.cellsI] at h1
   obtain ⟨_,hlen,hc⟩:=World.cells?_some h1
   match cs',hlen with
   | [c0],_ =>
    obtain ⟨x0,e0,_,_⟩:=DataW.trod_int Tryz.underlying3 h2
    simp at e0
    subst e0
    have k0:=hc 0 (by omega)
    rw [addrAdd2] at k0
    simp at k0
    exact ⟨x0,k0⟩
  obtain ⟨ps,hpl,hp⟩:=chooseL len hi
  subst hpl
  refine ⟨_,m,ps,hcs,by omega,?_⟩
  exact Or.inr ⟨ab,ao,rfl,fun i hi'=>hp i hi'⟩
theorem openPartS {fuel:Nat}{cs:List Value}{y:DataW H × List MemPlace}(h:DataW.trod enc Tryz.prog w 0 (fun _=>true) true fuel 67 cs=some y):
  ∃ (a:Option Addr) (cap:Nat) (ps:List MPart),cs=[.slice a ps.length cap]∧PartsAt w a ps:=by
 rcases open_slice Tryz.underlying67 h with ⟨hcs,_⟩ | ⟨a,len,cap,m,n,D,Pl,hcs,_,hl,hm,hmm,_,hx⟩
 ·exact ⟨none,0,[],hcs,by simp [maxLen],Or.inl rfl⟩
 ·rw [if_pos rfl] at hmm
  subst hmm
  by_cases hl0:len=0
  ·subst hl0
   exact ⟨some a,m,[],hcs,by simp [maxLen],Or.inl rfl⟩
  obtain ⟨cs0,hcs0,_⟩:=hx 0 (by omega)
  have hspot:=spotOf hcs0 (by rw [Tryz.cellsLPart];omega)
  clear hcs0
  obtain ⟨ab,ao,asp⟩:=a
  simp only at hspot
  subst hspot
  have hi:∀ i,i<len→∃ p:MPart,w.cell? ⟨ab,ao+i*3,none⟩=some (.int .i64 p.piece)∧w.cell? ⟨ab,ao+i*3+1,none⟩=some (.int .i64 p.lo)∧w.cell? ⟨ab,ao+i*3+2,none⟩=some (.int .i64 p.hi):=by
   intro i hi
   obtain ⟨cs',h1,h2⟩:=hx i (by omega)
   rw [Tryz.cellsLPart] at h1
   obtain ⟨_,hlen,hc⟩:=World.cells?_some h1
   match cs',hlen with
   | [c0,c1,c2],_ =>
    obtain ⟨y0,y1,y2,n',_,_,t0,t1,t2⟩:=trod_struct3 Tryz.underlying203 h2
    simp [Tryz.cellsI] at t0 t1 t2
    obtain ⟨x0,e0,_,_⟩:=DataW.trod_int Tryz.underlying3 t0
    obtain ⟨x1,e1,_,_⟩:=DataW.trod_int Tryz.underlying3 t1
    obtain ⟨x2,e2,_,_⟩:=DataW.trod_int Tryz.underlying3 t2
    simp at e0 e1 e2
    subst e0 e1 e2
    have k0:=hc 0 (by omega)
    have k1:=hc 1 (by omega)
    have k2:=hc 2 (by omega)
    rw [addrAdd2] at k0 k1 k2
    simp at k0 k1 k2
    exact ⟨⟨x0,x1,x2⟩,k0,k1,k2⟩
  obtain ⟨ps,hpl,hp⟩:=chooseL len hi
  subst hpl
  refine ⟨_,m,ps,hcs,by omega,?_⟩
  exact Or.inr ⟨ab,ao,rfl,fun i hi'=>hp i hi'⟩
theorem openFlankS {fuel:Nat}{cs:List Value}{y:DataW H × List MemPlace}(h:DataW.trod enc Tryz.prog w 0 (fun _=>true) true fuel 68 cs=some y):
  ∃ (a:Option Addr) (cap:Nat) (ps:List MFlank),cs=[.slice a ps.length cap]∧FlanksAt w a ps∧∀ i (h:i<ps.length),(Lit.int .i64 ps[i].of).wf=true∧(Lit.int .i64 ps[i].lie).wf=true:=by
 rcases open_slice Tryz.underlying68 h with ⟨hcs,_⟩ | ⟨a,len,cap,m,n,D,Pl,hcs,_,hl,hm,hmm,_,hx⟩
 ·exact ⟨none,0,[],hcs,⟨by simp [maxLen],Or.inl rfl⟩,fun i h=>absurd h (by simp)⟩
 ·rw [if_pos rfl] at hmm
  subst hmm
  by_cases hl0:len=0
  ·subst hl0
   exact ⟨some a,m,[],hcs,⟨by simp [maxLen],Or.inl rfl⟩,fun i h=>absurd h (by simp)⟩
  obtain ⟨cs0,hcs0,_⟩:=hx 0 (by omega)
  have hspot:=spotOf hcs0 (by rw [Tryz.cellsLFlank];omega)
  clear hcs0
  obtain ⟨ab,ao,asp⟩:=a
  simp only at hspot
  subst hspot
  have hi:∀ i,i<len→∃ p:MFlank,w.cell? ⟨ab,ao+i*4,none⟩=some (.int .i64 p.place)∧w.cell? ⟨ab,ao+i*4+1,none⟩=some (.int .i64 p.kind)∧w.cell? ⟨ab,ao+i*4+2,none⟩=some (.int .i64 p.of)∧w.cell? ⟨ab,ao+i*4+3,none⟩=some (.int .i64 p.lie)∧(Lit.int .i64 p.of).wf=true∧(Lit.int .i64 p.lie).wf=true:=by
   intro i hi
   obtain ⟨cs',h1,h2⟩:=hx i (by omega)
   rw [Tryz.cellsLFlank] at h1
   obtain ⟨_,hlen,hc⟩:=World.cells?_some h1
   match cs',hlen with
   | [c0,c1,c2,c3],_ =>
    obtain ⟨y0,y1,y2,y3,n',_,_,t0,t1,t2,t3⟩:=Joins.trod_struct4 Tryz.underlying205 h2
    simp [Tryz.cellsI] at t0 t1 t2 t3
    obtain ⟨x0,e0,_,_⟩:=DataW.trod_int Tryz.underlying3 t0
    obtain ⟨x1,e1,_,_⟩:=DataW.trod_int Tryz.underlying3 t1
    obtain ⟨x2,e2,_,v2⟩:=DataW.trod_int Tryz.underlying3 t2
    obtain ⟨x3,e3,_,v3⟩:=DataW.trod_int Tryz.underlying3 t3
    simp at e0 e1 e2 e3
    subst e0 e1 e2 e3
    have k0:=hc 0 (by omega)
    have k1:=hc 1 (by omega)
    have k2:=hc 2 (by omega)
    have k3:=hc 3 (by omega)
    rw [addrAdd2] at k0 k1 k2 k3
    simp at k0 k1 k2 k3
    exact ⟨⟨x0,x1,x2,x3⟩,k0,k1,k2,k3,v2,v3⟩
  obtain ⟨ps,hpl,hp⟩:=chooseL len hi
  subst hpl
  exact ⟨_,m,ps,hcs,⟨by omega,Or.inr ⟨ab,ao,rfl,fun i hi'=>⟨(hp i hi').1,(hp i hi').2.1,(hp i hi').2.2.1,(hp i hi').2.2.2.1⟩⟩⟩,fun i hi'=>(hp i hi').2.2.2.2⟩
theorem openRoute {fuel:Nat}{c0 c1 c2 c3 c4 c5 c6 c7:Value}{y:DataW H × List MemPlace}(h:DataW.trod enc Tryz.prog w 0 (fun _=>true) true fuel 70 [c0,c1,c2,c3,c4,c5,c6,c7]=some y):
  ∃ (d:RAddr) (r:MRoute),c0 = .int .i64 r.start∧c1 = .int .i64 r.stop∧c2 = .slice d.a0 r.steps.length d.c0∧c3 = .slice d.a1 r.lies.length d.c1∧c4 = .slice d.a2 r.crosses.length d.c2∧c5 = .slice d.a3 r.parts.length d.c3∧c6 = .slice d.a4 r.over.length d.c4∧c7 = .slice d.a5 r.flanks.length d.c5∧RListsAt w d r∧WfR r:=by
 obtain ⟨xs,n,_,rfl,hl,hlen,hf⟩:=DataW.trod_struct Tryz.underlying70 h
 match xs,hlen with
 | [y0,y1,y2,y3,y4,y5,y6,y7],_ =>
  have t0:=hf 0 _ rfl
  have t1:=hf 1 _ rfl
  have t2:=hf 2 _ rfl
  have t3:=hf 3 _ rfl
  have t4:=hf 4 _ rfl
  have t5:=hf 5 _ rfl
  have t6:=hf 6 _ rfl
  have t7:=hf 7 _ rfl
  simp [Tryz.cellsI,Tryz.cellsLStepS,Tryz.cellsLLieS,Tryz.cellsLIntS,Tryz.cellsLPartS,Tryz.cellsLFlankS] at t0 t1 t2 t3 t4 t5 t6 t7
  obtain ⟨x0,e0,_,_⟩:=DataW.trod_int Tryz.underlying3 t0
  obtain ⟨x1,e1,_,_⟩:=DataW.trod_int Tryz.underlying3 t1
  obtain ⟨b0,k0,l0,f0,m0⟩:=openStepS t2
  obtain ⟨b1,k1,l1,f1,m1,z1,n1⟩:=openLieS t3
  obtain ⟨b2,k2,l2,f2,m2⟩:=openIntS t4
  obtain ⟨b3,k3,l3,f3,m3⟩:=openPartS t5
  obtain ⟨b4,k4,l4,f4,m4⟩:=openPartS t6
  obtain ⟨b5,k5,l5,f5,m5,n5⟩:=openFlankS t7
  simp at e0 e1 f0 f1 f2 f3 f4 f5
  subst e0 e1 f0 f1 f2 f3 f4 f5
  exact ⟨⟨b0,k0,b1,k1,b2,k2,b3,k3,b4,k4,b5,k5⟩,⟨x0,x1,l0,l1,l2,l3,l4,l5⟩,rfl,rfl,rfl,rfl,rfl,rfl,rfl,rfl,⟨m0,m1,m2,m3,m4,m5,z1⟩,⟨n1,n5⟩⟩
end
end Go.Proofs.YtmkdgnmmebldgabGreatDoor
namespace Go.Proofs.YtmkdgnmmebldgabGreatDoor
open Go.ChangeShapes Go.WideShapes Go.ChangeAt Go.RowKit Go.Deep
section
variable {H:Type} {enc:TypeId × Value→H} {w:World}
theorem openRoutesC {fuel:Nat}{cs:List Value}{y:DataW H × List MemPlace}(h:DataW.trod enc Tryz.prog w 0 (fun _=>true) true fuel 27 cs=some y):
  ∃ (a:Option Addr) (cap:Nat) (rs:List MRoute),cs=[.slice a rs.length cap]∧RoutesAt w a rs:=by
 rcases open_slice Tryz.underlying27 h with ⟨hcs,_⟩ | ⟨a,len,cap,m,n,D,Pl,hcs,_,hl,hm,hmm,_,hx⟩
 ·exact ⟨none,0,[],hcs,⟨by simp [maxLen],Or.inl rfl⟩⟩
 ·rw [if_pos rfl] at hmm
  subst hmm
  by_cases hl0:len=0
  ·subst hl0
   exact ⟨some a,m,[],hcs,⟨by simp [maxLen],Or.inl rfl⟩⟩
  obtain ⟨cs0,hcs0,_⟩:=hx 0 (by omega)
  have hspot:=spotOf hcs0 (by rw [Tryz.cellsLRoute];omega)
  clear hcs0
  obtain ⟨ab,ao,asp⟩:=a
  simp only at hspot
  subst hspot
  have hi:∀ i,i<len→∃ r:MRoute,∃ d,RouteCell w ab (ao+i*8) d r∧RListsAt w d r:=by
   intro i hi
   obtain ⟨cs',h1,h2⟩:=hx i (by omega)
   rw [Tryz.cellsLRoute] at h1
   obtain ⟨_,hlen,hc⟩:=World.cells?_some h1
   obtain ⟨c0,c1,c2,c3,c4,c5,c6,c7,rfl⟩:∃ c0 c1 c2 c3 c4 c5 c6 c7,cs'=[c0,c1,c2,c3,c4,c5,c6,c7]:=by
    match cs',hlen with
    | [c0,c1,c2,c3,c4,c5,c6,c7],_=>exact ⟨c0,c1,c2,c3,c4,c5,c6,c7,rfl⟩
   obtain ⟨d,r,rfl,rfl,rfl,rfl,rfl,rfl,rfl,rfl,hl,_⟩:=openRoute h2
   have k0:=hc 0 (by omega)
   have k1:=hc 1 (by omega)
   have k2:=hc 2 (by omega)
   have k3:=hc 3 (by omega)
   have k4:=hc 4 (by omega)
   have k5:=hc 5 (by omega)
   have k6:=hc 6 (by omega)
   have k7:=hc 7 (by omega)
   rw [addrAdd2] at k0 k1 k2 k3 k4 k5 k6 k7
   simp at k0 k1 k2 k3 k4 k5 k6 k7
   exact ⟨r,d,⟨k0,k1,k2,k3,k4,k5,k6,k7⟩,hl⟩
  obtain ⟨rs,hpl,hp⟩:=chooseL len hi
  subst hpl
  exact ⟨_,m,rs,hcs,⟨by omega,Or.inr ⟨ab,ao,rfl,fun i hi'=>hp i hi'⟩⟩⟩
end
end Go.Proofs.YtmkdgnmmebldgabGreatDoor
