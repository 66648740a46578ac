import Derived.Test.YtmkdgnmmebldgaaGreatDoorPt2
import Derived.Test.YtmkdgnmmebldgaaGreatDoorPt5
import Derived.Test.YtmkdgnmmebldgaaGreatDoorPt4
set_option maxRecDepth 100000
set_option maxHeartbeats 8000000
namespace Go.Proofs.YtmkdgnmmebldgaaGreatDoor
abbrev MStep:=MEnd
abbrev MLie:=MEnd
def lenI (ps:List MPiece)(p:Int):Int:=(ps[p.toNat]?.map MPiece.len).getD 0
def endAt (ps:List MPiece)(e:MEnd):Int:=if e.side=0 then 0 else lenI ps e.piece
def aheadE (s:MStep):MEnd:=if s.side=1 then ⟨s.piece,1⟩ else ⟨s.piece,0⟩
def stepFromE (e:MEnd):MStep:=if e.side=0 then ⟨e.piece,1⟩ else ⟨e.piece,-1⟩
def farE (e:MEnd):MEnd:=⟨e.piece,1-e.side⟩
def sameE (a b:MEnd):Bool:=a.piece==b.piece&&a.side==b.side
def sameS (a b:MStep):Bool:=a.piece==b.piece&&a.side==b.side
def sigAt (ss:List MPiece)(b:Int):Int:=(ss[b.toNat]?.map MPiece.speed).getD 0
def nextB (ss:List MPiece)(piece way pos:Int):Nat→Int
 | 0 => -1
 | k+1 =>
  match ss[k]? with
  | none=>nextB ss piece way pos k
  | some s =>
   if s.len≠piece∨s.brake≠way∨(s.speed-pos)*way≤0 then nextB ss piece way pos k
   else if nextB ss piece way pos k<0∨(s.speed-sigAt ss (nextB ss piece way pos k))*way<0 then (k:Int)
   else nextB ss piece way pos k
def guardB (ss:List MPiece)(piece way:Int):Nat→Int
 | 0 => -1
 | k+1 =>
  match ss[k]? with
  | none=>guardB ss piece way k
  | some s =>
   if s.len≠piece∨s.brake≠way then guardB ss piece way k
   else if guardB ss piece way k<0∨0<(s.speed-sigAt ss (guardB ss piece way k))*way then (k:Int)
   else guardB ss piece way k
def spotF:List MJoint→MEnd→Nat→Option (Nat × Nat)
 | [],_,_=>none
 | j::r,e,i =>
  match j.ends.findIdx? (fun x=>sameE x e) with
  | some k=>some (i,k)
  | none=>spotF r e (i+1)
def spotE (js:List MJoint)(e:MEnd):Nat × Nat:=(spotF js e 0).getD (0,0)
def kindE (js:List MJoint)(j:Nat):Int:=(js[j]?.map MJoint.kind).getD 0
def endE (js:List MJoint)(j k:Nat):MEnd:=(js[j]?.bind (fun x=>x.ends[k]?)).getD ⟨0,0⟩
def beyondF (kind:Int)(k:Nat):List Nat:=
 if kind=2 then [1-k] else if kind=3 then (if k=0 then [1,2] else [0]) else if kind=4 then [if k=0 then 1 else if k=1 then 0 else if k=2 then 3 else 2] else []
structure MPath where
 start:Int
 stop:Int
 ended:Bool
 steps:List MStep
 lies:List MLie
 crosses:List Int
def lieF (lies:List MLie)(j:Int):Int:=((lies.find? (fun l=>l.piece==j)).map MEnd.side).getD 0
def lastS (p:MPath):MStep:=p.steps.getLastD ⟨0,0⟩
def roundB (p:MPath):Bool:=p.steps.dropLast.any (fun s=>sameS s (lastS p))
def overP (js:List MJoint)(p:MPath)(j k t:Nat):Option MPath:=
 let q:MPath:={ p with steps:=p.steps++[stepFromE (endE js j t)] }
 if kindE js j=4 then some { q with crosses:=p.crosses++[(j:Int)] }
 else if kindE js j=3 then
  (if lieF p.lies j≠0 then (if lieF p.lies j=(max k t:Nat) then some q else none)
  else some { q with lies:=p.lies++[⟨j,(max k t:Nat)⟩] })
 else some q
def stopP (js:List MJoint)(ss:List MPiece)(p:MPath)(pos:Int):MPath:=
 if 0≤nextB ss (lastS p).piece (lastS p).side pos ss.length then { p with stop:=nextB ss (lastS p).piece (lastS p).side pos ss.length,ended:=true }
 else if kindE js (spotE js (aheadE (lastS p))).1=1∧roundB p=false then { p with stop := -1,ended:=true }
 else { p with stop:=0,ended:=false }
def evs (ps:List MPiece)(js:List MJoint)(ss:List MPiece):Nat→MPath→Int→List MPath
 | 0,_,_=>[]
 | n+1,p,pos =>
  stopP js ss p pos ::
   (if (stopP js ss p pos).ended=true∨roundB p=true then []
   else (beyondF (kindE js (spotE js (aheadE (lastS p))).1) (spotE js (aheadE (lastS p))).2).flatMap fun t =>
    match overP js (stopP js ss p pos) (spotE js (aheadE (lastS p))).1 (spotE js (aheadE (lastS p))).2 t with
    | none=>[]
    | some q=>evs ps js ss n q (endAt ps (endE js (spotE js (aheadE (lastS p))).1 t)))
def beginP (i:Nat)(s:MPiece):MPath:=⟨i,0,false,[⟨s.len,s.brake⟩],[],[]⟩
def depthR (ps:List MPiece):Nat:=2*ps.length+2
def allEvs (ps:List MPiece)(js:List MJoint)(ss:List MPiece):Nat→List MPath
 | 0=>[]
 | k+1=>allEvs ps js ss k++(match ss[k]? with | none=>[] | some s=>evs ps js ss (depthR ps) (beginP k s) s.speed)
def partI (piece a b:Int):MPart:=⟨piece,min a b,max a b⟩
def fullParts (ps:List MPiece)(pos:Int):List MStep→List MPart
 | []=>[]
 | s::r=>partI s.piece pos (endAt ps (aheadE s))::r.map (fun s=>partI s.piece (endAt ps (farE (aheadE s))) (endAt ps (aheadE s)))
def partsF (ps:List MPiece)(ss:List MPiece)(p:MPath):List MPart:=
 fullParts ps (sigAt ss p.start) p.steps.dropLast ++
  [partI (lastS p).piece (if p.steps.length=1 then sigAt ss p.start else endAt ps (farE (aheadE (lastS p)))) (if 0≤p.stop then sigAt ss p.stop else endAt ps (aheadE (lastS p)))]
def behindF (ps:List MPiece)(js:List MJoint):Nat→MStep→Int→Int→List MPart
 | 0,_,_,_=>[]
 | n+1,s,pos,left =>
  if left≤0 then [] else
   partI s.piece pos (pos+min left ((endAt ps (aheadE s)-pos)*s.side)*s.side) ::
    (if kindE js (spotE js (aheadE s)).1=2 then
     behindF ps js n (stepFromE (endE js (spotE js (aheadE s)).1 (1-(spotE js (aheadE s)).2)))
      (endAt ps (endE js (spotE js (aheadE s)).1 (1-(spotE js (aheadE s)).2))) (left-min left ((endAt ps (aheadE s)-pos)*s.side))
    else [])
def overF (ps:List MPiece)(js:List MJoint)(ss:List MPiece)(stop over:Int):List MPart:=
 if stop<0 then [] else
  match ss[stop.toNat]? with
  | none=>[]
  | some s=>behindF ps js (over.toNat+1) ⟨s.len,s.brake⟩ s.speed over
def lookF (js:List MJoint)(ss:List MPiece)(lies:List MLie)(at_:Int):Nat→List MEnd × List MFlank→MEnd→List MEnd × List MFlank
 | 0,st,_=>st
 | n+1,st,e =>
  if st.1.any (fun x=>sameE x e)=true then st
  else if 0≤guardB ss e.piece (if e.side=0 then -1 else 1) ss.length then (st.1++[e],st.2++[⟨at_,2,guardB ss e.piece (if e.side=0 then -1 else 1) ss.length,0⟩])
  else if kindE js (spotE js (farE e)).1=1 then (st.1++[e],st.2++[⟨at_,1,(spotE js (farE e)).1,0⟩])
  else if kindE js (spotE js (farE e)).1=3∧(spotE js (farE e)).2≠0 then
   (st.1++[e],st.2++[if lieF lies (spotE js (farE e)).1=(spotE js (farE e)).2 then ⟨at_,4,(spotE js (farE e)).1,0⟩ else ⟨at_,3,(spotE js (farE e)).1,3-(spotE js (farE e)).2⟩])
  else (beyondF (kindE js (spotE js (farE e)).1) (spotE js (farE e)).2).foldl (fun s t=>lookF js ss lies at_ n s (endE js (spotE js (farE e)).1 t)) (st.1++[e],st.2)
def flanksF (ps:List MPiece)(js:List MJoint)(ss:List MPiece)(lies:List MLie):List MLie→List MFlank
 | []=>[]
 | l::r=>(lookF js ss lies l.piece (depthR ps) ([],[]) (endE js l.piece.toNat (3-l.side).toNat)).2++flanksF ps js ss lies r
def routeF (ps:List MPiece)(js:List MJoint)(ss:List MPiece)(over:Int)(p:MPath):MRoute:=
 ⟨p.start,p.stop,p.steps,p.lies,p.crosses,partsF ps ss p,overF ps js ss p.stop over,flanksF ps js ss p.lies p.lies⟩
def endedL (E:List MPath):List MPath:=E.filter MPath.ended
def routesF (ps:List MPiece)(js:List MJoint)(ss:List MPiece)(over:Int):List MRoute:=
 if sigF ps js ss=(0,0)∧0≤over∧over≤100000∧(allEvs ps js ss ss.length).length≤20000∧(endedL (allEvs ps js ss ss.length)).length≤300 then
  (endedL (allEvs ps js ss ss.length)).map (routeF ps js ss over)
 else []
end Go.Proofs.YtmkdgnmmebldgaaGreatDoor
namespace Go.Proofs.YtmkdgnmmebldgaaGreatDoor
open Go.RowKit Go.Deep
theorem lieF_hit {lies:List MLie}{j:Int}{m:Nat}(hm:m<lies.length)(h:(lies[m].piece==j)=true)(hq:∀ q (hq:q<lies.length),q<m→(lies[q].piece==j)=false):lieF lies j=lies[m].side:=by
 unfold lieF
 have:lies.find? (fun l=>l.piece==j)=some lies[m]:=by
  rw [List.find?_eq_some_iff_getElem]
  exact ⟨h,m,hm,rfl,fun q hqm=>by simpa using hq q (by omega) hqm⟩
 rw [this]
 rfl
theorem lieF_none {lies:List MLie}{j:Int}(h:∀ q (hq:q<lies.length),(lies[q].piece==j)=false):lies.any (fun l=>l.piece==j)=false:=by
 rw [List.any_eq_false]
 intro x hx
 obtain ⟨i,hi,rfl⟩:=List.getElem_of_mem hx
 rw [h i hi]
 simp
def LiesPost (Q B n:Nat)(x:Option Addr)(y:Nat)(lies:List MLie)(j lie:Int)(w:World)(e:Ending)(w':World):Prop:=
 if lies.any (fun l=>l.piece==j)=true then e = .returned (.bool (lieF lies j==lie))∧Below w.heap.size w w'
 else e = .returned (.bool true)∧∃ x' y' w2,w'=w2.setCell ⟨Q,3,none⟩ (.slice x' (n+1) y')∧w2.ownsRow B 52 2 (.slice x' (n+1) y') (n+1) (flatE (lies++[⟨j,lie⟩]))∧w.grownBy w2 (Value.slice x n y).ownBlock
theorem l2lies_any (Q B n:Nat)(x:Option Addr)(y:Nat)(lies:List MLie)(j lie:Int)(w:World)(hc:w.cell? ⟨Q,3,none⟩=some (.slice x n y))(hf:w.frozen? ⟨Q,3,none⟩=false)(ho:Hid (w.ownsRow B 52 2 (.slice x n y) n (flatE lies)))(hn:n=lies.length)(hl:n≤1000)(hQ:some Q≠(Value.slice x n y).ownBlock)(hB:B≤w.heap.size):
  Calls Tryz.prog 79 #[.pointer (some ⟨Q,0,none⟩),.int .i64 j,.int .i64 lie] w (LiesPost Q B n x y lies j lie w):=by
 subst hn
 obtain ⟨xa,ya,hxy,hea,_,_⟩:=ownE ho.out (by unfold maxLen;omega)
 cases hxy
 have HE:=hidP hea
 clear hea
 have hzQ:=cellLt hc
 go_enter Tryz.func79,Tryz.ntmps79
 go_wp2_with fail
 go_loopw [14] (fun i wr => ∃ (m:Nat),m≤lies.length∧i = .int .i64 m∧Hid (∀ q (hq:q<lies.length),q<m→(lies[q].piece==j)=false)∧Below w.heap.size w wr) (fun i _=>lies.length-(intOf i).toNat)
 case atStart=>exact ⟨0,Nat.zero_le _,rfl,(fun q _ h=>absurd h (Nat.not_lt_zero q)),Below.refl _ _⟩
 case round =>
  obtain ⟨m,hm,rfl,HQ,hb⟩:=hrel
  have hbs:=hb.size
  by_cases hm':m<lies.length
  ·obtain ⟨b1,off1,rfl,hpc⟩:=HE.out.2.resolve_left (nz hm')
   obtain ⟨c0,c1⟩:=(hpc.below hb) m hm'
   clear hpc
   cases t:(lies[m].piece==j)
   ·have HQ2:Hid (∀ q (hq:q<lies.length),q<m+1→(lies[q].piece==j)=false):=by
     intro q hq hqm
     by_cases e:q<m
     ·exact HQ.out q hq e
     ·have:q=m:=by omega
      subst this;exact t
    clear HQ
    go_wp2_with fail
    go_roundw
    case rel=>exact ⟨m+1,by omega,by go_num,HQ2,blo⟩
    case measure=>simp [intOf];omega
   ·have HX:=hidP (lieF_hit hm' t HQ.out)
    have HY:Hid (lies.any (fun l=>l.piece==j)=true):=List.any_eq_true.2 ⟨_,List.getElem_mem hm',t⟩
    clear HQ
    go_wp2_with fail
    go_ret
    unfold LiesPost
    rw [if_pos HY.out,HX.out]
    exact ⟨rfl,blo⟩
  ·have HY:=hidP (lieF_none (fun q hq=>HQ.out q hq (by omega)))
   have hc':=cell_later hb hc
   have hf':=(hb.frozen (p:=⟨Q,3,none⟩) (by simpa using hzQ)).trans hf
   have hz':=Nat.lt_of_lt_of_le hzQ hb.size
   have HO:=hidP (owns_below ho.out hb)
   have HF:Hid (flatE lies++[.int .i64 j,.int .i64 lie]=flatE (lies++[⟨j,lie⟩])):=by unfold Hid;rw [flatE_snoc];rfl
   clear HQ
   go_wp2_with (at_builtin;refine wpList_push rfl (.tmp 31) (.tmp 35) 39 rfl B 52 _ 2 16 Tryz.underlying39 Tryz.infoLie rfl (by decide) (.slice x lies.length y) lies.length (flatE lies) rfl HO.out wr.heap.size rfl [.int .i64 j,.int .i64 lie] rfl rfl (by simp [Value.oneCell']) (by unfold maxLen;omega) (by omega) (by omega) ?_;intro x' y' w2 ho2 hg2;rw [HF.out] at ho2;have HO2:=hidP ho2;have HG2:=hidP hg2;have hne:some Q≠(Value.slice x lies.length y).ownBlock:=hQ;have k0:=hg2.cell hc' hne;have k1:=(World.frozen?_of_block (a:=⟨Q,3,none⟩) (hg2.block Q hz' hne)).trans hf';clear ho2 hg2)
   go_ret
   unfold LiesPost
   rw [if_neg (by rw [HY.out];simp)]
   refine ⟨rfl,x',y',w2,rfl,HO2.out,⟨HG2.out.os.trans hb.os,HG2.out.tape.trans hb.tape,HG2.out.output.trans hb.output,Nat.le_trans hb.size HG2.out.size,fun k hk hne=>(HG2.out.block k (Nat.lt_of_lt_of_le hk hb.size) hne).trans (hb.block k hk)⟩⟩
end Go.Proofs.YtmkdgnmmebldgaaGreatDoor
namespace Go.Proofs.YtmkdgnmmebldgaaGreatDoor
open Go.RowKit
structure Right (ps:List MPiece)(js:List MJoint)(ss:List MPiece):Prop where
 np0:0<ps.length
 np:ps.length≤100
 nj:js.length≤120
 ns:ss.length≤60
 plen:∀ i (h:i<ps.length),1≤ps[i].len∧ps[i].len≤10000000
 kind:∀ j (h:j<js.length),1≤js[j].kind∧js[j].kind≤4∧(js[j].ends.length:Int)=js[j].kind
 ends:∀ j (h:j<js.length) k (hk:k<js[j].ends.length),∃ p:Nat,p<ps.length∧js[j].ends[k].piece=p∧(js[j].ends[k].side=0∨js[j].ends[k].side=1)
 uses:∀ i,i<ps.length→uses js i 0=1∧uses js i 1=1
 sig:∀ i (h:i<ss.length),∃ (p:Nat) (hp:p<ps.length),ss[i].len=p∧(ss[i].brake=1∨ss[i].brake = -1)∧1≤ss[i].speed∧ss[i].speed≤ps[p].len-1
theorem firstBad_negR {bad:Nat→Bool}{n:Nat}(h:¬ 0≤firstBad bad n):∀ i,i<n→bad i=false:=by
 rcases firstBad_cases bad n with ⟨_,h2⟩ | ⟨i,_,h2,_⟩
 ·exact h2
 ·rw [h2] at h
  omega
theorem right_of {ps:List MPiece}{js:List MJoint}{ss:List MPiece}(h:sigF ps js ss=(0,0)):Right ps js ss:=by
 have hN:netF ps js=(0,0):=by
  by_cases e:netF ps js=(0,0)
  ·exact e
  ·rw [sigF_1 e] at h;simp at h
 unfold sigF at h
 rw [if_pos hN] at h
 by_cases h60:60<ss.length
 ·rw [if_pos h60] at h;simp at h
 rw [if_neg h60] at h
 by_cases h3:0≤firstBad (badS3 ps ss) ss.length
 ·rw [if_pos h3] at h;simp at h
 have hs3:=firstBad_negR h3
 clear h
 unfold netF at hN
 by_cases c1:sizeB ps.length js.length=false
 ·simp [c1] at hN
 have c1':sizeB ps.length js.length=true:=by simpa using c1
 by_cases c2:0≤firstBad (badPi ps) ps.length
 ·simp [c1',c2] at hN
 by_cases c3:0≤firstBad (bad3i ps.length js) js.length
 ·simp [c1',c2,c3] at hN
 by_cases c4:0≤firstBad (bad4i js) js.length
 ·simp [c1',c2,c3,c4] at hN
 by_cases c5:0≤firstBad (bad5i js) ps.length
 ·simp [c1',c2,c3,c4,c5] at hN
 have k2:=firstBad_negR c2
 have k3:=firstBad_negR c3
 have k5:=firstBad_negR c5
 unfold sizeB at c1'
 simp only [decide_eq_true_eq] at c1'
 refine ⟨c1'.1,c1'.2.1,c1'.2.2,by omega,?_,?_,?_,?_,?_⟩
 ·intro i hi
  have:=k2 i hi
  rw [badPi_at hi] at this
  simp only [Bool.not_eq_false',okP,pieceB,Bool.and_eq_true] at this
  have h1:=this.1.1.1.2
  unfold inB at h1
  simpa using h1
 ·intro j hj
  have:=k3 j hj
  rw [bad3i_at hj] at this
  simp only [Bool.not_eq_false',ok3,Bool.and_eq_true] at this
  have h1:=this.1.1
  have h2:=this.1.2
  unfold inB at h1
  simp only [decide_eq_true_eq] at h1
  simp only [beq_iff_eq] at h2
  exact ⟨h1.1,h1.2,h2⟩
 ·intro j hj k hk
  have:=k3 j hj
  rw [bad3i_at hj] at this
  simp only [Bool.not_eq_false',ok3,Bool.and_eq_true] at this
  have h1:=(List.all_eq_true.1 this.2) _ (List.getElem_mem hk)
  unfold endB inB at h1
  simp only [Bool.and_eq_true,decide_eq_true_eq] at h1
  exact ⟨js[j].ends[k].piece.toNat,by omega,by omega,by omega⟩
 ·intro i hi
  have:=k5 i hi
  unfold bad5i at this
  simpa using this
 ·intro i hi
  have:=hs3 i hi
  rw [badS3_at hi] at this
  simp only [Bool.not_eq_false',okSig,okSigC,Bool.and_eq_true] at this
  obtain ⟨⟨⟨_,h1⟩,h2⟩,h3⟩:=this
  unfold inB at h1 h3
  simp only [decide_eq_true_eq] at h1 h3
  have hp:ss[i].len.toNat<ps.length:=by omega
  have e:ss[i].len=(ss[i].len.toNat:Int):=by omega
  rw [e,lenAt_at hp] at h3
  refine ⟨ss[i].len.toNat,hp,e,?_,h3.1,h3.2⟩
  unfold wayB at h2
  simpa using h2
theorem sameE_iff {a b:MEnd}:sameE a b=true↔a=b:=by
 cases a
 cases b
 simp [sameE]
theorem spotF_some:∀ {js:List MJoint}{e:MEnd}{n i k:Nat},spotF js e n=some (i,k)→n≤i∧∃ (hi:i-n<js.length)(hk:k<js[i-n].ends.length),js[i-n].ends[k]=e ∧
  (∀ k' (hk':k'<js[i-n].ends.length),k'<k→sameE js[i-n].ends[k'] e=false)∧∀ i' (hi':i'<js.length),i'<i-n→∀ k' (hk':k'<js[i'].ends.length),sameE js[i'].ends[k'] e=false
 | [],_,_,_,_,h=>by simp [spotF] at h
 | j::r,e,n,i,k,h=>by
  simp only [spotF] at h
  cases hf:j.ends.findIdx? (fun x=>sameE x e) with
  | some k0 =>
   rw [hf] at h
   simp only [Option.some.injEq,Prod.mk.injEq] at h
   obtain ⟨rfl,rfl⟩:=h
   obtain ⟨h1,h2,h3⟩:=List.findIdx?_eq_some_iff_getElem.1 hf
   refine ⟨Nat.le_refl _,by simp,by simpa using h1,by simpa using sameE_iff.1 h2,?_,?_⟩
   ·intro k' hk' hlt
    simp only [Nat.sub_self,List.getElem_cons_zero] at hk' ⊢
    have:=h3 k' hlt
    simpa using this
   ·intro i' _ hlt
    omega
  | none =>
   rw [hf] at h
   obtain ⟨h1,h2,h3,h4,h5,h6⟩:=spotF_some h
   have e1:i-n=(i-(n+1))+1:=by omega
   have hn:=List.findIdx?_eq_none_iff.1 hf
   refine ⟨by omega,by simp only [List.length_cons];omega,?_⟩
   simp only [e1,List.getElem_cons_succ]
   refine ⟨h3,h4,h5,?_⟩
   intro i' hi' hlt k' hk'
   cases i' with
   | zero =>
    simp only [List.getElem_cons_zero] at hk' ⊢
    have:=hn _ (List.getElem_mem hk')
    simpa using this
   | succ i' =>
    simp only [List.getElem_cons_succ] at hk' ⊢
    exact h6 i' (by simpa using hi') (by omega) k' hk'
theorem spotF_none:∀ {js:List MJoint}{e:MEnd}{n:Nat},spotF js e n=none→usesIn (js.flatMap (·.ends)) e.piece e.side=0
 | [],_,_,_=>rfl
 | j::r,e,n,h=>by
  simp only [spotF] at h
  cases hf:j.ends.findIdx? (fun x=>sameE x e) with
  | some k0=>rw [hf] at h;simp at h
  | none =>
   rw [hf] at h
   have ih:=spotF_none h
   have hn:=List.findIdx?_eq_none_iff.1 hf
   have h0:usesIn j.ends e.piece e.side=0:=by
    unfold usesIn
    rw [List.countP_eq_zero]
    intro x hx
    have:=hn x hx
    unfold sameE at this
    simpa using this
   unfold usesIn at ih h0 ⊢
   rw [List.flatMap_cons,List.countP_append,h0,ih]
def ValidE (ps:List MPiece)(e:MEnd):Prop := ∃ p:Nat,p<ps.length∧e.piece=p∧(e.side=0∨e.side=1)
def ValidS (ps:List MPiece)(s:MStep):Prop := ∃ p:Nat,p<ps.length∧s.piece=p∧(s.side=1∨s.side = -1)
theorem Right.spot {ps:List MPiece}{js:List MJoint}{ss:List MPiece}(R:Right ps js ss){e:MEnd}(he:ValidE ps e):∃ j k,spotF js e 0=some (j,k)∧spotE js e=(j,k):=by
 obtain ⟨p,hp,h1,h2⟩:=he
 have hu:usesIn (js.flatMap (·.ends)) e.piece e.side=1:=by
  rw [h1]
  rcases h2 with h2 | h2 <;> rw [h2]
  ·exact (R.uses p hp).1
  ·exact (R.uses p hp).2
 cases hs:spotF js e 0 with
 | none=>rw [spotF_none hs] at hu;simp at hu
 | some x =>
  obtain ⟨j,k⟩:=x
  exact ⟨j,k,rfl,by simp [spotE,hs]⟩
theorem aheadE_valid {ps:List MPiece}{s:MStep}(h:ValidS ps s):ValidE ps (aheadE s):=by
 obtain ⟨p,hp,h1,h2⟩:=h
 unfold aheadE
 split
 ·exact ⟨p,hp,h1,Or.inr rfl⟩
 ·exact ⟨p,hp,h1,Or.inl rfl⟩
theorem stepFromE_valid {ps:List MPiece}{e:MEnd}(h:ValidE ps e):ValidS ps (stepFromE e):=by
 obtain ⟨p,hp,h1,h2⟩:=h
 unfold stepFromE
 split
 ·exact ⟨p,hp,h1,Or.inl rfl⟩
 ·exact ⟨p,hp,h1,Or.inr rfl⟩
theorem farE_valid {ps:List MPiece}{e:MEnd}(h:ValidE ps e):ValidE ps (farE e):=by
 obtain ⟨p,hp,h1,h2⟩:=h
 refine ⟨p,hp,h1,?_⟩
 unfold farE
 rcases h2 with h2 | h2 <;> simp [h2]
theorem lenI_at {ps:List MPiece}{k:Nat}(h:k<ps.length):lenI ps (k:Int)=ps[k].len:=by simp [lenI,h]
theorem sigAt_at {ss:List MPiece}{k:Nat}(h:k<ss.length):sigAt ss (k:Int)=ss[k].speed:=by simp [sigAt,h]
theorem kindE_at {js:List MJoint}{j:Nat}(h:j<js.length):kindE js j=js[j].kind:=by simp [kindE,h]
theorem endE_at {js:List MJoint}{j k:Nat}(h:j<js.length)(hk:k<js[j].ends.length):endE js j k=js[j].ends[k]:=by simp [endE,h,hk]
end Go.Proofs.YtmkdgnmmebldgaaGreatDoor
