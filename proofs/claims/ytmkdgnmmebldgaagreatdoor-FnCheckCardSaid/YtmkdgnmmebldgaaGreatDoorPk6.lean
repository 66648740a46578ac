import Derived.Test.YtmkdgnmmebldgaaGreatDoorPk2
import Derived.Test.YtmkdgnmmebldgaaGreatDoorPk5
import Derived.Test.YtmkdgnmmebldgaaGreatDoorPk4
set_option maxRecDepth 100000
set_option maxHeartbeats 8000000
open Go.Proofs.Tryz
namespace Go.Proofs.YtmkdgnmmebldgaaGreatDoor
abbrev aM:=am
abbrev bg:=am
def iA (ps:List af)(p:Int):Int:=(ps[p.toNat]?.map af.len).getD 0
def aR (ps:List af)(e:am):Int:=if e.side=0 then 0 else iA ps e.CB
def au (s:aM):am:=if s.side=1 then ⟨s.CB,1⟩ else ⟨s.CB,0⟩
def aD (e:am):aM:=if e.side=0 then ⟨e.CB,1⟩ else ⟨e.CB,-1⟩
def b7 (e:am):am:=⟨e.CB,1-e.side⟩
def cR (a b:am):Bool:=a.CB==b.CB&&a.side==b.side
def cJ (a b:aM):Bool:=a.CB==b.CB&&a.side==b.side
def bK (ss:List af)(b:Int):Int:=(ss[b.toNat]?.map af.CD).getD 0
def bi (ss:List af)(CB way pos:Int):Nat->Int
 | 0 => -1
 | k+1 =>
  match ss[k]? with
  | none=>bi ss CB way pos k
  | some s =>
   if s.len≠CB\/s.CC≠way\/(s.CD-pos)*way<=0 then bi ss CB way pos k
   else if bi ss CB way pos k<0\/(s.CD-bK ss (bi ss CB way pos k))*way<0 then (k:Int)
   else bi ss CB way pos k
def bE (ss:List af)(CB way:Int):Nat->Int
 | 0 => -1
 | k+1 =>
  match ss[k]? with
  | none=>bE ss CB way k
  | some s =>
   if s.len≠CB\/s.CC≠way then bE ss CB way k
   else if bE ss CB way k<0\/0<(s.CD-bK ss (bE ss CB way k))*way then (k:Int)
   else bE ss CB way k
def gw:List aj->am->Nat->Option (Nat × Nat)
 | [],_,_=>none
 | j::r,e,i =>
  match j.ends.findIdx? (fun x=>cR x e) with
  | some k=>some (i,k)
  | none=>gw r e (i+1)
def aO (js:List aj)(e:am):Nat × Nat:=(gw js e 0).getD (0,0)
def aH (js:List aj)(j:Nat):Int:=(js[j]?.map aj.kind).getD 0
def aY (js:List aj)(j k:Nat):am:=(js[j]?.bind (fun x=>x.ends[k]?)).getD ⟨0,0⟩
def bt (kind:Int)(k:Nat):List Nat:=
 if kind=2 then [1-k] else if kind=3 then (if k=0 then [1,2] else [0]) else if kind=4 then [if k=0 then 1 else if k=1 then 0 else if k=2 then 3 else 2] else []
structure aw where
 start:Int
 stop:Int
 ended:Bool
 CE:List aM
 CA:List bg
 Cy:List Int
def ce (CA:List bg)(j:Int):Int:=((CA.find? (fun l=>l.CB==j)).map am.side).getD 0
def cZ (p:aw):aM:=p.CE.getLastD ⟨0,0⟩
def di (p:aw):Bool:=p.CE.dropLast.any (fun s=>cJ s (cZ p))
def dD (js:List aj)(p:aw)(j k t:Nat):Option aw:=
 let q:aw:={ p with CE:=p.CE++[aD (aY js j t)] }
 if aH js j=4 then some { q with Cy:=p.Cy++[(j:Int)] }
 else if aH js j=3 then
  (if ce p.CA j≠0 then (if ce p.CA j=(max k t:Nat) then some q else none)
  else some { q with CA:=p.CA++[⟨j,(max k t:Nat)⟩] })
 else some q
def ed (js:List aj)(ss:List af)(p:aw)(pos:Int):aw:=
 if 0<=bi ss (cZ p).CB (cZ p).side pos ss.length then { p with stop:=bi ss (cZ p).CB (cZ p).side pos ss.length,ended:=true }
 else if aH js (aO js (au (cZ p))).1=1/\di p=false then { p with stop := -1,ended:=true }
 else { p with stop:=0,ended:=false }
def evs (ps:List af)(js:List aj)(ss:List af):Nat->aw->Int->List aw
 | 0,_,_=>[]
 | n+1,p,pos =>
  ed js ss p pos ::
   (if (ed js ss p pos).ended=true\/di p=true then []
   else (bt (aH js (aO js (au (cZ p))).1) (aO js (au (cZ p))).2).flatMap fun t =>
    match dD js (ed js ss p pos) (aO js (au (cZ p))).1 (aO js (au (cZ p))).2 t with
    | none=>[]
    | some q=>evs ps js ss n q (aR ps (aY js (aO js (au (cZ p))).1 t)))
def j6 (i:Nat)(s:af):aw:=⟨i,0,false,[⟨s.len,s.CC⟩],[],[]⟩
def cI (ps:List af):Nat:=2*ps.length+2
def cb (ps:List af)(js:List aj)(ss:List af):Nat->List aw
 | 0=>[]
 | k+1=>cb ps js ss k++(match ss[k]? with | none=>[] | some s=>evs ps js ss (cI ps) (j6 k s) s.CD)
def cD (CB a b:Int):aI:=⟨CB,min a b,max a b⟩
def cg (ps:List af)(pos:Int):List aM->List aI
 | []=>[]
 | s::r=>cD s.CB pos (aR ps (au s))::r.map (fun s=>cD s.CB (aR ps (b7 (au s))) (aR ps (au s)))
def cY (ps:List af)(ss:List af)(p:aw):List aI:=
 cg ps (bK ss p.start) p.CE.dropLast ++
  [cD (cZ p).CB (if p.CE.length=1 then bK ss p.start else aR ps (b7 (au (cZ p)))) (if 0<=p.stop then bK ss p.stop else aR ps (au (cZ p)))]
def cL (ps:List af)(js:List aj):Nat->aM->Int->Int->List aI
 | 0,_,_,_=>[]
 | n+1,s,pos,left =>
  if left<=0 then [] else
   cD s.CB pos (pos+min left ((aR ps (au s)-pos)*s.side)*s.side) ::
    (if aH js (aO js (au s)).1=2 then
     cL ps js n (aD (aY js (aO js (au s)).1 (1-(aO js (au s)).2)))
      (aR ps (aY js (aO js (au s)).1 (1-(aO js (au s)).2))) (left-min left ((aR ps (au s)-pos)*s.side))
    else [])
def dE (ps:List af)(js:List aj)(ss:List af)(stop over:Int):List aI:=
 if stop<0 then [] else
  match ss[stop.toNat]? with
  | none=>[]
  | some s=>cL ps js (over.toNat+1) ⟨s.len,s.CC⟩ s.CD over
def bJ (js:List aj)(ss:List af)(CA:List bg)(at_:Int):Nat->List am × List aN->am->List am × List aN
 | 0,st,_=>st
 | n+1,st,e =>
  if st.1.any (fun x=>cR x e)=true then st
  else if 0<=bE ss e.CB (if e.side=0 then -1 else 1) ss.length then (st.1++[e],st.2++[⟨at_,2,bE ss e.CB (if e.side=0 then -1 else 1) ss.length,0⟩])
  else if aH js (aO js (b7 e)).1=1 then (st.1++[e],st.2++[⟨at_,1,(aO js (b7 e)).1,0⟩])
  else if aH js (aO js (b7 e)).1=3/\(aO js (b7 e)).2≠0 then
   (st.1++[e],st.2++[if ce CA (aO js (b7 e)).1=(aO js (b7 e)).2 then ⟨at_,4,(aO js (b7 e)).1,0⟩ else ⟨at_,3,(aO js (b7 e)).1,3-(aO js (b7 e)).2⟩])
  else (bt (aH js (aO js (b7 e)).1) (aO js (b7 e)).2).foldl (fun s t=>bJ js ss CA at_ n s (aY js (aO js (b7 e)).1 t)) (st.1++[e],st.2)
def aS (ps:List af)(js:List aj)(ss:List af)(CA:List bg):List bg->List aN
 | []=>[]
 | l::r=>(bJ js ss CA l.CB (cI ps) ([],[]) (aY js l.CB.toNat (3-l.side).toNat)).2++aS ps js ss CA r
def dr (ps:List af)(js:List aj)(ss:List af)(over:Int)(p:aw):al:=
 ⟨p.start,p.stop,p.CE,p.CA,p.Cy,cY ps ss p,dE ps js ss p.stop over,aS ps js ss p.CA p.CA⟩
def cd (E:List aw):List aw:=E.filter aw.ended
def aX (ps:List af)(js:List aj)(ss:List af)(over:Int):List al:=
 if cE ps js ss=(0,0)/\0<=over/\over<=100000/\(cb ps js ss ss.length).length<=20000/\(cd (cb ps js ss ss.length)).length<=300 then
  (cd (cb ps js ss ss.length)).map (dr ps js ss over)
 else []
end Go.Proofs.YtmkdgnmmebldgaaGreatDoor
namespace Go.Proofs.YtmkdgnmmebldgaaGreatDoor
open Go.RowKit Go.Deep
theorem t9 {CA:List bg}{j:Int}{m:Nat}(hm:m<CA.length)(h:(CA[m].CB==j)=true)(hq:∀ q (hq:q<CA.length),q<m->(CA[q].CB==j)=false):ce CA j=CA[m].side:=by
 unfold ce;have:CA.find? (fun l=>l.CB==j)=some CA[m]:=by
  rw [List.find?_eq_some_iff_getElem];exact ⟨h,m,hm,rfl,fun q a=>by simpa using hq q CG a⟩
 rw [this];rfl
theorem yN {CA:List bg}{j:Int}(h:∀ q (hq:q<CA.length),(CA[q].CB==j)=false):CA.any (fun l=>l.CB==j)=false:=by
 rw [List.any_eq_false];intro x hx;obtain ⟨i,hi,rfl⟩:=List.getElem_of_mem hx;rw [h i hi];simp
def kg (Q B n:Nat)(x:Option Addr)(y:Nat)(CA:List bg)(j lie:Int)(w:World)(e:Ending)(w':World):Prop:=
 if CA.any (fun l=>l.CB==j)=true then e = .returned (.bool (ce CA j==lie))/\Cx w w'
 else e = .returned (.bool true)/\∃ x' y' w2,w'=w2.setCell ⟨Q,3,none⟩ (.slice x' (n+1) y')/\w2.ownsRow B 52 2 (.slice x' (n+1) y') (n+1) (aG (CA++[⟨j,lie⟩]))/\w.grownBy w2 (Value.slice x n y).ownBlock
theorem qf (Q B n:Nat)(x:Option Addr)(y:Nat)(CA:List bg)(j lie:Int)(w:World)(hc:w.cell? ⟨Q,3,none⟩=some (.slice x n y))(hf:w.frozen? ⟨Q,3,none⟩=false)(ho:Hid (w.ownsRow B 52 2 (.slice x n y) n (aG CA)))(hn:n=CA.length)(hl:n<=1000)(hQ:some Q≠(Value.slice x n y).ownBlock)(hB:B<=w.heap.size):
  Calls prog 79 #[.pointer (some ⟨Q,0,none⟩),.int .i64 j,.int .i64 lie] w (kg Q B n x y CA j lie w):=by
 subst hn;obtain ⟨xa,ya,s,g,_,_⟩:=kj ho.out CK
 cases s;have HE:=aa g;clear g;have o:=ai hc
 go_enter func79,ntmps79
 go_wp2_with fail
 go_loopw [14] (fun i wr => ∃ (m:Nat),m<=CA.length/\i = .int .i64 m/\Hid (∀ q (hq:q<CA.length),q<m->(CA[q].CB==j)=false)/\Cx w wr) (fun i _=>CA.length-(intOf i).toNat)
 case atStart=>exact ⟨0,Nat.zero_le _,rfl,(fun q _ h=>absurd h (Nat.not_lt_zero q)),Below.refl _ _⟩
 case round =>
  obtain ⟨m,hm,rfl,HQ,hb⟩:=hrel;have E:=hb.size
  by_cases c:m<CA.length
  ·obtain ⟨b1,u,rfl,r⟩:=HE.out.2.resolve_left (nz c);obtain ⟨c0,c1⟩:=(r.below hb) m c;clear r;cases t:(CA[m].CB==j)
   ·have v:Hid (∀ q (hq:q<CA.length),q<m+1->(CA[q].CB==j)=false):=by
     intro q hq F
     by_cases e:q<m
     ·exact HQ.out q hq e
     ·have:q=m:=CG
      subst this;exact t
    clear HQ
    go_wp2_with fail
    go_roundw
    case rel=>exact ⟨m+1,CG,by go_num,v,blo⟩
    case measure=>simp [intOf];omega
   ·have HX:=aa (t9 c t HQ.out);have HY:Hid (CA.any (fun l=>l.CB==j)=true):=List.any_eq_true.2 ⟨_,List.getElem_mem c,t⟩
    clear HQ
    go_wp2_with fail
    go_ret
    unfold kg;rw [if_pos HY.out,HX.out];exact ⟨rfl,blo⟩
  ·have HY:=aa (yN (fun q hq=>HQ.out q hq CG))
   have z:=cell_later hb hc;have A:=(hb.frozen (p:=⟨Q,3,none⟩) (by simpa using o)).trans hf
   have C:=Nat.lt_of_lt_of_le o hb.size;have HO:=aa (aq ho.out hb);have HF:Hid (aG CA++[.int .i64 j,.int .i64 lie]=aG (CA++[⟨j,lie⟩])):=by unfold Hid;rw [iR];rfl
   clear HQ
   go_wp2_with (at_builtin;refine aU rfl (.tmp 31) (.tmp 35) 39 rfl B 52 _ 2 16 underlying39 Tryz.infoLie rfl CJ (.slice x CA.length y) CA.length (aG CA) rfl HO.out wr.heap.size rfl [.int .i64 j,.int .i64 lie] rfl rfl CL CK CG CG ?_;intro x' y' w2 f d;rw [HF.out] at f;have D:=aa f;have b:=aa d;have hne:some Q≠(Value.slice x CA.length y).ownBlock:=hQ;have k0:=d.cell z hne;have k1:=(World.frozen?_of_block (a:=⟨Q,3,none⟩) (d.block Q C hne)).trans A;clear f d)
   go_ret
   unfold kg;rw [if_neg (by rw [HY.out];simp)]
   refine ⟨rfl,x',y',w2,rfl,D.out,⟨b.out.os.trans hb.os,b.out.tape.trans hb.tape,b.out.output.trans hb.output,Nat.le_trans hb.size b.out.size,fun k hk hne=>(b.out.block k (Nat.lt_of_lt_of_le hk hb.size) hne).trans (hb.block k hk)⟩⟩
end Go.Proofs.YtmkdgnmmebldgaaGreatDoor
namespace Go.Proofs.YtmkdgnmmebldgaaGreatDoor
open Go.RowKit
variable {e:am}{js:List aj}{k:Nat}{ps ss:List af}
structure bo (ps:List af)(js:List aj)(ss:List af):Prop where
 np0:0<ps.length
 np:ps.length<=100
 nj:js.length<=120
 ns:ss.length<=60
 plen:∀ i (h:i<ps.length),1<=ps[i].len/\ps[i].len<=10000000
 kind:∀ j (h:j<js.length),1<=js[j].kind/\js[j].kind<=4/\(js[j].ends.length:Int)=js[j].kind
 ends:∀ j (h:j<js.length) k (hk:k<js[j].ends.length),∃ p:Nat,p<ps.length/\js[j].ends[k].CB=p/\(js[j].ends[k].side=0\/js[j].ends[k].side=1)
 uses:∀ i,i<ps.length->uses js i 0=1/\uses js i 1=1
 sig:∀ i (h:i<ss.length),∃ (p:Nat) (hp:p<ps.length),ss[i].len=p/\(ss[i].CC=1\/ss[i].CC = -1)/\1<=ss[i].CD/\ss[i].CD<=ps[p].len-1
theorem ir {bad:Nat->Bool}{n:Nat}(h:¬ 0<=bh bad n):∀ i,i<n->bad i=false:=by
 rcases hH bad n with ⟨_,h2⟩ | ⟨i,_,h2,_⟩
 ·exact h2
 ·rw [h2] at h;omega
theorem lX (h:cE ps js ss=(0,0)):bo ps js ss:=by
 have hN:dt ps js=(0,0):=by
  by_cases e:dt ps js=(0,0)
  ·exact e
  ·rw [uf e] at h;simp at h
 unfold cE at h;rw [if_pos hN] at h
 by_cases b:60<ss.length
 ·rw [if_pos b] at h;simp at h
 rw [if_neg b] at h
 by_cases h3:0<=bh (fx ps ss) ss.length
 ·rw [if_pos h3] at h;simp at h
 have c:=ir h3;clear h;unfold dt at hN
 by_cases c1:dR ps.length js.length=false
 ·simp [c1] at hN
 have a:dR ps.length js.length=true:=by simpa using c1
 by_cases c2:0<=bh (dX ps) ps.length
 ·simp [a,c2] at hN
 by_cases c3:0<=bh (eA ps.length js) js.length
 ·simp [a,c2,c3] at hN
 by_cases c4:0<=bh (eI js) js.length
 ·simp [a,c2,c3,c4] at hN
 by_cases c5:0<=bh (ew js) ps.length
 ·simp [a,c2,c3,c4,c5] at hN
 have k2:=ir c2;have k3:=ir c3;have k5:=ir c5;unfold dR at a;simp only [decide_eq_true_eq] at a;refine ⟨a.1,a.2.1,a.2.2,CG,?_,?_,?_,?_,?_⟩
 ·intro i hi;have:=k2 i hi;rw [gP hi] at this;simp only [Bool.not_eq_false',okP,cM,Bool.and_eq_true] at this;have h1:=this.1.1.1.2;unfold inB at h1;simpa using h1
 ·intro j hj;have:=k3 j hj;rw [gx hj] at this;simp only [Bool.not_eq_false',ok3,Bool.and_eq_true] at this;have h1:=this.1.1;have h2:=this.1.2;unfold inB at h1;simp only [decide_eq_true_eq] at h1;simp only [beq_iff_eq] at h2;exact ⟨h1.1,h1.2,h2⟩
 ·intro j hj k hk;have:=k3 j hj;rw [gx hj] at this;simp only [Bool.not_eq_false',ok3,Bool.and_eq_true] at this;have h1:=(List.all_eq_true.1 this.2) _ (List.getElem_mem hk);unfold cV inB at h1;simp only [Bool.and_eq_true,decide_eq_true_eq] at h1;exact ⟨js[j].ends[k].CB.toNat,CG,CG,CG⟩
 ·intro i hi;have:=k5 i hi;unfold ew at this;simpa using this
 ·intro i hi;have:=c i hi;rw [i4 hi] at this;simp only [Bool.not_eq_false',jM,eD,Bool.and_eq_true] at this;obtain ⟨⟨⟨_,h1⟩,h2⟩,h3⟩:=this;unfold inB at h1 h3;simp only [decide_eq_true_eq] at h1 h3;have hp:ss[i].len.toNat<ps.length:=CG
  have e:ss[i].len=(ss[i].len.toNat:Int):=CG
  rw [e,lK hp] at h3;refine ⟨ss[i].len.toNat,hp,e,?_,h3.1,h3.2⟩;unfold jU at h2;simpa using h2
theorem iD {a b:am}:cR a b=true↔a=b:=by
 cases a;cases b;simp [cR]
theorem df:∀ {js:List aj}{e:am}{n i k:Nat},gw js e n=some (i,k)->n<=i/\∃ (hi:i-n<js.length)(hk:k<js[i-n].ends.length),js[i-n].ends[k]=e /\
  (∀ k' (hk':k'<js[i-n].ends.length),k'<k->cR js[i-n].ends[k'] e=false)/\∀ i' (hi':i'<js.length),i'<i-n->∀ k' (hk':k'<js[i'].ends.length),cR js[i'].ends[k'] e=false
 | [],_,_,_,_,h=>by simp [gw] at h
 | j::r,e,n,i,k,h=>by
  simp only [gw] at h;cases hf:j.ends.findIdx? (fun x=>cR x e) with
  | some k0 =>
   rw [hf] at h;simp only [Option.some.injEq,Prod.mk.injEq] at h;obtain ⟨rfl,rfl⟩:=h;obtain ⟨h1,h2,h3⟩:=List.findIdx?_eq_some_iff_getElem.1 hf;refine ⟨Nat.le_refl _,CI,by simpa using h1,by simpa using iD.1 h2,?_,?_⟩
   ·intro k' hk' a;simp only [Nat.sub_self,List.getElem_cons_zero] at hk' ⊢;have:=h3 k' a;simpa using this
   ·intro i' _ a;omega
  | none =>
   rw [hf] at h;obtain ⟨h1,h2,h3,h4,h5,h6⟩:=df h;have e1:i-n=(i-(n+1))+1:=CG
   have hn:=List.findIdx?_eq_none_iff.1 hf;refine ⟨CG,by simp only [List.length_cons];omega,?_⟩
   simp only [e1,List.getElem_cons_succ];refine ⟨h3,h4,h5,?_⟩;intro i' hi' a k' hk';cases i' with
   | zero =>
    simp only [List.getElem_cons_zero] at hk' ⊢;have:=hn _ (List.getElem_mem hk');simpa using this
   | succ i' =>
    simp only [List.getElem_cons_succ] at hk' ⊢;exact h6 i' (by simpa using hi') CG k' hk'
theorem qt:∀ {js:List aj}{e:am}{n:Nat},gw js e n=none->bX (js.flatMap (·.ends)) e.CB e.side=0
 | [],_,_,_=>rfl
 | j::r,e,n,h=>by
  simp only [gw] at h;cases hf:j.ends.findIdx? (fun x=>cR x e) with
  | some k0=>rw [hf] at h;simp at h
  | none =>
   rw [hf] at h;have ih:=qt h;have hn:=List.findIdx?_eq_none_iff.1 hf;have h0:bX j.ends e.CB e.side=0:=by
    unfold bX;rw [List.countP_eq_zero];intro x hx;have:=hn x hx;unfold cR at this;simpa using this
   unfold bX at ih h0 ⊢;rw [List.flatMap_cons,List.countP_append,h0,ih]
def bM (ps:List af)(e:am):Prop := ∃ p:Nat,p<ps.length/\e.CB=p/\(e.side=0\/e.side=1)
def eR (ps:List af)(s:aM):Prop := ∃ p:Nat,p<ps.length/\s.CB=p/\(s.side=1\/s.side = -1)
theorem bo.spot (R:bo ps js ss)(he:bM ps e):∃ j k,gw js e 0=some (j,k)/\aO js e=(j,k):=by
 obtain ⟨p,hp,h1,h2⟩:=he;have hu:bX (js.flatMap (·.ends)) e.CB e.side=1:=by
  rw [h1];rcases h2 with h2 | h2 <;> rw [h2]
  ·exact (R.uses p hp).1
  ·exact (R.uses p hp).2
 cases hs:gw js e 0 with
 | none=>rw [qt hs] at hu;simp at hu
 | some x =>
  obtain ⟨j,k⟩:=x;exact ⟨j,k,rfl,by simp [aO,hs]⟩
theorem dh {s:aM}(h:eR ps s):bM ps (au s):=by
 obtain ⟨p,hp,h1,h2⟩:=h;unfold au
 split
 ·exact ⟨p,hp,h1,Or.inr rfl⟩
 ·exact ⟨p,hp,h1,Or.inl rfl⟩
theorem kC (h:bM ps e):eR ps (aD e):=by
 obtain ⟨p,hp,h1,h2⟩:=h;unfold aD
 split
 ·exact ⟨p,hp,h1,Or.inl rfl⟩
 ·exact ⟨p,hp,h1,Or.inr rfl⟩
theorem jL (h:bM ps e):bM ps (b7 e):=by
 obtain ⟨p,hp,h1,h2⟩:=h;refine ⟨p,hp,h1,?_⟩;unfold b7;rcases h2 with h2 | h2 <;> simp [h2]
theorem cT (h:k<ps.length):iA ps (k:Int)=ps[k].len:=by simp [iA,h]
theorem gL (h:k<ss.length):bK ss (k:Int)=ss[k].CD:=by simp [bK,h]
theorem cu {j:Nat}(h:j<js.length):aH js j=js[j].kind:=by simp [aH,h]
theorem du {j:Nat}(h:j<js.length)(hk:k<js[j].ends.length):aY js j k=js[j].ends[k]:=by simp [aY,h,hk]
end Go.Proofs.YtmkdgnmmebldgaaGreatDoor
