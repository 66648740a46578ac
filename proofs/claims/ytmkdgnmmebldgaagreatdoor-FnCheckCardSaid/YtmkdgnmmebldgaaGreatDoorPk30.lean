import Derived.Test.YtmkdgnmmebldgaaGreatDoorPk23
import Derived.Test.YtmkdgnmmebldgaaGreatDoorPk16
import Derived.Deep.RegionLaw
set_option maxRecDepth 100000
set_option maxHeartbeats 8000000
open Go.Proofs.Tryz
namespace Go.Proofs.YtmkdgnmmebldgaaGreatDoor
open Go.RowKit Go.Deep
theorem Bs (w0:World)(F:Nat)(pa ja sa:Option Addr)(pc jc sc:Nat)(ps:List af)(js:List aj)(ss:List af)(over:Int)(n:Nat)(R:Hid (bo ps js ss))(HP:Hid (ar w0 pa ps))(HJ:Hid (aP w0 ja js))(HS:Hid (ar w0 sa ss))(_ho0:0<=over)(_ho1:over<=100000)
  (hfl:Hid (∀ (B Q:Nat) (la:Option Addr) (lc:Nat) (CA:List bg) (pl:Int) (n:Nat),LB w0 B F Q pa ja sa la ps js ss CA->iz w0 B F Q pa ja sa la pc jc sc lc ps js ss CA pl n))
  (ih:Hid (iY w0 F pa ja sa pc jc sc ps js ss over n))
  (a0:Option Addr) (k0:Nat) (a1:Option Addr) (k1:Nat) (a2:Option Addr) (k2:Nat) (a3:Option Addr) (k3:Nat) (i:Nat) (pre:List aM) (p:Nat) (way:Int) (CA:List bg) (Cy:List Int) (pos:Int) (xo:Option Addr) (yo t:Nat) (pr:List (aL × al)) (w:World) (ok:Hid (ck ps js ss i pre ⟨p,way⟩ CA Cy pos)) (hn:Hid (n+1+pre.length=2*ps.length+2))
  (hs:Hid (WS w0 w F pa ja sa pc jc sc ps.length js.length ss.length over xo yo t pr)) (hk:Hid (fH w F ⟨a0,k0,a1,k1,a2,k2,a3,k3,none,0,none,0⟩ (gG ps ss i pre CA Cy))) (hnil:Hid (ph ⟨a0,k0,a1,k1,a2,k2,a3,k3,none,0,none,0⟩ (gG ps ss i pre CA Cy))) (ht:t<=100000) (hpr:pr.length<=301)
  (HLIM:Hid (pr.length<=300/\t+1<=20000)) (HNBN:Hid (bi ss p way pos ss.length<0)) (HNOT:Hid ((⟨(p:Int),way⟩:aM) ∉ pre)) :
  Calls prog 35 #[.pointer (some ⟨F,0,none⟩),.agg #[.int .i64 i,.int .i64 0,.slice a0 pre.length k0,.slice a1 CA.length k1,.slice a2 Cy.length k2,.slice a3 pre.length k3,.slice none 0 0,.slice none 0 0],.int .i64 p,.int .i64 way,.int .i64 (bu ps p pos way)] w (fB w0 w F pa ja sa pc jc sc ps js ss over (n+1) t (.slice xo pr.length yo) (pr.map Prod.snd) (evs ps js ss (n+1) (aF i (pre++[⟨p,way⟩]) CA Cy) pos)):=by
 have c0:=hs.out.c0;have c1:=hs.out.c1;have c2:=hs.out.c2;have c4:=hs.out.c4;have c5:=hs.out.c5;have z5:=hs.out.z5;have eU:=hs.out.lt;obtain ⟨be,bq⟩:∃ be,bu ps p pos way=be:=⟨_,rfl⟩;rw [bq];have a5:=aa bq;clear bq;obtain ⟨pl,cC⟩:∃ pl,cg ps (bK ss i) pre=pl:=⟨_,rfl⟩;have cD:=aa cC;have br:pl.length=pre.length:=by rw [<-cC];exact dW _ _ _
 have bs:=aa br;have dD:(Value.agg #[.int .i64 i,.int .i64 0,.slice a0 pre.length k0,.slice a1 CA.length k1,.slice a2 Cy.length k2,.slice a3 pre.length k3,.slice none 0 0,.slice none 0 0]) = .agg #[.int .i64 i,.int .i64 0,.slice a0 pre.length k0,.slice a1 CA.length k1,.slice a2 Cy.length k2,.slice a3 pl.length k3,.slice none 0 0,.slice none 0 0]:=by rw [br]
 rw [dD];clear cC br dD;have ej:Hid (((t+1:Nat):Int)=(t:Int)+1):=by unfold Hid;omega
 go_enter func35,ntmps35
 by_cases cE:pr.length<=300/\t+1<=20000
 rotate_left
 ·exact absurd HLIM.out cE
 ·have hc:(pr.length:Int)<=300:=CG
  have eV:(t:Int)+1<=20000:=CG
  go_wp2_with fail
  generalize hW:World.alloc _ _=W;obtain ⟨W1,bY⟩:∃ W1,w.setCell ⟨F,5,none⟩ (.int .i64 ((t:Int)+1))=W1:=⟨_,rfl⟩;rw [bY] at hW;have dE:Hid (Eff F (.slice xo pr.length yo) (.slice xo pr.length yo) w W1):=by rw [<-bY];exact hs.out.effI _
  have dF:Hid (WS w0 W1 F pa ja sa pc jc sc ps.length js.length ss.length over xo yo (t+1) pr):=by rw [<-bY,<-ej.out];exact hs.out.inc _
  have bZ:W1.heap.size=w.heap.size:=by rw [<-bY];simp
  have HX:Hid (∀ W,Below w.heap.size W1 W->WS w0 W F pa ja sa pc jc sc ps.length js.length ss.length over xo yo (t+1) pr/\Eff F (.slice xo pr.length yo) (.slice xo pr.length yo) w W):=by
   intro W hb;rw [<-bZ] at hb;exact ⟨dF.out.below hb,dE.out.later hb⟩
  have cF:Below w.heap.size W1 W:=by rw [<-hW,<-bZ];exact CV.alloc CW _
  have dG:Hid (QC W w.heap.size (.int .i64 i) (.int .i64 0) (.slice a0 pre.length k0) (.slice a1 CA.length k1) (.slice a2 Cy.length k2) (.slice a3 pl.length k3) (.slice none 0 0) (.slice none 0 0)):=by rw [<-hW,<-bZ];exact py _ _ _ _ _ _ _ _ _
  have ek:w.heap.size+1<=W.heap.size/\W.heap.size<=w.heap.size+1:=by rw [<-hW];simp [bZ]
  have cG:Hid (fH W F ⟨a0,k0,a1,k1,a2,k2,a3,k3,none,0,none,0⟩ (gG ps ss i pre CA Cy)):=hk.out.kept (HX.out W cF).2;obtain ⟨cH,cI⟩:=ek;have dH:=aa cF;clear hW bY cF dE dF bZ c0 c1 c2 c4 c5 z5;have el:=ok.out.few;have eW:=R.out.np
  go_loopw [10,46] (fun rb c wr => ∃ (m:Nat),m<=pre.length/\c = .int .i64 m/\rb = .bool ((pre.take m).any (fun s=>cJ s ⟨p,way⟩))/\Cx W wr) (fun _ c _=>pre.length-(intOf c).toNat)
  case atStart=>exact ⟨0,Nat.zero_le _,rfl,rfl,Below.refl _ _⟩
  case round =>
   obtain ⟨m,hm,rfl,rfl,hb⟩:=hrel;have eX:=hb.size
   by_cases bv:m<pre.length
   ·have dI:aT W a0 pre:=cG.out.lists.CE;obtain ⟨b1,em,rfl,dJ⟩:=dI.2.resolve_left (nz bv);obtain ⟨d0,d1⟩:=(dJ.below hb) m bv;have cn:=ai d0;dsimp only at cn;have HN:Hid ((pre.take (m+1)).any (fun s=>cJ s ⟨p,way⟩)=((pre.take m).any (fun s=>cJ s ⟨p,way⟩) || cJ pre[m] ⟨p,way⟩)):=by
     unfold Hid;rw [List.take_succ_eq_append_getElem bv,List.any_append];simp
    clear dJ dI;generalize co:(pre.take m).any (fun s=>cJ s ⟨p,way⟩)=rb at HN
    clear co;have cL:rb=true\/(rb=false/\(pre[m].CB==(p:Int))=false)\/(rb=false/\(pre[m].CB==(p:Int))=true/\(pre[m].side==way)=false)\/(rb=false/\(pre[m].CB==(p:Int))=true/\(pre[m].side==way)=true):=by
     cases rb <;> cases (pre[m].CB==(p:Int)) <;> cases (pre[m].side==way) <;> simp
    rcases cL with rfl | ⟨rfl,h1⟩ | ⟨rfl,h1,h2⟩ | ⟨rfl,h1,h2⟩
    ·go_wp2_with fail
     go_roundw
     case rel=>exact ⟨m+1,CG,by go_num,by rw [HN.out];simp,blo⟩
     case measure=>simp [intOf];omega
    ·go_wp2_with fail
     go_roundw
     case rel=>exact ⟨m+1,CG,by go_num,by rw [HN.out];simp [cJ,h1],blo⟩
     case measure=>simp [intOf];omega
    ·go_wp2_with fail
     go_roundw
     case rel=>exact ⟨m+1,CG,by go_num,by rw [HN.out];simp [cJ,h1,h2],blo⟩
     case measure=>simp [intOf];omega
    ·go_wp2_with fail
     go_roundw
     case rel=>exact ⟨m+1,CG,by go_num,by rw [HN.out];simp [cJ,h1,h2],blo⟩
     case measure=>simp [intOf];omega
   ·have cM:m=pre.length:=CG
    subst cM;rw [List.take_length];have cN:=aa (dG.out.below hb);have dK:=aa (dH.out.trans (hb.mono CG))
    have dL:=aa (cG.out.kept (Eff.of_below (F:=F) hb));have eY:w.heap.size<wr.heap.size:=CG
    generalize co:pre.any (fun s=>cJ s ⟨p,way⟩)=rb
    have dM:=aa co;clear co hb dG dH cG cH cI;obtain ⟨q0,q1,q2,q3,q4,q5,q6,q7,_,_⟩:=cN.out;have h1:=iX ok.out.lv ok.out.ld;have h2:=R.out.nj;have h3:=ok.out.cl;have cp:Hid (lg (gG ps ss i pre CA Cy)):=by
     refine ⟨?_,?_,?_,?_⟩
     ·show pre.length<=1000
      omega
     ·show CA.length<=1000
      omega
     ·show Cy.length<=1000
      omega
     ·show (cg ps (bK ss i) pre).length<=1000
      rw [dW];omega
    have bw:Hid (Calls prog 75 #[.agg #[.int .i64 i,.int .i64 0,.slice a0 pre.length k0,.slice a1 CA.length k1,.slice a2 Cy.length k2,.slice a3 pl.length k3,.slice none 0 0,.slice none 0 0]] wr fun e w' => ∃ v0 v1 v2 v3,e = .returned (.agg #[.int .i64 i,.int .i64 0,v0,v1,v2,v3,.slice none 0 0,.slice none 0 0])/\iK w' wr.heap.size v0 v1 v2 v3 ⟨i,0,pre,CA,Cy,pl,[],[]⟩/\Cx wr w'):=by
     rw [<-cD.out];exact lD ⟨a0,k0,a1,k1,a2,k2,a3,k3,none,0,none,0⟩ (gG ps ss i pre CA Cy) wr dL.out.lists cp hnil
    go_wp2_with fail
    refine bw.out.mono ?_;rintro e w2 ⟨v0,v1,v2,v3,rfl,J,cq⟩;obtain ⟨x0,y0,rfl,_⟩:∃ x y,v0 = .slice x pre.length y/\(x=none->pre.length=0/\y=0):=ba J.o0;obtain ⟨x1,y1,rfl,_⟩:∃ x y,v1 = .slice x CA.length y/\(x=none->CA.length=0/\y=0):=ba J.o1;obtain ⟨x2,y2,rfl,_⟩:∃ x y,v2 = .slice x Cy.length y/\(x=none->Cy.length=0/\y=0):=ba J.o2;obtain ⟨x3,y3,rfl,_⟩:∃ x y,v3 = .slice x pl.length y/\(x=none->pl.length=0/\y=0):=ba J.o3;have a6:=aa J;have cO:=aa (cN.out.below cq);have dN:=aa (dK.out.trans (cq.mono CG))
    have ep:=cq.size;obtain ⟨r0,r1,r2,r3,r4,r5,r6,r7,hz,_⟩:=cO.out;have z0:=hz 0;have z1:=hz 1;have z2:=hz 2;have z3:=hz 3;have z4:=hz 4;have z5:=hz 5;have z6:=hz 6;have z7:=hz 7;clear q0 q1 q2 q3 q4 q5 q6 q7 J cq hz cN dK bw cp dL;have eq:pre.length<=200:=CG
    go_wp2_with (at_builtin;obtain ⟨U,hU,dO,aK,b0,dP⟩:=QC.store8 cO.out (.int .i64 i) (.int .i64 0) (.slice x0 pre.length y0) (.slice x1 CA.length y1) (.slice x2 Cy.length y2) (.slice x3 pl.length y3) (.slice none 0 0) (.slice none 0 0);rw [<-hU];have dQ:w2.heap.size=U.heap.size:=(by rw [hU];simp);have ab:Hid (RB W1 U w.heap.size w.heap.size wr.heap.size x0 y0 x1 y1 x2 y2 x3 y3 (.slice none 0 0) (.slice none 0 0) ⟨i,0,pre,CA,Cy,pl,[],[]⟩):=⟨b0 _ _ CW dN.out,Nat.le_refl _,CG,Nat.le_trans ep dP,dO,⟨ax a6.out.o0 (fun b hb=>aK b (by have:=(a6.out.o0.lt b hb).1;omega)),ax a6.out.o1 (fun b hb=>aK b (by have:=(a6.out.o1.lt b hb).1;omega)),ax a6.out.o2 (fun b hb=>aK b (by have:=(a6.out.o2.lt b hb).1;omega)),ax a6.out.o3 (fun b hb=>aK b (by have:=(a6.out.o3.lt b hb).1;omega))⟩⟩;clear hU dO aK b0;refine aU rfl (.tmp 67) (.tmp 71) 38 rfl wr.heap.size 46 _ 2 16 underlying38 Tryz.infoStep rfl CJ (.slice x0 pre.length y0) pre.length (aG pre) rfl ab.out.own.o0 w2.heap.size dQ [.int .i64 p,.int .i64 way] rfl rfl CL CK CG CG ?_;intro x' y' w3 cP cQ;rw [eE _ ⟨p,way⟩] at cP;have ac:=aa (ab.out.push0 cQ cP);have cR:=ab.out.qc.of_block (cQ.block _ ab.out.qc.lt (ab.out.nQ ab.out.own.o0 CJ));have s2:=cR.q2;have t2:=cR.z 2;clear cP cQ cR ab dQ dP)
    generalize dR:World.setCell w3 _ _=W4;rw [dR] at ac;clear dR s2 t2 r0 r1 r2 r3 r4 r5 r6 r7 z0 z1 z2 z3 z4 z5 z6 z7 cO dN a6;have ao:Hid (ar W4 pa ps/\aP W4 ja js/\ar W4 sa ss):=by
     have hb:=(HX.out W4 ac.out.hB).1.base;exact ⟨HP.out.below hb,HJ.out.below hb,HS.out.below hb⟩
    obtain ⟨f0,f1,f2⟩:W4.cell? ⟨F,0,none⟩=some (.slice pa ps.length pc)/\W4.cell? ⟨F,1,none⟩=some (.slice ja js.length jc)/\W4.cell? ⟨F,2,none⟩=some (.slice sa ss.length sc):=⟨(HX.out W4 ac.out.hB).1.c0,(HX.out W4 ac.out.hB).1.c1,(HX.out W4 ac.out.hB).1.c2⟩;obtain ⟨p',hp,dS,bx⟩:=ok.out.sv;have cS:p=p':=by have h:(p:Int)=p':=dS;omega
    subst cS;dsimp only at bx;have bz:=aa bx;have hL:=R.out.plen p hp;obtain ⟨nb,dT⟩:∃ nb,bi ss p way pos ss.length=nb:=⟨_,rfl⟩;have cr:=aa dT;have dU:Hid (∀ u:World,Cx W4 u->Calls prog 45 #[.agg #[.slice pa ps.length pc,.slice ja js.length jc],.slice sa ss.length sc,.int .i64 p,.int .i64 way,.int .i64 be] u fun e w'=>e = .returned (.int .i64 nb)/\Cx u w'):=by
     intro u hu;rw [<-a5.out,<-cr.out];exact m9 pa ja sa pc js.length jc sc ps ss p way pos u (ao.out.1.below hu) (ao.out.2.2.below hu) hp hL bz.out (fun k hk=>by obtain ⟨q,hq,_,_,e3,e4⟩:=R.out.sig k hk;have:=R.out.plen q hq;omega)
    clear dT bx dS;have m0:=bA.cell f0;have m1:=bA.cell f1;have m2:=bA.cell f2;have hne:=ft W4;refine cW CH CH ?_
    repeat (go_big_quiet_step ((rename_i u;exact bA.calls u (dU.out u.val u.2))))
    refine wpQuiet_nil ?_;intro _ cU;obtain ⟨u,bB⟩:=cU;subst bB;have ap:=u.2;generalize u.val=wu at ap ⊢;have aq:=aa (ac.out.below ap);have bC:Hid (ar wu pa ps/\aP wu ja js/\ar wu sa ss):=⟨ao.out.1.below ap,ao.out.2.1.below ap,ao.out.2.2.below ap⟩;have g0:=cell_later ap f0;have g1:=cell_later ap f1;have g2:=cell_later ap f2;clear ap m0 m1 m2 hne dU ao ac f0 f1 f2;have eZ : -1<=nb/\nb<60:=by
     rw [<-cr.out];rcases fA ss p way pos ss.length CW with h | ⟨b,hb,_,h,_⟩
     ·rw [h];omega
     ·rw [h];have:=R.out.ns;omega
    have cL:(nb<0/\rb=true)\/0<=nb\/(nb<0/\rb=false):=by cases rb <;> simp <;> omega
    rcases cL with ⟨cV,cX⟩ | cV | ⟨cV,cX⟩
    ·exfalso;obtain ⟨x,hx,h⟩:=List.any_eq_true.1 (dM.out.trans cX);exact HNOT.out (by rw [<-iG.1 h];exact hx)
    ·exfalso;have h:=HNBN.out;rw [cr.out] at h;omega
    ·subst cX;have f:Hid ((⟨(p:Int),way⟩:aM) ∉ pre):=fun hm=>by
      have h:pre.any (fun s=>cJ s ⟨p,way⟩)=true:=List.any_eq_true.2 ⟨_,hm,iG.2 rfl⟩
      rw [dM.out] at h;cases h
     have dV:Hid (bi ss p way pos ss.length<0):=by unfold Hid;rw [cr.out];exact cV
     obtain ⟨ji,ki,cY,dX⟩:=R.out.spot (dh (ps:=ps) (s:=⟨p,way⟩) ok.out.sv);obtain ⟨_,aI,cZ,av,_,_⟩:=df cY;simp only [Nat.sub_zero] at aI cZ av;have er:=aa cY;have c6:=aa dX;have e8:=R.out.nj;obtain ⟨bp,op,es,b2⟩:=bC.out.1.2.2.resolve_left (nz hp);subst es;obtain ⟨_,j1,_,_⟩:=b2 p hp;have b3:Hid (0<=be/\be<=10000000):=by
      unfold Hid;have h1:=ok.out.p0;have h2:=ok.out.p1;have h3:=cT hp;dsimp only at h2;rw [h3] at h2;rw [<-a5.out];unfold bu;rw [h3]
      split <;> omega
     obtain ⟨pt,dY⟩:∃ pt,cK ps p way be ps[p].len=pt:=⟨_,rfl⟩;have c7:=aa dY;have b4:Hid (∀ u:World,Cx wu u->Calls prog 76 #[.agg #[.slice (some ⟨bp,op,none⟩) ps.length pc,.slice ja js.length jc],.int .i64 p,.int .i64 way,.int .i64 be,.int .i64 ps[p].len] u fun e w'=>e = .returned (.agg #[.int .i64 pt.CB,.int .i64 pt.lo,.int .i64 pt.hi])/\Cx u w'):=by
      intro u hu;rw [<-c7.out];exact jA (some ⟨bp,op,none⟩) ja pc js.length jc ps p way be ps[p].len u (bC.out.1.below hu) hp hL b3.out.1 b3.out.2 CG CG
     have et:(0:Int)<=p:=CG
     have e9:(p:Int)<ps.length:=CG
     have dZ:=ai j1;dsimp only at dZ;clear dY b2 cY dX;have q5:=aq.out.qc.q5;have eu:=aq.out.qc.z 5;have fa:F≠w.heap.size:=CG
     have ev:F<wu.heap.size:=ai g0;have ew:w.heap.size<wu.heap.size:=aq.out.qc.lt;have ex:=aq.out.BW;dsimp only at q5
     go_wp2_with fail
     go_cut [] (fun wx => ∃ bD bE,Hid (RB W1 wx w.heap.size w.heap.size wr.heap.size x' y' x1 y1 x2 y2 bD bE (.slice none 0 0) (.slice none 0 0) ⟨i,0,pre++[⟨p,way⟩],CA,Cy,pl++[pt],[],[]⟩))
     case first =>
      obtain ⟨S,hS⟩:∃ S:World->Prop,∀ u,S u↔(u.cell? ⟨w.heap.size,5,none⟩=some (.slice x3 pl.length y3)/\u.cell? ⟨F,0,none⟩=some (.slice (some ⟨bp,op,none⟩) ps.length pc)/\u.cell? ⟨F,1,none⟩=some (.slice ja js.length jc)/\u.cell? ⟨bp,op+p*4+1,none⟩=some (.int .i64 ps[p].len)):=⟨_,fun _=>Iff.rfl⟩
      have cs:=aa hS;have r0:∀ u:an S,World.cell? u.val ⟨w.heap.size,5,none⟩=some (.slice x3 pl.length y3):=fun u=>((hS u.val).1 u.2).1
      have r1:∀ u:an S,World.cell? u.val ⟨F,0,none⟩=some (.slice (some ⟨bp,op,none⟩) ps.length pc):=fun u=>((hS u.val).1 u.2).2.1
      have r2:∀ u:an S,World.cell? u.val ⟨F,1,none⟩=some (.slice ja js.length jc):=fun u=>((hS u.val).1 u.2).2.2.1
      have r3:∀ u:an S,World.cell? u.val ⟨bp,op+p*4+1,none⟩=some (.int .i64 ps[p].len):=fun u=>((hS u.val).1 u.2).2.2.2
      have ct:S wu.drew:=(hS _).2 ⟨q5,g0,g1,j1⟩;have hne:=aQ ct;clear hS q5 g0 g1 j1;refine bW 20 ct ?_
      (refine ae 0 ?_;intro K hK;go_big_quiet_op;go_big_quiet_on);(refine ae 1 ?_;intro K hK;go_big_quiet_op;go_big_quiet_on);(refine ae 2 ?_;intro K hK;go_big_quiet_op;go_big_quiet_on);(refine ae 3 ?_;intro K hK;go_big_quiet_op;go_big_quiet_on);(refine ae 4 ?_;intro K hK;go_big_quiet_op;go_big_quiet_on);(refine ae 5 ?_;intro K hK;go_big_quiet_op;go_big_quiet_on);(refine ae 6 ?_;intro K hK;go_big_quiet_op;go_big_quiet_on);(refine ae 7 ?_;intro K hK;go_big_quiet_op;go_big_quiet_on);(refine ae 8 ?_;intro K hK;go_big_quiet_op;go_big_quiet_on);(refine ae 9 ?_;intro K hK;go_big_quiet_op;go_big_quiet_on);(refine ae 10 ?_;intro K hK;go_big_quiet_op;go_big_quiet_on);(refine ae 11 ?_;intro K hK;go_big_quiet_op;go_big_quiet_on);(refine ae 12 ?_;intro K hK;go_big_quiet_op;go_big_quiet_on);(refine ae 13 ?_;intro K hK;go_big_quiet_op;go_big_quiet_on);(refine ae 14 ?_;intro K hK;go_big_quiet_op;go_big_quiet_on);(refine ae 15 ?_;intro K hK;go_big_quiet_op;go_big_quiet_on);(refine ae 16 ?_;intro K hK;go_big_quiet_op;go_big_quiet_on);(refine ae 17 ?_;intro K hK;go_big_quiet_op;go_big_quiet_on)
      refine az 18 ?_;intro K hK
      go_wp2_with (go_at_call 76;refine (b4.out _ CV.drew).mono ?_;rintro e w5 ⟨rfl,aw⟩)
      have C:Cx wu w5:=CV.drew.trans aw;have c8:S w5:=by
       obtain ⟨s1,s2,s3,s4⟩:=(cs.out _).1 ct;exact (cs.out _).2 ⟨cell_later aw s1,cell_later aw s2,cell_later aw s3,cell_later aw s4⟩
      have ay:=aa (aq.out.below C);have bf:=C.size;clear aw C;refine hK _ _ (ak c8) ?_;clear hK K;refine az 19 ?_;intro K hK
      go_wp2_with fail
      have d2:∀ o,S (World.alloc w5 o):=fun o=>by
       obtain ⟨s1,s2,s3,s4⟩:=(cs.out _).1 c8;have hb:=(Below.refl w5.heap.size w5).alloc CW o;exact (cs.out _).2 ⟨cell_later hb s1,cell_later hb s2,cell_later hb s3,cell_later hb s4⟩
      refine hK _ _ (ak (d2 _)) ?_;clear hK K d2 c8 ct hne r0 r1 r2 r3;refine a9 ?_;simp only [List.drop_succ_cons,List.drop_zero];refine aU rfl (.tmp 134) (.tmp 152) 41 rfl wr.heap.size 48 _ 3 24 underlying41 Tryz.infoPart rfl CJ (.slice x3 pl.length y3) pl.length (bG pl) rfl ay.out.own.o3 w5.heap.size rfl [.int .i64 pt.CB,.int .i64 pt.lo,.int .i64 pt.hi] rfl rfl CL (by have:=bs.out;unfold maxLen;omega) (by have:=bs.out;omega) CG ?_
      intro bD bE w6 c9 da;rw [gY] at c9;have d:=aa (ay.out.push3 da c9);have db:=ay.out.qc.of_block (da.block _ ay.out.qc.lt (ay.out.nQ ay.out.own.o3 CJ))
      have s5:=db.q5;have t5:=db.z 5;clear c9 da db
      go_wp2_with fail
      go_meet
      exact ⟨bD,bE,d⟩
     case rest =>
      obtain ⟨bD,bE,a7⟩:=hcut;clear q5 eu g0 g1 g2 b4 aq ev ew ex j1 dZ bC;have b5:Hid (⟨i,-1,pre++[⟨p,way⟩],CA,Cy,pl++[pt],[],aS ps js ss CA CA⟩=dr ps js ss over (eo i (-1) (pre++[⟨p,way⟩]) CA Cy)):=by
       unfold Hid;rw [<-cD.out,<-c7.out,<-a5.out];exact tN ok.out bz.out hp
      have ad:Hid (pl++[pt]=cg ps (bK ss i) (pre++[⟨p,way⟩])):=by
       unfold Hid;rw [<-cD.out,<-c7.out,<-a5.out];exact AR ok.out bz.out hp
      obtain ⟨L,cw⟩:∃ L,pre++[(⟨(p:Int),way⟩:aM)]=L:=⟨_,rfl⟩;obtain ⟨PL,bF⟩:∃ PL,pl++[pt]=PL:=⟨_,rfl⟩;rw [cw,bF] at a7 b5 ad;have aZ:=aa cw;have dc:Hid (PL.length=L.length):=by unfold Hid;rw [<-bF,<-cw];simp [bs.out]
      clear cw bF;have cx:=aa (HX.out wc a7.out.hB).1;have f0:=cx.out.c0;have f1:=cx.out.c1;have d3:=aa (HJ.out.below cx.out.base);obtain ⟨eh,dd⟩:∃ E,au ⟨(p:Int),way⟩=E:=⟨_,rfl⟩;have d4:Hid (∀ u:World,Cx wc u->Calls prog 47 #[.int .i64 p,.int .i64 way] u fun e w'=>e = .returned (.agg #[.int .i64 eh.CB,.int .i64 eh.side])/\Cx u w'):=fun u _=>by rw [<-dd];exact lC p way u
      have d5:Hid (∀ u:World,Cx wc u->Calls prog 46 #[.agg #[.slice (some ⟨bp,op,none⟩) ps.length pc,.slice ja js.length jc],.agg #[.int .i64 eh.CB,.int .i64 eh.side]] u fun r w'=>r = .returned (.tuple #[.int .i64 ji,.int .i64 ki])/\Cx u w'):=fun u hu=>lL (some ⟨bp,op,none⟩) ja ps.length pc jc js eh ji ki u (d3.out.below hu) (by unfold Hid;rw [<-dd];exact er.out)
      clear dd
      go_wp2_with fail
      have m0:=bA.cell f0;have m1:=bA.cell f1;have hne:=ft wc;refine cW CH CH ?_
      iterate 6 (go_big_quiet_step (fail))
      go_big_quiet_step ((rename_i u;exact bA.calls u (d4.out u.val u.2)))
      go_big_quiet_step ((rename_i u;exact bA.calls u (d5.out u.val u.2)))
      iterate 5 (go_big_quiet_step (fail))
      refine wpQuiet_nil ?_;intro _ cU;obtain ⟨u,bB⟩:=cU;subst bB;have ap:=u.2;generalize u.val=wd at ap ⊢;have aA:=aa (a7.out.below ap);clear m0 m1 hne d4 d5 ap a7 cx d3 f0 f1;have cy:=aa (HX.out wd aA.out.hB).1;have g1:=cy.out.c1;obtain ⟨bj,oj,ey,b6⟩:=(HJ.out.below cy.out.base).2.2.resolve_left (nz aI);subst ey;obtain ⟨c1,c2,ea,ec,c3,c4⟩:=b6 ji aI;have d6:=aa c4;have cn:=ai c1;dsimp only at cn;have de:=R.out.kind ji aI;have eA:(0:Int)<=ji:=CG
      have eB:(ji:Int)<js.length:=CG
      have fb:w.heap.size<wd.heap.size:=aA.out.qc.lt;have fc:F<wd.heap.size:=cy.out.lt;clear b6 c4;have eC:js[ji].kind=1\/(js[ji].kind=2\/js[ji].kind=3\/js[ji].kind=4):=CG
      rcases eC with bR | bR
      ·have dg:Hid (evs ps js ss (n+1) (aF i (pre++[⟨p,way⟩]) CA Cy) pos=[eo i (-1) L CA Cy]):=by
        unfold Hid;rw [<-aZ.out];exact lR (s:=⟨(p:Int),way⟩) (by show ¬ 0<=bi ss p way pos ss.length;have:=dV.out;omega) f.out (by rw [c6.out,cu aI];exact bR)
       rw [bR] at c1;obtain ⟨e0,e1,e2,e3,e4,e5,e6,e7,ez,_⟩:=aA.out.qc;have eD:=ez 1;dsimp only at e0 e1 e2 e3 e4 e5;clear ez
       go_wp2_with fail
       generalize d7:World.alloc _ _=Wz;have aN:Hid (RB W1 Wz w.heap.size w.heap.size wr.heap.size x' y' x1 y1 x2 y2 bD bE (.slice none 0 0) (.slice none 0 0) ⟨i,-1,L,CA,Cy,PL,[],[]⟩):=by rw [<-d7];exact (aA.out.set1 (-1)).below CU
       clear d7;refine (vD (ov:=[]) (x4:=none) (y4:=0) R HP HJ HS hfl (HX.out _ aN.out.hB).1 aN.out CG CG ok.out.lv ok.out.ld).mono ?_
       intro e w9 hd;have av:=tf (n:=n) (HX.out _ aN.out.hB).1 (HX.out _ aN.out.hB).2 aN.out CG (World.ownsRow_nil _ _ _ _) (Nat.lt_succ_self F) hd (p':=eo i (-1) L CA Cy) rfl b5.out CG CG
       have he:=av.1;subst he;rw [<-dg.out] at av;have di:=aa av;clear hd av e0 e1 e2 e3 e4 e5 e6 e7 eD
       go_wp2_with fail
       (try simp only [Exit.inBlock,Exit.then])
       refine bodyPost_ret (results_none rfl _ _ _) rfl ?_;exact di.out
      ·obtain ⟨T,hT⟩:∃ T,bt js[ji].kind ki=T:=⟨_,rfl⟩;have dg:Hid (evs ps js ss (n+1) (aF i (pre++[⟨p,way⟩]) CA Cy) pos=aF i L CA Cy::dy ps js ss n (aF i L CA Cy) ji ki T):=by
        unfold Hid;have h:=tS (ps:=ps) (js:=js) (ss:=ss) (pre:=pre) (s:=⟨(p:Int),way⟩) (pos:=pos) (n:=n) (i:=i) (CA:=CA) (Cy:=Cy) (by show ¬ 0<=bi ss p way pos ss.length;have:=dV.out;omega) f.out (by rw [c6.out,cu aI];omega)
        rw [c6.out] at h;dsimp only at h;rw [cu aI,hT,aZ.out] at h;rw [aZ.out];exact h
       have dj:Hid (T.length<=2/\∀ x ∈ T,x<js[ji].ends.length):=by
        unfold Hid;rw [<-hT];exact ⟨ox _ _,fun x hx=>iF de.2.2 cZ hx⟩
       obtain ⟨LE,dk⟩:∃ LE,T.map (fun t=>js[ji].ends.getD t ⟨0,0⟩)=LE:=⟨_,rfl⟩
       have dm:Hid (∀ u:World,Cx wd u->Calls prog 48 #[.agg #[.int .i64 js[ji].kind,.string js[ji].name,.slice ea js[ji].ends.length ec],.int .i64 ki] u (dl u LE)):=fun u hu=>by
        rw [<-dk,<-hT];exact rN js[ji].kind js[ji].name js[ji].ends ki cZ de.2.2 bR ea ec u (d6.out.below hu)
       have a8:Hid (LE.length=T.length/\∀ m (h:m<LE.length) (h':m<T.length),∃ (h2:T[m]<js[ji].ends.length),LE[m]=js[ji].ends[T[m]]):=by
        unfold Hid;subst dk;refine ⟨CI,fun m h h'=>?_⟩
        have h2:=dj.out.2 T[m] (List.getElem_mem h');exact ⟨h2,by simp [h2]⟩
       have eF:=aa hT;have dn:Hid (∀ b,w.heap.size<=b->(Value.slice xo pr.length yo).ownBlock≠some b):=fun b hb e=>by have:=(hs.out.own.lt b e).2;omega
       obtain ⟨kd,bb⟩:∃ kd,js[ji].kind=kd:=⟨_,rfl⟩;rw [bb] at c1 dm;have b7:=aa bb;have b8:kd=2\/kd=3\/kd=4:=by rw [<-bb];exact bR
       have fd:(kd==1)=false:=by rcases b8 with h | h | h <;> simp [h]
       clear hT dk bb bR
       go_wp2_with (go_at_call 48;refine (dm.out _ CU).mono ?_;rintro e wl ⟨g,rfl,d8,cz,dp⟩;have eG:=aa d8;have dq:Hid (Cx wd wl):=(CU.trans (dp.mono CI));have X0:wl.cell? ⟨wd.heap.size,0,none⟩=some (.int .i64 kd):=cell_later dp CO;have fe:wd.heap.size<g:=(by simp at cz;omega);clear d8 cz dp)
       have aB:=aa (aA.out.below dq.out);have eH:=aa (HX.out wl aB.out.hB).1;have eI:=aa (HX.out wl aB.out.hB).2;have eJ:=aa (vI (F:=F) aB.out CG)
       have eK:=aa (yh aB.out);have b9:Hid (cv w0 wl wl F (some ⟨bp,op,none⟩) (some ⟨bj,oj,none⟩) sa pc jc sc ps js ss over n t (.slice xo pr.length yo) (pr.map Prod.snd) (aF i L CA Cy) ji ki T 0):=cv.start eH.out (by have:=hn.out;omega) CG rfl hpr
       have cp:Hid (lg ⟨i,0,L,CA,Cy,PL,[],[]⟩):=by
        have e1:L.length=pre.length+1:=by rw [<-aZ.out];simp
        have e2:=dc.out;exact ⟨by show L.length<=1000;omega,by show CA.length<=1000;omega,by show Cy.length<=1000;omega,by show PL.length<=1000;omega⟩
       have eL:LE.length<=2:=by rw [a8.out.1];exact dj.out.1
       have ff:wd.heap.size<=wl.heap.size:=dq.out.size;clear c1 c2 c3 g1 d6 cy aA dm cn dq
       go_loopw [185] (fun c wq => ∃ m:Nat,m<=LE.length/\c = .int .i64 m/\Hid (cv w0 wl wq F (some ⟨bp,op,none⟩) (some ⟨bj,oj,none⟩) sa pc jc sc ps js ss over n t (.slice xo pr.length yo) (pr.map Prod.snd) (aF i L CA Cy) ji ki T m)) (fun c _=>LE.length-(intOf c).toNat)
       case atStart=>exact ⟨0,Nat.zero_le _,rfl,b9⟩
       case round =>
        clear b9;obtain ⟨m,hm,rfl,ds⟩:=hrel
        by_cases bv:m<LE.length
        ·obtain ⟨xq,yq,tq,d9,eb,dt,ed,bh,O⟩:=ds.out;have bk:=aa eb;have aJ:=aa dt;have bl:=aa ed;have eM:=dt.size;clear dt eb ed;have aO:m<T.length:=by rw [<-a8.out.1];exact bv
         obtain ⟨ee,ca⟩:=a8.out.2 m bv aO;obtain ⟨pe,eN,bc,cb⟩:=R.out.ends ji aI T[m] ee;obtain ⟨d0,d1⟩:=eG.out m bv;have cz:g<wl.heap.size:=ai d0;have dv:wr.heap[g]? = wl.heap[g]? := aJ.out.block CG cz (dn.out g CG)
         rw [ca] at d0 d1;rw [bc] at d0;have cA:wr.cell? ⟨g,m*2,none⟩=some (.int .i64 pe):=by have h:=(World.cell?_of_block (w:=wl) dv).trans d0;simpa using h
         have bS:wr.cell? ⟨g,m*2+1,none⟩=some (.int .i64 js[ji].ends[T[m]].side):=by have h:=(World.cell?_of_block (w:=wl) dv).trans d1;simpa using h
         have eO:=aa (aB.out.qc.of_block (aJ.out.block CG aB.out.qc.lt (dn.out _ CW)))
         have bm:wr.cell? ⟨wd.heap.size,0,none⟩=some (.int .i64 kd):=(World.cell?_of_block (w:=wl) (aJ.out.block (b:=wd.heap.size) CG (ai X0) (dn.out wd.heap.size CG))).trans X0
         have eP:=aa (eJ.out.kept aJ.out);have bw:Hid (∀ u:World,Cx wr u->Calls prog 75 #[.agg #[.int .i64 i,.int .i64 0,.slice x' L.length y',.slice x1 CA.length y1,.slice x2 Cy.length y2,.slice bD PL.length bE,.slice none 0 0,.slice none 0 0]] u fun e w' => ∃ v0 v1 v2 v3,e = .returned (.agg #[.int .i64 i,.int .i64 0,v0,v1,v2,v3,.slice none 0 0,.slice none 0 0])/\iK w' u.heap.size v0 v1 v2 v3 ⟨i,0,L,CA,Cy,PL,[],[]⟩/\Cx u w'):=fun u hu=>lD ⟨x',y',x1,y1,x2,y2,bD,bE,none,0,none,0⟩ ⟨i,0,L,CA,Cy,PL,[],[]⟩ u (eP.out.lists.below hu) cp eK
         have bH:Hid (bM ps js[ji].ends[T[m]]):=⟨pe,eN,bc,cb⟩;have aC:Hid (aY js ji T[m]=js[ji].ends[T[m]]):=du aI ee;have bI:=aa bc;have bn:Hid (aH js ji=kd):=by unfold Hid;rw [cu aI];exact b7.out
         have eQ:Hid (kd=3->((ki=0/\T[m]=m+1)\/(ki≠0/\T[m]=0))):=by
          intro h3;have bJ:=eF.out;rw [b7.out,h3] at bJ;unfold bt at bJ;rw [if_neg CG,if_pos rfl] at bJ
          by_cases bL:ki=0
          ·rw [if_pos bL] at bJ;subst bJ;have cB:m=0\/m=1:=by simp at aO;omega
           rcases cB with rfl | rfl
           ·exact Or.inl ⟨bL,rfl⟩
           ·exact Or.inl ⟨bL,rfl⟩
          ·rw [if_neg bL] at bJ;subst bJ;have cB:m=0:=by simp at aO;omega
           subst cB;exact Or.inr ⟨bL,rfl⟩
         generalize js[ji].ends[T[m]]=en at bS cb bH aC bI;obtain ⟨sd,bd⟩:∃ sd,en.side=sd:=⟨_,rfl⟩;rw [bd] at bS cb;have ef:((sd==1)=false/\(aD en).side=1)\/((sd==1)=true/\(aD en).side = -1):=by
          rcases cb with h | h
          ·exact Or.inl ⟨by simp [h],qE (bd.trans h)⟩
          ·exact Or.inr ⟨by simp [h],qC (bd.trans h)⟩
         have bT:=aa ef;clear ef cb bd bc ca d0 d1 ds dv;obtain ⟨e0,e1,e2,e3,e4,e5,e6,e7,_,_⟩:=eO.out;dsimp only at e0 e1 e2 e3 e4 e5;have fg:g<wr.heap.size:=CG
         have fh:wd.heap.size<wr.heap.size:=CG
         have fi:w.heap.size<wr.heap.size:=CG
         have fj:F<wr.heap.size:=CG
         have fk:(m:Int)<LE.length:=CG
         rcases b8 with rfl | rfl | rfl
         ·rcases bT.out with ⟨aR,V⟩ | ⟨aR,V⟩
          all_goals
           go_wp2_with (go_at_call 75;refine (bw.out _ CU).mono ?_;rintro e w5 ⟨v0,v1,v2,v3,rfl,a,C⟩;obtain ⟨z0,t0,rfl,_⟩:∃ x y,v0 = .slice x L.length y/\(x=none->L.length=0/\y=0):=ba a.o0;obtain ⟨z1,t1,rfl,_⟩:∃ x y,v1 = .slice x CA.length y/\(x=none->CA.length=0/\y=0):=ba a.o1;obtain ⟨z2,t2,rfl,_⟩:∃ x y,v2 = .slice x Cy.length y/\(x=none->Cy.length=0/\y=0):=ba a.o2;obtain ⟨z3,t3,rfl,_⟩:∃ x y,v3 = .slice x PL.length y/\(x=none->PL.length=0/\y=0):=ba a.o3;have a4:Hid (iK w5 (wr.heap.size+1) (.slice z0 L.length t0) (.slice z1 CA.length t1) (.slice z2 Cy.length t2) (.slice z3 PL.length t3) ⟨i,0,L,CA,Cy,PL,[],[]⟩):=⟨aW a.o0 CI,aW a.o1 CI,aW a.o2 CI,aW a.o3 CI⟩;have am:Hid (Cx wr w5):=CU.trans (C.mono CI);have N:=cell_later am.out bm;have G:w5.cell? ⟨wr.heap.size,0,none⟩=some (.int .i64 pe):=cell_later C CO;have H:w5.cell? ⟨wr.heap.size,1,none⟩=some (.int .i64 sd):=cell_later C CO;have bf:wr.heap.size+1<=w5.heap.size:=(by have:=C.size;simpa using this);have dw:wd.heap.size<w5.heap.size:=CG;have dx:wr.heap.size<w5.heap.size:=CG;clear a C e0 e1 e2 e3 e4 e5 e6 e7 cA bS bm)
           generalize ag:World.alloc w5 _=W6;have d:=aa (p9 am.out bf a4.out);rw [ag] at d;clear ag G H N;have X:Hid (Cx wr W6):=d.out.hB;have M:=ia ih.out R.out ok.out f.out hn.out aZ.out ad.out bH.out bI.out ok.out.lv ok.out.ld (by have:=ok.out.cl;omega) (bk.out.below X.out) d.out CG (by have:=hn.out;omega) O V
           refine M.mono ?_;clear M;intro e w9 Y;obtain ⟨he,Z⟩:=cv.gone aJ.out bl.out bh X.out aO (q:=aF i (L++[aD en]) CA Cy) (by rw [pS bn.out,aC.out]) (by rw [aC.out];exact Y)
           subst he;have ah:=aa Z;clear Z Y
           go_wp2_with fail
           go_roundw
           case rel=>exact ⟨m+1,CG,by go_num,ah⟩
           case measure=>simp [intOf];omega
         ·have cB:m<=1:=CG
          rcases eQ.out rfl with ⟨bU,cc⟩ | ⟨bU,cc⟩
          ·have bL:((ki:Int)==0)=true:=by simp [bU]
           have bN:Hid (((max ki T[m]:Nat):Int)=(m:Int)+1):=by unfold Hid;rw [cc,bU];omega
           have bO:Hid ((m:Int)+1=1\/(m:Int)+1=2):=by unfold Hid;omega
           clear bU cc
           go_wp2_with (go_at_call 75;refine (bw.out _ CU).mono ?_;rintro e w5 ⟨v0,v1,v2,v3,rfl,a,C⟩;obtain ⟨z0,t0,rfl,_⟩:∃ x y,v0 = .slice x L.length y/\(x=none->L.length=0/\y=0):=ba a.o0;obtain ⟨z1,t1,rfl,_⟩:∃ x y,v1 = .slice x CA.length y/\(x=none->CA.length=0/\y=0):=ba a.o1;obtain ⟨z2,t2,rfl,_⟩:∃ x y,v2 = .slice x Cy.length y/\(x=none->Cy.length=0/\y=0):=ba a.o2;obtain ⟨z3,t3,rfl,_⟩:∃ x y,v3 = .slice x PL.length y/\(x=none->PL.length=0/\y=0):=ba a.o3;have a4:Hid (iK w5 (wr.heap.size+1) (.slice z0 L.length t0) (.slice z1 CA.length t1) (.slice z2 Cy.length t2) (.slice z3 PL.length t3) ⟨i,0,L,CA,Cy,PL,[],[]⟩):=⟨aW a.o0 CI,aW a.o1 CI,aW a.o2 CI,aW a.o3 CI⟩;have am:Hid (Cx wr w5):=CU.trans (C.mono CI);have N:=cell_later am.out bm;have G:w5.cell? ⟨wr.heap.size,0,none⟩=some (.int .i64 pe):=cell_later C CO;have H:w5.cell? ⟨wr.heap.size,1,none⟩=some (.int .i64 sd):=cell_later C CO;have bf:wr.heap.size+1<=w5.heap.size:=(by have:=C.size;simpa using this);have dw:wd.heap.size<w5.heap.size:=CG;have dx:wr.heap.size<w5.heap.size:=CG;clear a C e0 e1 e2 e3 e4 e5 e6 e7 cA bS bm)
           generalize ag:World.alloc w5 _=W6;have d:=aa (p9 am.out bf a4.out);rw [ag] at d;have v:Cx w5 W6:=by rw [<-ag];exact CV.alloc CW _
           replace G:=cell_later v G;replace H:=cell_later v H;replace N:=cell_later v N;have dz:=v.size;clear ag v a4 am;refine (qf w5.heap.size (wr.heap.size+1) CA.length z1 t1 CA ji ((m:Int)+1) W6 d.out.qc.q3 (d.out.qc.z 3) d.out.own.o1 rfl CG (d.out.nQ d.out.own.o1 CJ) CG).mono ?_
           intro e w7 j;unfold kg at j
           by_cases D:CA.any (fun l=>l.CB==(ji:Int))=true
           ·rw [if_pos D] at j;obtain ⟨rfl,aE⟩:=j;have cd:=aa (lx ok.out.lv D);have A:=aa (d.out.below aE);obtain ⟨f0,f1,f2,f3,f4,f5,f6,f7,_,_⟩:=A.out.qc;dsimp only at f0 f1 f2 f3 f4 f5;replace G:=cell_later aE G;replace H:=cell_later aE H;replace N:=cell_later aE N;have eg:=aE.size;have ei:wr.heap.size<w7.heap.size:=CG
            have eR:w5.heap.size<w7.heap.size:=by have:=A.out.qc.lt;omega
            clear aE D;cases hq:(ce CA ji==((m:Int)+1))
            ·have ah:Hid (cv w0 wl w7 F (some ⟨bp,op,none⟩) (some ⟨bj,oj,none⟩) sa pc jc sc ps js ss over n t (.slice xo pr.length yo) (pr.map Prod.snd) (aF i L CA Cy) ji ki T (m+1)):=cv.none (cv.below ⟨xq,yq,tq,d9,bk.out,aJ.out,bl.out,bh,O⟩ A.out.hB) aO (jG bn.out (by rw [bN.out];simpa using hq) cd.out)
             go_wp2_with fail
             go_roundw
             case rel=>exact ⟨m+1,CG,by go_num,ah⟩
             case measure=>simp [intOf];omega
            ·have dA:Hid (ce CA ji=((m:Int)+1)):=by unfold Hid;simpa using hq
             rcases bT.out with ⟨aR,V⟩ | ⟨aR,V⟩
             all_goals
              go_wp2_with fail
              clear G H N f0 f1 f2 f3 f4 f5 f6 f7;have X:Hid (Cx wr w7):=A.out.hB;have M:=ia ih.out R.out ok.out f.out hn.out aZ.out ad.out bH.out bI.out ok.out.lv ok.out.ld (by have:=ok.out.cl;omega) (bk.out.below X.out) A.out CG (by have:=hn.out;omega) O V
              refine M.mono ?_;clear M;intro e w9 Y;obtain ⟨he,Z⟩:=cv.gone aJ.out bl.out bh X.out aO (q:=aF i (L++[aD en]) CA Cy) (by rw [kw bn.out (by rw [bN.out];exact dA.out) cd.out,aC.out]) (by rw [aC.out];exact Y)
              subst he;have ah:=aa Z;clear Z Y
              go_wp2_with fail
              go_roundw
              case rel=>exact ⟨m+1,CG,by go_num,ah⟩
              case measure=>simp [intOf];omega
           ·rw [if_neg D] at j;obtain ⟨rfl,x4,y4,w8,rfl,cf,aV⟩:=j;have I:=aa (d.out.push1 aV cf);have aX:some wr.heap.size≠(Value.slice z1 CA.length t1).ownBlock:=fun e=>by have:=(d.out.own.o1.lt wr.heap.size e.symm).1;omega
            have ch:some wd.heap.size≠(Value.slice z1 CA.length t1).ownBlock:=fun e=>by have:=(d.out.own.o1.lt wd.heap.size e.symm).1;omega
            have bQ:(w8.setCell ⟨w5.heap.size,3,none⟩ (.slice x4 (CA.length+1) y4)).cell? ⟨wr.heap.size,0,none⟩=some (.int .i64 pe):=by rw [World.cell?_setCell_other _ _ _ _ CP];exact aV.cell G aX
            have ci:(w8.setCell ⟨w5.heap.size,3,none⟩ (.slice x4 (CA.length+1) y4)).cell? ⟨wr.heap.size,1,none⟩=some (.int .i64 sd):=by rw [World.cell?_setCell_other _ _ _ _ CP];exact aV.cell H aX
            have cj:(w8.setCell ⟨w5.heap.size,3,none⟩ (.slice x4 (CA.length+1) y4)).cell? ⟨wd.heap.size,0,none⟩=some (.int .i64 3):=by rw [World.cell?_setCell_other _ _ _ _ CP];exact aV.cell N ch
            generalize bV:World.setCell w8 _ _=W8 at I bQ ci cj ⊢;obtain ⟨f0,f1,f2,f3,f4,f5,f6,f7,_,_⟩:=I.out.qc;dsimp only at f0 f1 f2 f3 f4 f5;simp only [List.length_append,List.length_singleton] at f3;have dB:=ai bQ;dsimp only at dB;have eS:=I.out.qc.lt;have cm:=aa D;clear bV cf aV aX ch D G H N;rcases bT.out with ⟨aR,V⟩ | ⟨aR,V⟩
            all_goals
             go_wp2_with fail
             clear bQ ci cj f0 f1 f2 f3 f4 f5 f6 f7;have X:Hid (Cx wr W8):=I.out.hB;have M:=ia ih.out R.out ok.out f.out hn.out aZ.out ad.out bH.out bI.out (kI ok.out.lv aI b7.out bO.out) (jN ok.out.ld cm.out) (by have:=ok.out.cl;omega) (bk.out.below X.out) I.out CG (by have:=hn.out;omega) O V
             rw [List.length_append,List.length_singleton] at M;refine M.mono ?_;clear M;intro e w9 Y;obtain ⟨he,Z⟩:=cv.gone aJ.out bl.out bh X.out aO (q:=aF i (L++[aD en]) (CA++[(⟨(ji:Int),((m:Int)+1)⟩:bg)]) Cy) (by rw [lI bn.out (px cm.out),aC.out,bN.out]) (by rw [aC.out];exact Y)
             subst he;have ah:=aa Z;clear Z Y
             go_wp2_with fail
             go_roundw
             case rel=>exact ⟨m+1,CG,by go_num,ah⟩
             case measure=>simp [intOf];omega
          ·have bL:((ki:Int)==0)=false:=by simp [bU]
           have bN:Hid (((max ki T[m]:Nat):Int)=(ki:Int)):=by unfold Hid;rw [cc];omega
           have bO:Hid ((ki:Int)=1\/(ki:Int)=2):=by unfold Hid;have:=de.2.2;rw [b7.out] at this;omega
           clear bU cc
           go_wp2_with (go_at_call 75;refine (bw.out _ CU).mono ?_;rintro e w5 ⟨v0,v1,v2,v3,rfl,a,C⟩;obtain ⟨z0,t0,rfl,_⟩:∃ x y,v0 = .slice x L.length y/\(x=none->L.length=0/\y=0):=ba a.o0;obtain ⟨z1,t1,rfl,_⟩:∃ x y,v1 = .slice x CA.length y/\(x=none->CA.length=0/\y=0):=ba a.o1;obtain ⟨z2,t2,rfl,_⟩:∃ x y,v2 = .slice x Cy.length y/\(x=none->Cy.length=0/\y=0):=ba a.o2;obtain ⟨z3,t3,rfl,_⟩:∃ x y,v3 = .slice x PL.length y/\(x=none->PL.length=0/\y=0):=ba a.o3;have a4:Hid (iK w5 (wr.heap.size+1) (.slice z0 L.length t0) (.slice z1 CA.length t1) (.slice z2 Cy.length t2) (.slice z3 PL.length t3) ⟨i,0,L,CA,Cy,PL,[],[]⟩):=⟨aW a.o0 CI,aW a.o1 CI,aW a.o2 CI,aW a.o3 CI⟩;have am:Hid (Cx wr w5):=CU.trans (C.mono CI);have N:=cell_later am.out bm;have G:w5.cell? ⟨wr.heap.size,0,none⟩=some (.int .i64 pe):=cell_later C CO;have H:w5.cell? ⟨wr.heap.size,1,none⟩=some (.int .i64 sd):=cell_later C CO;have bf:wr.heap.size+1<=w5.heap.size:=(by have:=C.size;simpa using this);have dw:wd.heap.size<w5.heap.size:=CG;have dx:wr.heap.size<w5.heap.size:=CG;clear a C e0 e1 e2 e3 e4 e5 e6 e7 cA bS bm)
           generalize ag:World.alloc w5 _=W6;have d:=aa (p9 am.out bf a4.out);rw [ag] at d;have v:Cx w5 W6:=by rw [<-ag];exact CV.alloc CW _
           replace G:=cell_later v G;replace H:=cell_later v H;replace N:=cell_later v N;have dz:=v.size;clear ag v a4 am;refine (qf w5.heap.size (wr.heap.size+1) CA.length z1 t1 CA ji (ki:Int) W6 d.out.qc.q3 (d.out.qc.z 3) d.out.own.o1 rfl CG (d.out.nQ d.out.own.o1 CJ) CG).mono ?_
           intro e w7 j;unfold kg at j
           by_cases D:CA.any (fun l=>l.CB==(ji:Int))=true
           ·rw [if_pos D] at j;obtain ⟨rfl,aE⟩:=j;have cd:=aa (lx ok.out.lv D);have A:=aa (d.out.below aE);obtain ⟨f0,f1,f2,f3,f4,f5,f6,f7,_,_⟩:=A.out.qc;dsimp only at f0 f1 f2 f3 f4 f5;replace G:=cell_later aE G;replace H:=cell_later aE H;replace N:=cell_later aE N;have eg:=aE.size;have ei:wr.heap.size<w7.heap.size:=CG
            have eR:w5.heap.size<w7.heap.size:=by have:=A.out.qc.lt;omega
            clear aE D;cases hq:(ce CA ji==(ki:Int))
            ·have ah:Hid (cv w0 wl w7 F (some ⟨bp,op,none⟩) (some ⟨bj,oj,none⟩) sa pc jc sc ps js ss over n t (.slice xo pr.length yo) (pr.map Prod.snd) (aF i L CA Cy) ji ki T (m+1)):=cv.none (cv.below ⟨xq,yq,tq,d9,bk.out,aJ.out,bl.out,bh,O⟩ A.out.hB) aO (jG bn.out (by rw [bN.out];simpa using hq) cd.out)
             go_wp2_with fail
             go_roundw
             case rel=>exact ⟨m+1,CG,by go_num,ah⟩
             case measure=>simp [intOf];omega
            ·have dA:Hid (ce CA ji=(ki:Int)):=by unfold Hid;simpa using hq
             rcases bT.out with ⟨aR,V⟩ | ⟨aR,V⟩
             all_goals
              go_wp2_with fail
              clear G H N f0 f1 f2 f3 f4 f5 f6 f7;have X:Hid (Cx wr w7):=A.out.hB;have M:=ia ih.out R.out ok.out f.out hn.out aZ.out ad.out bH.out bI.out ok.out.lv ok.out.ld (by have:=ok.out.cl;omega) (bk.out.below X.out) A.out CG (by have:=hn.out;omega) O V
              refine M.mono ?_;clear M;intro e w9 Y;obtain ⟨he,Z⟩:=cv.gone aJ.out bl.out bh X.out aO (q:=aF i (L++[aD en]) CA Cy) (by rw [kw bn.out (by rw [bN.out];exact dA.out) cd.out,aC.out]) (by rw [aC.out];exact Y)
              subst he;have ah:=aa Z;clear Z Y
              go_wp2_with fail
              go_roundw
              case rel=>exact ⟨m+1,CG,by go_num,ah⟩
              case measure=>simp [intOf];omega
           ·rw [if_neg D] at j;obtain ⟨rfl,x4,y4,w8,rfl,cf,aV⟩:=j;have I:=aa (d.out.push1 aV cf);have aX:some wr.heap.size≠(Value.slice z1 CA.length t1).ownBlock:=fun e=>by have:=(d.out.own.o1.lt wr.heap.size e.symm).1;omega
            have ch:some wd.heap.size≠(Value.slice z1 CA.length t1).ownBlock:=fun e=>by have:=(d.out.own.o1.lt wd.heap.size e.symm).1;omega
            have bQ:(w8.setCell ⟨w5.heap.size,3,none⟩ (.slice x4 (CA.length+1) y4)).cell? ⟨wr.heap.size,0,none⟩=some (.int .i64 pe):=by rw [World.cell?_setCell_other _ _ _ _ CP];exact aV.cell G aX
            have ci:(w8.setCell ⟨w5.heap.size,3,none⟩ (.slice x4 (CA.length+1) y4)).cell? ⟨wr.heap.size,1,none⟩=some (.int .i64 sd):=by rw [World.cell?_setCell_other _ _ _ _ CP];exact aV.cell H aX
            have cj:(w8.setCell ⟨w5.heap.size,3,none⟩ (.slice x4 (CA.length+1) y4)).cell? ⟨wd.heap.size,0,none⟩=some (.int .i64 3):=by rw [World.cell?_setCell_other _ _ _ _ CP];exact aV.cell N ch
            generalize bV:World.setCell w8 _ _=W8 at I bQ ci cj ⊢;obtain ⟨f0,f1,f2,f3,f4,f5,f6,f7,_,_⟩:=I.out.qc;dsimp only at f0 f1 f2 f3 f4 f5;simp only [List.length_append,List.length_singleton] at f3;have dB:=ai bQ;dsimp only at dB;have eS:=I.out.qc.lt;have cm:=aa D;clear bV cf aV aX ch D G H N;rcases bT.out with ⟨aR,V⟩ | ⟨aR,V⟩
            all_goals
             go_wp2_with fail
             clear bQ ci cj f0 f1 f2 f3 f4 f5 f6 f7;have X:Hid (Cx wr W8):=I.out.hB;have M:=ia ih.out R.out ok.out f.out hn.out aZ.out ad.out bH.out bI.out (kI ok.out.lv aI b7.out bO.out) (jN ok.out.ld cm.out) (by have:=ok.out.cl;omega) (bk.out.below X.out) I.out CG (by have:=hn.out;omega) O V
             rw [List.length_append,List.length_singleton] at M;refine M.mono ?_;clear M;intro e w9 Y;obtain ⟨he,Z⟩:=cv.gone aJ.out bl.out bh X.out aO (q:=aF i (L++[aD en]) (CA++[(⟨(ji:Int),(ki:Int)⟩:bg)]) Cy) (by rw [lI bn.out (px cm.out),aC.out,bN.out]) (by rw [aC.out];exact Y)
             subst he;have ah:=aa Z;clear Z Y
             go_wp2_with fail
             go_roundw
             case rel=>exact ⟨m+1,CG,by go_num,ah⟩
             case measure=>simp [intOf];omega
         ·rcases bT.out with ⟨aR,V⟩ | ⟨aR,V⟩
          all_goals
           go_wp2_with (first | (go_at_call 75;refine (bw.out _ CU).mono ?_;rintro e w5 ⟨v0,v1,v2,v3,rfl,a,C⟩;obtain ⟨z0,t0,rfl,_⟩:∃ x y,v0 = .slice x L.length y/\(x=none->L.length=0/\y=0):=ba a.o0;obtain ⟨z1,t1,rfl,_⟩:∃ x y,v1 = .slice x CA.length y/\(x=none->CA.length=0/\y=0):=ba a.o1;obtain ⟨z2,t2,rfl,_⟩:∃ x y,v2 = .slice x Cy.length y/\(x=none->Cy.length=0/\y=0):=ba a.o2;obtain ⟨z3,t3,rfl,_⟩:∃ x y,v3 = .slice x PL.length y/\(x=none->PL.length=0/\y=0):=ba a.o3;have a4:Hid (iK w5 (wr.heap.size+1) (.slice z0 L.length t0) (.slice z1 CA.length t1) (.slice z2 Cy.length t2) (.slice z3 PL.length t3) ⟨i,0,L,CA,Cy,PL,[],[]⟩):=⟨aW a.o0 CI,aW a.o1 CI,aW a.o2 CI,aW a.o3 CI⟩;have am:Hid (Cx wr w5):=CU.trans (C.mono CI);have N:=cell_later am.out bm;have G:w5.cell? ⟨wr.heap.size,0,none⟩=some (.int .i64 pe):=cell_later C CO;have H:w5.cell? ⟨wr.heap.size,1,none⟩=some (.int .i64 sd):=cell_later C CO;have bf:wr.heap.size+1<=w5.heap.size:=(by have:=C.size;simpa using this);have dw:wd.heap.size<w5.heap.size:=CG;have dx:wr.heap.size<w5.heap.size:=CG;clear a C e0 e1 e2 e3 e4 e5 e6 e7 cA bS bm) | (at_builtin;generalize ag:World.alloc w5 _=W6;have d:=aa (p9 am.out bf a4.out);rw [ag] at d;have dz:w5.heap.size+1=W6.heap.size:=(by rw [<-ag];simp);have v:Cx w5 W6:=(by rw [<-ag];exact CV.alloc CW _);replace G:=cell_later v G;replace H:=cell_later v H;clear ag v N;refine aU rfl (.tmp 208) (.tmp 210) 40 rfl (wr.heap.size+1) 3 _ 1 8 underlying40 Tryz.infoInt rfl CJ (.slice z2 Cy.length t2) Cy.length (bP Cy) rfl d.out.own.o2 (w5.heap.size+1) dz [.int .i64 ji] rfl rfl CL CK CG CG ?_;intro x4 y4 w7 dC bX;rw [jz] at dC;have A:=aa (d.out.push2 bX dC);obtain ⟨f0,f1,f2,f3,f4,f5,f6,f7,fz,_⟩:=d.out.qc.of_block (bX.block _ d.out.qc.lt (d.out.nQ d.out.own.o2 CJ));have eT:=fz 4;dsimp only at f0 f1 f2 f3 f4 f5;have aX:some wr.heap.size≠(Value.slice z2 Cy.length t2).ownBlock:=(fun e=>by have:=(d.out.own.o2.lt wr.heap.size e.symm).1;omega);replace G:=bX.cell G aX;replace H:=bX.cell H aX;have eg:=bX.size;have ei:wr.heap.size<w7.heap.size:=CG;have fl:wr.heap.size≠w5.heap.size:=CG;clear dC bX aX fz a4 am))
           generalize bV:World.setCell w7 _ _=W8;rw [bV] at A;clear bV G H f0 f1 f2 f3 f4 f5 f6 f7 eT;have X:Hid (Cx wr W8):=A.out.hB;have M:=ia ih.out R.out ok.out f.out hn.out aZ.out ad.out bH.out bI.out ok.out.lv ok.out.ld (by have:=ok.out.cl;simp;omega) (bk.out.below X.out) A.out CG (by have:=hn.out;omega) O V
           rw [List.length_append,List.length_singleton] at M;refine M.mono ?_;clear M;intro e w9 Y;obtain ⟨he,Z⟩:=cv.gone aJ.out bl.out bh X.out aO (q:=aF i (L++[aD en]) CA (Cy++[(ji:Int)])) (by rw [l8 bn.out,aC.out]) (by rw [aC.out];exact Y)
           subst he;have ah:=aa Z;clear Z Y
           go_wp2_with fail
           go_roundw
           case rel=>exact ⟨m+1,CG,by go_num,ah⟩
           case measure=>simp [intOf];omega
        ·have cM:m=LE.length:=CG
         subst cM;have di:=aa (ds.out.stop a8.out.1 dj.out.1 eI.out dg.out)
         go_wp2_with fail
         (try simp only [Exit.inBlock,Exit.then])
         first
          | refine bodyPost_end (results_none rfl _ _ _) rfl ?_
          | go_end0
         exact di.out
end Go.Proofs.YtmkdgnmmebldgaaGreatDoor
