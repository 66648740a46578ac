import Derived.Test.YtmkdgnmmebldgaaGreatDoorPk23
import Derived.Deep.RegionLaw
set_option maxRecDepth 100000
set_option maxHeartbeats 8000000
open Go.Proofs.Tryz
namespace Go.Proofs.YtmkdgnmmebldgaaGreatDoor
open Go.RowKit Go.Deep
theorem lE (w0:World)(F:Nat)(pa ja sa:Option Addr)(pc jc sc:Nat)(ps:List af)(js:List aj)(ss:List af)(over:Int)(n:Nat)(R:Hid (bo ps js ss))(HP:Hid (ar w0 pa ps))(HJ:Hid (aP w0 ja js))(HS:Hid (ar w0 sa ss))(ho0:0<=over)(ho1:over<=100000)
  (hfl:Hid (∀ (B Q:Nat) (la:Option Addr) (lc:Nat) (CA:List bg) (pl:Int) (n:Nat),LB w0 B F Q pa ja sa la ps js ss CA->iz w0 B F Q pa ja sa la pc jc sc lc ps js ss CA pl n))
  (ih:Hid (iY w0 F pa ja sa pc jc sc ps js ss over n))
  (a0:Option Addr) (k0:Nat) (a1:Option Addr) (k1:Nat) (a2:Option Addr) (k2:Nat) (a3:Option Addr) (k3:Nat) (i:Nat) (pre:List aM) (p:Nat) (way:Int) (CA:List bg) (Cy:List Int) (pos:Int) (xo:Option Addr) (yo t:Nat) (pr:List (aL × al)) (w:World) (ok:Hid (ck ps js ss i pre ⟨p,way⟩ CA Cy pos)) (_hn:Hid (n+1+pre.length=2*ps.length+2))
  (hs:Hid (WS w0 w F pa ja sa pc jc sc ps.length js.length ss.length over xo yo t pr)) (hk:Hid (fH w F ⟨a0,k0,a1,k1,a2,k2,a3,k3,none,0,none,0⟩ (gG ps ss i pre CA Cy))) (hnil:Hid (ph ⟨a0,k0,a1,k1,a2,k2,a3,k3,none,0,none,0⟩ (gG ps ss i pre CA Cy))) (ht:t<=100000) (hpr:pr.length<=301)
  (hA:Hid (¬ (pr.length<=300/\t+1<=20000)\/0<=bi ss p way pos ss.length\/(⟨(p:Int),way⟩:aM) ∈ pre)) :
  Calls prog 35 #[.pointer (some ⟨F,0,none⟩),.agg #[.int .i64 i,.int .i64 0,.slice a0 pre.length k0,.slice a1 CA.length k1,.slice a2 Cy.length k2,.slice a3 pre.length k3,.slice none 0 0,.slice none 0 0],.int .i64 p,.int .i64 way,.int .i64 (bu ps p pos way)] w (fB w0 w F pa ja sa pc jc sc ps js ss over (n+1) t (.slice xo pr.length yo) (pr.map Prod.snd) (evs ps js ss (n+1) (aF i (pre++[⟨p,way⟩]) CA Cy) pos)):=by
 have c0:=hs.out.c0;have c1:=hs.out.c1;have c2:=hs.out.c2;have c4:=hs.out.c4;have c5:=hs.out.c5;have z5:=hs.out.z5;have ch:=hs.out.lt;obtain ⟨C,O⟩:∃ C,bu ps p pos way=C:=⟨_,rfl⟩;rw [O];have T:=aa O;clear O;obtain ⟨pl,aA⟩:∃ pl,cg ps (bK ss i) pre=pl:=⟨_,rfl⟩;have bc:=aa aA;have V:pl.length=pre.length:=by rw [<-aA];exact dW _ _ _
 have ad:=aa V;have bd:(Value.agg #[.int .i64 i,.int .i64 0,.slice a0 pre.length k0,.slice a1 CA.length k1,.slice a2 Cy.length k2,.slice a3 pre.length k3,.slice none 0 0,.slice none 0 0]) = .agg #[.int .i64 i,.int .i64 0,.slice a0 pre.length k0,.slice a1 CA.length k1,.slice a2 Cy.length k2,.slice a3 pl.length k3,.slice none 0 0,.slice none 0 0]:=by rw [V]
 rw [bd];clear aA V bd;have be:Hid (((t+1:Nat):Int)=(t:Int)+1):=by unfold Hid;omega
 go_enter func35,ntmps35
 by_cases aB:pr.length<=300/\t+1<=20000
 rotate_left
 ·obtain ⟨q,E,hE⟩:=BS (ps:=ps) (js:=js) (ss:=ss) (pos:=pos) n (aF i (pre++[⟨p,way⟩]) CA Cy);rw [hE];have HG:Hid (∀ w',Below (w.setCell ⟨F,5,none⟩ (.int .i64 ((t:Int)+1))).heap.size (w.setCell ⟨F,5,none⟩ (.int .i64 ((t:Int)+1))) w'->fB w0 w F pa ja sa pc jc sc ps js ss over (n+1) t (.slice xo pr.length yo) (pr.map Prod.snd) (q::E) (.returned (.tuple #[])) w'):=by
   intro w' hb;refine ⟨rfl,xo,yo,t+1,pr,?_,?_,eO.out ?_,CG,hpr⟩
   ·refine WS.below ?_ hb;rw [<-be.out];exact hs.out.inc _
   ·exact (hs.out.effI _).later hb
   ·rw [List.length_map];omega
  clear hE;have hc:(300:Int)<(pr.length:Int)\/((pr.length:Int)<=300/\(20000:Int)<(t:Int)+1):=CG
  rcases hc with hc | ⟨hc,bQ⟩
  all_goals
   go_wp2_with fail
   (try simp only [Exit.inBlock,Exit.then])
   refine bodyPost_ret (results_none rfl _ _ _) rfl ?_;exact HG.out _ CU
 ·have hc:(pr.length:Int)<=300:=CG
  have bQ:(t:Int)+1<=20000:=CG
  go_wp2_with fail
  generalize hW:World.alloc _ _=W;obtain ⟨W1,ae⟩:∃ W1,w.setCell ⟨F,5,none⟩ (.int .i64 ((t:Int)+1))=W1:=⟨_,rfl⟩;rw [ae] at hW;have bf:Hid (Eff F (.slice xo pr.length yo) (.slice xo pr.length yo) w W1):=by rw [<-ae];exact hs.out.effI _
  have bh:Hid (WS w0 W1 F pa ja sa pc jc sc ps.length js.length ss.length over xo yo (t+1) pr):=by rw [<-ae,<-be.out];exact hs.out.inc _
  have ag:W1.heap.size=w.heap.size:=by rw [<-ae];simp
  have HX:Hid (∀ W,Below w.heap.size W1 W->WS w0 W F pa ja sa pc jc sc ps.length js.length ss.length over xo yo (t+1) pr/\Eff F (.slice xo pr.length yo) (.slice xo pr.length yo) w W):=by
   intro W hb;rw [<-ag] at hb;exact ⟨bh.out.below hb,bf.out.later hb⟩
  have aC:Below w.heap.size W1 W:=by rw [<-hW,<-ag];exact CV.alloc CW _
  have bj:Hid (QC W w.heap.size (.int .i64 i) (.int .i64 0) (.slice a0 pre.length k0) (.slice a1 CA.length k1) (.slice a2 Cy.length k2) (.slice a3 pl.length k3) (.slice none 0 0) (.slice none 0 0)):=by rw [<-hW,<-ag];exact py _ _ _ _ _ _ _ _ _
  have bR:w.heap.size+1<=W.heap.size/\W.heap.size<=w.heap.size+1:=by rw [<-hW];simp [ag]
  have aD:Hid (fH W F ⟨a0,k0,a1,k1,a2,k2,a3,k3,none,0,none,0⟩ (gG ps ss i pre CA Cy)):=hk.out.kept (HX.out W aC).2;obtain ⟨aE,aH⟩:=bR;have bk:=aa aC;clear hW ae aC bf bh ag c0 c1 c2 c4 c5 z5;have bS:=ok.out.few;have ci:=R.out.np
  go_loopw [10,46] (fun rb c wr => ∃ (m:Nat),m<=pre.length/\c = .int .i64 m/\rb = .bool ((pre.take m).any (fun s=>cJ s ⟨p,way⟩))/\Cx W wr) (fun _ c _=>pre.length-(intOf c).toNat)
  case atStart=>exact ⟨0,Nat.zero_le _,rfl,rfl,Below.refl _ _⟩
  case round =>
   obtain ⟨m,hm,rfl,rfl,hb⟩:=hrel;have cj:=hb.size
   by_cases aI:m<pre.length
   ·have bl:aT W a0 pre:=aD.out.lists.CE;obtain ⟨b1,bT,rfl,bm⟩:=bl.2.resolve_left (nz aI);obtain ⟨d0,d1⟩:=(bm.below hb) m aI;have bU:=ai d0;dsimp only at bU;have HN:Hid ((pre.take (m+1)).any (fun s=>cJ s ⟨p,way⟩)=((pre.take m).any (fun s=>cJ s ⟨p,way⟩) || cJ pre[m] ⟨p,way⟩)):=by
     unfold Hid;rw [List.take_succ_eq_append_getElem aI,List.any_append];simp
    clear bm bl;generalize aq:(pre.take m).any (fun s=>cJ s ⟨p,way⟩)=rb at HN
    clear aq;have aJ:rb=true\/(rb=false/\(pre[m].CB==(p:Int))=false)\/(rb=false/\(pre[m].CB==(p:Int))=true/\(pre[m].side==way)=false)\/(rb=false/\(pre[m].CB==(p:Int))=true/\(pre[m].side==way)=true):=by
     cases rb <;> cases (pre[m].CB==(p:Int)) <;> cases (pre[m].side==way) <;> simp
    rcases aJ with rfl | ⟨rfl,h1⟩ | ⟨rfl,h1,h2⟩ | ⟨rfl,h1,h2⟩
    ·go_wp2_with fail
     go_roundw
     case rel=>exact ⟨m+1,CG,by go_num,by rw [HN.out];simp,blo⟩
     case measure=>simp [intOf];omega
    ·go_wp2_with fail
     go_roundw
     case rel=>exact ⟨m+1,CG,by go_num,by rw [HN.out];simp [cJ,h1],blo⟩
     case measure=>simp [intOf];omega
    ·go_wp2_with fail
     go_roundw
     case rel=>exact ⟨m+1,CG,by go_num,by rw [HN.out];simp [cJ,h1,h2],blo⟩
     case measure=>simp [intOf];omega
    ·go_wp2_with fail
     go_roundw
     case rel=>exact ⟨m+1,CG,by go_num,by rw [HN.out];simp [cJ,h1,h2],blo⟩
     case measure=>simp [intOf];omega
   ·have bV:m=pre.length:=CG
    subst bV;rw [List.take_length];have aK:=aa (bj.out.below hb);have bn:=aa (bk.out.trans (hb.mono CG))
    have bp:=aa (aD.out.kept (Eff.of_below (F:=F) hb));have cm:w.heap.size<wr.heap.size:=CG
    generalize aq:pre.any (fun s=>cJ s ⟨p,way⟩)=rb
    have bq:=aa aq;clear aq hb bj bk aD aE aH;obtain ⟨q0,q1,q2,q3,q4,q5,q6,q7,_,_⟩:=aK.out;have h1:=iX ok.out.lv ok.out.ld;have h2:=R.out.nj;have h3:=ok.out.cl;have br:Hid (lg (gG ps ss i pre CA Cy)):=by
     refine ⟨?_,?_,?_,?_⟩
     ·show pre.length<=1000
      omega
     ·show CA.length<=1000
      omega
     ·show Cy.length<=1000
      omega
     ·show (cg ps (bK ss i) pre).length<=1000
      rw [dW];omega
    have bt:Hid (Calls prog 75 #[.agg #[.int .i64 i,.int .i64 0,.slice a0 pre.length k0,.slice a1 CA.length k1,.slice a2 Cy.length k2,.slice a3 pl.length k3,.slice none 0 0,.slice none 0 0]] wr fun e w' => ∃ v0 v1 v2 v3,e = .returned (.agg #[.int .i64 i,.int .i64 0,v0,v1,v2,v3,.slice none 0 0,.slice none 0 0])/\iK w' wr.heap.size v0 v1 v2 v3 ⟨i,0,pre,CA,Cy,pl,[],[]⟩/\Cx wr w'):=by
     rw [<-bc.out];exact lD ⟨a0,k0,a1,k1,a2,k2,a3,k3,none,0,none,0⟩ (gG ps ss i pre CA Cy) wr bp.out.lists br hnil
    go_wp2_with fail
    refine bt.out.mono ?_;rintro e w2 ⟨v0,v1,v2,v3,rfl,a,au⟩;obtain ⟨x0,y0,rfl,_⟩:∃ x y,v0 = .slice x pre.length y/\(x=none->pre.length=0/\y=0):=ba a.o0;obtain ⟨x1,y1,rfl,_⟩:∃ x y,v1 = .slice x CA.length y/\(x=none->CA.length=0/\y=0):=ba a.o1;obtain ⟨x2,y2,rfl,_⟩:∃ x y,v2 = .slice x Cy.length y/\(x=none->Cy.length=0/\y=0):=ba a.o2;obtain ⟨x3,y3,rfl,_⟩:∃ x y,v3 = .slice x pl.length y/\(x=none->pl.length=0/\y=0):=ba a.o3;have D:=aa a;have aN:=aa (aK.out.below au);have bv:=aa (bn.out.trans (au.mono CG))
    have bW:=au.size;obtain ⟨r0,r1,r2,r3,r4,r5,r6,r7,hz,_⟩:=aN.out;have z0:=hz 0;have z1:=hz 1;have z2:=hz 2;have z3:=hz 3;have z4:=hz 4;have z5:=hz 5;have z6:=hz 6;have z7:=hz 7;clear q0 q1 q2 q3 q4 q5 q6 q7 a au hz aK bn bt br bp;have bX:pre.length<=200:=CG
    go_wp2_with (at_builtin;obtain ⟨U,hU,bw,v,ah,bx⟩:=QC.store8 aN.out (.int .i64 i) (.int .i64 0) (.slice x0 pre.length y0) (.slice x1 CA.length y1) (.slice x2 Cy.length y2) (.slice x3 pl.length y3) (.slice none 0 0) (.slice none 0 0);rw [<-hU];have bz:w2.heap.size=U.heap.size:=(by rw [hU];simp);have f:Hid (RB W1 U w.heap.size w.heap.size wr.heap.size x0 y0 x1 y1 x2 y2 x3 y3 (.slice none 0 0) (.slice none 0 0) ⟨i,0,pre,CA,Cy,pl,[],[]⟩):=⟨ah _ _ CW bv.out,Nat.le_refl _,CG,Nat.le_trans bW bx,bw,⟨ax D.out.o0 (fun b hb=>v b (by have:=(D.out.o0.lt b hb).1;omega)),ax D.out.o1 (fun b hb=>v b (by have:=(D.out.o1.lt b hb).1;omega)),ax D.out.o2 (fun b hb=>v b (by have:=(D.out.o2.lt b hb).1;omega)),ax D.out.o3 (fun b hb=>v b (by have:=(D.out.o3.lt b hb).1;omega))⟩⟩;clear hU bw v ah;refine aU rfl (.tmp 67) (.tmp 71) 38 rfl wr.heap.size 46 _ 2 16 underlying38 Tryz.infoStep rfl CJ (.slice x0 pre.length y0) pre.length (aG pre) rfl f.out.own.o0 w2.heap.size bz [.int .i64 p,.int .i64 way] rfl rfl CL CK CG CG ?_;intro x' y' w3 aO aQ;rw [eE _ ⟨p,way⟩] at aO;have g:=aa (f.out.push0 aQ aO);have av:=f.out.qc.of_block (aQ.block _ f.out.qc.lt (f.out.nQ f.out.own.o0 CJ));have s2:=av.q2;have t2:=av.z 2;clear aO aQ av f bz bx)
    generalize bB:World.setCell w3 _ _=W4;rw [bB] at g;clear bB s2 t2 r0 r1 r2 r3 r4 r5 r6 r7 z0 z1 z2 z3 z4 z5 z6 z7 aN bv D;have l:Hid (ar W4 pa ps/\aP W4 ja js/\ar W4 sa ss):=by
     have hb:=(HX.out W4 g.out.hB).1.base;exact ⟨HP.out.below hb,HJ.out.below hb,HS.out.below hb⟩
    obtain ⟨f0,f1,f2⟩:W4.cell? ⟨F,0,none⟩=some (.slice pa ps.length pc)/\W4.cell? ⟨F,1,none⟩=some (.slice ja js.length jc)/\W4.cell? ⟨F,2,none⟩=some (.slice sa ss.length sc):=⟨(HX.out W4 g.out.hB).1.c0,(HX.out W4 g.out.hB).1.c1,(HX.out W4 g.out.hB).1.c2⟩;obtain ⟨p',hp,bC,X⟩:=ok.out.sv;have aR:p=p':=by have h:(p:Int)=p':=bC;omega
    subst aR;dsimp only at X;have Y:=aa X;have hL:=R.out.plen p hp;obtain ⟨nb,bD⟩:∃ nb,bi ss p way pos ss.length=nb:=⟨_,rfl⟩;have G:=aa bD;have bE:Hid (∀ u:World,Cx W4 u->Calls prog 45 #[.agg #[.slice pa ps.length pc,.slice ja js.length jc],.slice sa ss.length sc,.int .i64 p,.int .i64 way,.int .i64 C] u fun e w'=>e = .returned (.int .i64 nb)/\Cx u w'):=by
     intro u hu;rw [<-T.out,<-G.out];exact m9 pa ja sa pc js.length jc sc ps ss p way pos u (l.out.1.below hu) (l.out.2.2.below hu) hp hL Y.out (fun k hk=>by obtain ⟨q,hq,_,_,e3,e4⟩:=R.out.sig k hk;have:=R.out.plen q hq;omega)
    clear bD X bC;have m0:=bA.cell f0;have m1:=bA.cell f1;have m2:=bA.cell f2;have hne:=ft W4;refine cW CH CH ?_
    repeat (go_big_quiet_step ((rename_i u;exact bA.calls u (bE.out u.val u.2))))
    refine wpQuiet_nil ?_;intro _ aV;obtain ⟨u,Z⟩:=aV;subst Z;have d:=u.2;generalize u.val=wu at d ⊢;have H:=aa (g.out.below d);have I:Hid (ar wu pa ps/\aP wu ja js/\ar wu sa ss):=⟨l.out.1.below d,l.out.2.1.below d,l.out.2.2.below d⟩;have g0:=cell_later d f0;have g1:=cell_later d f1;have g2:=cell_later d f2;clear d m0 m1 m2 hne bE l g f0 f1 f2;have cn : -1<=nb/\nb<60:=by
     rw [<-G.out];rcases fA ss p way pos ss.length CW with h | ⟨b,hb,_,h,_⟩
     ·rw [h];omega
     ·rw [h];have:=R.out.ns;omega
    have aJ:(nb<0/\rb=true)\/0<=nb\/(nb<0/\rb=false):=by cases rb <;> simp <;> omega
    rcases aJ with ⟨aW,aX⟩ | aW | ⟨aW,aX⟩
    ·subst aX;have aY:Hid (evs ps js ss (n+1) (aF i (pre++[⟨p,way⟩]) CA Cy) pos=[aF i (pre++[⟨p,way⟩]) CA Cy]):=by
      refine mY (s:=⟨(p:Int),way⟩) ?_ ?_
      ·show ¬ 0<=bi ss p way pos ss.length
       rw [G.out];omega
      ·obtain ⟨x,hx,h⟩:=List.any_eq_true.1 bq.out;rw [<-iG.1 h];exact hx
     go_wp2_with fail
     (try simp only [Exit.inBlock,Exit.then])
     refine bodyPost_ret (results_none rfl _ _ _) rfl ?_;refine ⟨rfl,xo,yo,t+1,pr,(HX.out wu H.out.hB).1,(HX.out wu H.out.hB).2,(by rw [aY.out];exact eO.one rfl),CG,hpr⟩
    ·have aY:Hid (evs ps js ss (n+1) (aF i (pre++[⟨p,way⟩]) CA Cy) pos=[eo i nb (pre++[⟨p,way⟩]) CA Cy]):=by
      have h:=lw (ps:=ps) (js:=js) (ss:=ss) (n:=n) (i:=i) (pre:=pre) (s:=⟨(p:Int),way⟩) (CA:=CA) (Cy:=Cy) (pos:=pos) (by show 0<=bi ss p way pos ss.length;rw [G.out];exact aW)
      unfold Hid;rw [h]
      show [eo i (bi ss p way pos ss.length) _ _ _]=_
      rw [G.out]
     obtain ⟨b,hb,aZ,bF,bY⟩:∃ (b:Nat) (hb:b<ss.length),nb=b/\ss[b].len=p/\ss[b].CC=way:=by
      rcases fA ss p way pos ss.length CW with h | ⟨b,hb,_,h,h1,h2⟩
      ·rw [G.out] at h;omega
      ·exact ⟨b,hb,by rw [<-G.out];exact h,h1,h2⟩
     subst aZ;obtain ⟨q,hq,bZ,co,av,cp⟩:=R.out.sig b hb;have b0:q=p:=by have h:(q:Int)=p:=bZ.symm.trans bF;omega
     subst b0;obtain ⟨bs,os,b2,ak⟩:=I.out.2.2.2.2.resolve_left (nz hb);subst b2;obtain ⟨_,_,j2,_⟩:=ak b hb;obtain ⟨en,a4⟩:∃ en,bu ps q ss[b].CD way=en:=⟨_,rfl⟩;have a5:=aa a4;have J:Hid (0<=C/\C<=10000000/\0<=en/\en<=10000000):=by
      unfold Hid;have h1:=ok.out.p0;have h2:=ok.out.p1;have h3:=cT hp;dsimp only at h2;rw [h3] at h2;rw [<-T.out,<-a4];unfold bu;rw [h3]
      split <;> omega
     have bH:Hid (∀ u:World,Cx wu u->Calls prog 36 #[.agg #[.slice pa ps.length pc,.slice ja js.length jc],.int .i64 q,.int .i64 ss[b].CD,.int .i64 way] u fun e w'=>e = .returned (.int .i64 en)/\Cx u w'):=by
      intro u hu;rw [<-a5.out];exact fp pa ja pc js.length jc ps q ss[b].CD way u (I.out.1.below hu) hp hL CG CG
     obtain ⟨pt,bI⟩:∃ pt,cK ps q way C en=pt:=⟨_,rfl⟩;have bJ:=aa bI;have bL:Hid (∀ u:World,Cx wu u->Calls prog 76 #[.agg #[.slice pa ps.length pc,.slice ja js.length jc],.int .i64 q,.int .i64 way,.int .i64 C,.int .i64 en] u fun e w'=>e = .returned (.agg #[.int .i64 pt.CB,.int .i64 pt.lo,.int .i64 pt.hi])/\Cx u w'):=by
      intro u hu;rw [<-bJ.out];exact jA pa ja pc js.length jc ps q way C en u (I.out.1.below hu) hp hL J.out.1 J.out.2.1 J.out.2.2.1 J.out.2.2.2
     have b3:(0:Int)<=b:=CG
     have cq:(b:Int)<ss.length:=CG
     have bM:=ai j2;dsimp only at bM;clear a4 bI ak
     go_wp2_with fail
     have m0:=bA.cell g0;have m1:=bA.cell g1;have m2:=bA.cell g2;have m3:=bA.cell j2;have hne:=ft wu;refine cW CH CH ?_
     repeat (go_big_quiet_step ((rename_i u;exact bA.calls u (bH.out u.val u.2))))
     refine wpQuiet_nil ?_;intro _ aV;obtain ⟨u,Z⟩:=aV;subst Z;have d:=u.2;generalize u.val=wv at d ⊢;have o:=aa (H.out.below d);replace g0:=cell_later d g0;replace g1:=cell_later d g1;have am:Hid (∀ u:World,Cx wv u->Calls prog 76 #[.agg #[.slice pa ps.length pc,.slice ja js.length jc],.int .i64 q,.int .i64 way,.int .i64 C,.int .i64 en] u fun e w'=>e = .returned (.agg #[.int .i64 pt.CB,.int .i64 pt.lo,.int .i64 pt.hi])/\Cx u w'):=fun u hu=>bL.out u (d.trans (hu.mono d.size))
     clear m0 m1 m2 m3 hne bH bL d H I g2 j2 bM;have q5:=o.out.qc.q5;have b4:=o.out.qc.z 5;have cr:F≠w.heap.size:=CG
     have b5:F<wv.heap.size:=ai g0;have b6:w.heap.size<wv.heap.size:=o.out.qc.lt;have b7:=o.out.BW;dsimp only at q5
     go_wp2_with fail
     go_cut [] (fun wx => ∃ aw ay,Hid (RB W1 wx w.heap.size w.heap.size wr.heap.size x' y' x1 y1 x2 y2 aw ay (.slice none 0 0) (.slice none 0 0) ⟨i,0,pre++[⟨q,way⟩],CA,Cy,pl++[pt],[],[]⟩))
     case first =>
      go_region_law
       (first
        | (refine xu (by rfl) (.tmp 109) (.tmp 119) 41 (by rfl) wr.heap.size 48 _ 3 24 underlying41 Tryz.infoPart (by rfl) CJ (.slice x3 pl.length y3) pl.length (bG pl) (by rfl) j.out.own.o3 w5.heap.size (by rfl) [.int .i64 pt.CB,.int .i64 pt.lo,.int .i64 pt.hi] (by rfl) (by rfl) CL (by have:=ad.out;unfold maxLen;omega) (by have:=ad.out;omega) CG ?_;intro aw ay w6 a6 an;rw [gY] at a6;have r:=aa (j.out.push3 an a6);have a7:=j.out.qc.of_block (an.block _ j.out.qc.lt (j.out.nQ j.out.own.o3 CJ));have s5:=a7.q5;have t5:=a7.z 5;have bN:some F≠(Value.slice x3 pl.length y3).ownBlock:=(fun e=>by have:=(j.out.own.o3.lt F e.symm).1;omega);have cs:=an.cell g0 bN;have ct:=an.cell g1 bN;clear a6 an a7)
        | (go_simp;go_wp2_with (go_at_call 76;refine (am.out _ CV.drew).mono ?_;rintro e w5 ⟨rfl,ao⟩;have ac:Cx wv w5:=CV.drew.trans ao;replace g0:=cell_later ac g0;replace g1:=cell_later ac g1;replace q5:=cell_later ac q5;have j:=aa (o.out.below ac);have cu:=ac.size;have cv:F<w5.heap.size:=CG;have cw:w.heap.size<w5.heap.size:=CG;clear ao ac)))
      all_goals
       go_wp2_with fail
       go_meet
       exact ⟨aw,ay,r⟩
     case rest =>
      obtain ⟨aw,ay,M⟩:=hcut;have bO:Hid ((⟨i,b,pre++[⟨q,way⟩],CA,Cy,pl++[pt],cL ps js (over.toNat+1) ⟨q,way⟩ ss[b].CD over,aS ps js ss CA CA⟩:al)=dr ps js ss over (eo i b (pre++[⟨q,way⟩]) CA Cy)):=by
       unfold Hid;rw [<-bc.out,<-bJ.out,<-T.out,<-a5.out];exact tG ok.out Y.out hb G.out bF bY
      obtain ⟨L,az⟩:∃ L,pre++[(⟨(q:Int),way⟩:aM)]=L:=⟨_,rfl⟩;obtain ⟨PL,ab⟩:∃ PL,pl++[pt]=PL:=⟨_,rfl⟩;obtain ⟨ov,a8⟩:∃ ov,cL ps js (over.toNat+1) ⟨q,way⟩ ss[b].CD over=ov:=⟨_,rfl⟩;rw [az,ab] at M;rw [az,ab,a8] at bO;have r:=aa (M.out.set1 b);have q1:=M.out.qc.q1;have cx:=M.out.qc.z 1;obtain ⟨W6,a9⟩:∃ W6,wc.setCell ⟨w.heap.size,1,none⟩ (.int .i64 b)=W6:=⟨_,rfl⟩;rw [a9] at r;have b8:Hid (Calls prog 77 #[.pointer (some ⟨F,0,none⟩),.int .i64 q,.int .i64 way,.int .i64 en] W6 fun e w' => ∃ x y,e = .returned (.slice x ov.length y)/\w'.ownsRow W6.heap.size 48 3 (.slice x ov.length y) ov.length (bG ov)/\Cx W6 w'):=by
       unfold Hid;rw [<-a8,<-a5.out];exact vZ F pa ja (some ⟨bs,os,none⟩) pc jc sc ps js ss over R q way ss[b].CD W6 ((HX.out W6 r.out.hB).1.net HP.out HJ.out HS.out) hp Y.out CG CG ho0 ho1
      have b9:=aa a9;have ca:=aa az;clear q5 b4 g0 g1 am o b5 b6 b7 az ab a8 a9;dsimp only at q1
      go_wp2_with (go_at_call 77;rw [b9.out];refine b8.out.mono ?_;rintro e w7 ⟨x4,y4,rfl,bP,bb⟩;have ap:=aa (r.out.below bb);have cb:=aa bP;have cy:=aa bb;obtain ⟨e0,e1,e2,e3,e4,e5,e6,e7,ez,_⟩:=ap.out.qc;have cc:=ez 6;dsimp only at e0 e1 e2 e3 e4 e5;clear bP bb ez)
      have A:=aa ((ap.out.set6 (.slice x4 ov.length y4)).over ov);have cd:w.heap.size<W6.heap.size:=r.out.qc.lt;have ce:Hid ((w7.setCell ⟨w.heap.size,6,none⟩ (.slice x4 ov.length y4)).ownsRow W6.heap.size 48 3 (.slice x4 ov.length y4) ov.length (bG ov)):=ownsRow_setCell_below cb.out cd _;refine (vD R HP HJ HS hfl (HX.out _ A.out.hB).1 A.out CG CG ok.out.lv ok.out.ld).mono ?_
      intro e w9 hd;have N:=tf (n:=n) (HX.out _ A.out.hB).1 (HX.out _ A.out.hB).2 A.out CG ce.out CG hd (p':=eo i b L CA Cy) rfl bO.out CG CG
      have he:=N.1;subst he;rw [<-ca.out,<-aY.out] at N;have cf:=aa N;clear hd N e0 e1 e2 e3 e4 e5 e6 e7 cc
      go_wp2_with fail
      (try simp only [Exit.inBlock,Exit.then])
      refine bodyPost_ret (results_none rfl _ _ _) rfl ?_;exact cf.out
    ·exfalso;rcases hA.out with h | h | h
     ·exact h aB
     ·rw [G.out] at h;omega
     ·have h2:pre.any (fun s=>cJ s ⟨p,way⟩)=true:=List.any_eq_true.2 ⟨_,h,iG.2 rfl⟩
      rw [bq.out,aX] at h2;cases h2
end Go.Proofs.YtmkdgnmmebldgaaGreatDoor
