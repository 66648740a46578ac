import Derived.Test.YtmkdgnmmebldgaaGreatDoorPk22
import Derived.Test.YtmkdgnmmebldgaaGreatDoorPk13
set_option maxRecDepth 100000
set_option maxHeartbeats 8000000
open Go.Proofs.Tryz
namespace Go.Proofs.YtmkdgnmmebldgaaGreatDoor
open Go.RowKit Go.Deep
theorem tW (x:Option Addr)(n m y z:Nat):(Value.slice x n y).ownBlock=(Value.slice x m z).ownBlock:=by cases x <;> rfl
theorem dj.len {w:World}{v:Value}{x:Option Addr}{n y:Nat}(h:dj w v (.slice x n y))(m:Nat):dj w v (.slice x m y):=fun b hb=>h b (by rw [tW x n m y y];exact hb)
theorem vS (w0:World)(B F Q:Nat)(pa ja sa la:Option Addr)(pc jc sc lc:Nat)(ps:List af)(js:List aj)(ss:List af)(CA:List bg)(pl:Int)(n:Nat)(R:Hid (bo ps js ss))(b0:Hid (LB w0 B F Q pa ja sa la ps js ss CA))(ih:Hid (iz w0 B F Q pa ja sa la pc jc sc lc ps js ss CA pl n))
  (st:List am × List aN) (p:Nat) (hp:p<ps.length) (sd:Int) (hsd:sd=0\/sd=1) (xs:Option Addr) (ys:Nat) (xf:Option Addr) (yf:Nat) (w:World) (hk:Hid (LK w0 w B F Q pa ja sa la pc jc sc lc ps.length js.length ss.length CA xs ys xf yf st)) (hs:Hid (eZ ps st.1)) (hfl:st.2.length+2*ps.length<=100000+st.1.length) (hn:2*ps.length+1<=(n+1)+st.1.length) :
  Calls prog 110 #[.pointer (some ⟨F,0,none⟩),.pointer (some ⟨Q,0,none⟩),.int .i64 pl,.agg #[.int .i64 p,.int .i64 sd]] w (kA w0 w B F Q pa ja sa la pc jc sc lc ps.length js.length ss.length CA (.slice xs st.1.length ys) (.slice xf st.2.length yf) (bJ js ss CA pl (n+1) st ⟨p,sd⟩)):=by
 have cg:=hs.out.few;have da:=R.out.np;have ch:=hk.out.s6;have bp:=ai hk.out.s6;have aS:=ai hk.out.f7;dsimp only at aS
 go_enter func110,ntmps110
 go_wp2_with fail
 generalize hW:w.alloc (Obj.cells #[Value.int IntKind.i64 p,Value.int IntKind.i64 sd] 114)=W;have e0:W.cell? ⟨w.heap.size,0,none⟩=some (.int .i64 p):=by rw [<-hW];simp [go_sem]
 have e1:W.cell? ⟨w.heap.size,1,none⟩=some (.int .i64 sd):=by rw [<-hW];simp [go_sem]
 have hz:w.heap.size+1=W.heap.size:=by rw [<-hW];simp
 have al:Cx w W:=by rw [<-hW];exact blo
 have HK:=aa (hk.out.below al);clear hW ch
 go_loopw [25] (fun c wr => ∃ (m:Nat),m<=st.1.length/\c = .int .i64 m/\Hid (∀ q (hq:q<st.1.length),q<m->cR st.1[q] ⟨p,sd⟩=false)/\Cx W wr) (fun c _=>st.1.length-(intOf c).toNat)
 case atStart=>exact ⟨0,Nat.zero_le _,rfl,(fun q _ h=>absurd h (Nat.not_lt_zero q)),Below.refl _ _⟩
 case round =>
  obtain ⟨m,hm,rfl,HQ,hb⟩:=hrel;have aT:=hb.size;have ci:w.heap.size<wr.heap.size:=CG
  have f0:=cell_later hb e0;have f1:=cell_later hb e1
  by_cases aU:m<st.1.length
  ·obtain ⟨xa,ya,cj,aE,_,_⟩:=kj HK.out.oS CK
   cases cj;obtain ⟨b1,aV,rfl,an⟩:=aE.2.resolve_left (nz aU);obtain ⟨d0,d1⟩:=(an.below hb) m aU;have db:=ai d0;clear an aE;cases t:cR st.1[m] ⟨p,sd⟩
   ·have ar:Hid (∀ q (hq:q<st.1.length),q<m+1->cR st.1[q] ⟨p,sd⟩=false):=by
     intro q hq bq
     by_cases e:q<m
     ·exact HQ.out q hq e
     ·have:q=m:=CG
      subst this;exact t
    have ck:(st.1[m].CB==(p:Int))=false\/(st.1[m].CB==(p:Int))=true/\(st.1[m].side==sd)=false:=by
     unfold cR at t
     revert t
     cases (st.1[m].CB==(p:Int)) <;> cases (st.1[m].side==sd) <;> simp
    clear HQ t;rcases ck with h1 | ⟨h1,h2⟩
    all_goals
     go_wp2_with fail
     go_roundw
     case rel=>exact ⟨m+1,CG,by go_num,ar,blo⟩
     case measure=>simp [intOf];omega
   ·have HX:Hid (bJ js ss CA pl (n+1) st ⟨p,sd⟩=st):=by
     unfold Hid;simp only [bJ];rw [if_pos (List.any_eq_true.2 ⟨_,List.getElem_mem aU,t⟩)]
    have aW:st.1[m].CB=(p:Int)/\st.1[m].side=sd:=by
     have:=iD.1 t;rw [this];exact ⟨rfl,rfl⟩
    rw [aW.1] at d0;rw [aW.2] at d1;clear HQ t aW;have dc:Cx w wr:=al.trans (hb.mono al.size)
    go_wp2_with fail
    (try simp only [Exit.inBlock,Exit.then])
    refine bodyPost_ret (results_none rfl _ _ _) rfl ?_;rw [HX.out];refine ⟨rfl,⟨_,_,_,_,hk.out.below ?_,dj.refl _ _,dj.refl _ _⟩,gv.of_below ?_ bp aS⟩
    ·exact blo
    ·exact blo
  ·have HA:Hid (¬ st.1.any (fun x=>cR x ⟨p,sd⟩)=true):=by
    rw [Hid,List.any_eq_true];rintro ⟨x,hx,ht⟩;obtain ⟨i,hi,rfl⟩:=List.getElem_of_mem hx;rw [HQ.out i hi CG] at ht
    cases ht
   have ad:=aa (HK.out.below hb);have g6:=ad.out.s6;have z6:=ad.out.z6;have br:=ai g6;have cl:=b0.out.f1;have dd:=ad.out.bz;have de:=hk.out.bz;clear HQ;have hne:some F≠(Value.slice xs st.1.length ys).ownBlock:=fun e=>by have:=(ad.out.oS.lt F e.symm).1;omega
   have ae:some w.heap.size≠(Value.slice xs st.1.length ys).ownBlock:=fun e=>by have:=(hk.out.oS.lt w.heap.size e.symm).2;omega
   go_wp2_with fail
   go_cut [] (fun wx => ∃ x' y',Hid (LK w0 wx B F Q pa ja sa la pc jc sc lc ps.length js.length ss.length CA x' y' xf yf (st.1++[⟨p,sd⟩],st.2))/\Hid (gv F Q (.slice xs st.1.length ys) (.slice xf st.2.length yf) wr wx)/\Hid (dj wr (.slice xs st.1.length ys) (.slice x' (st.1.length+1) y'))/\wx.cell? ⟨w.heap.size,0,none⟩=some (.int .i64 p)/\wx.cell? ⟨w.heap.size,1,none⟩=some (.int .i64 sd))
   case first =>
    go_region_law
     ((refine rk (by rfl) (.tmp 37) (.tmp 39) 83 (by rfl) B 114 _ 2 16 underlying83 Tryz.infoE (by rfl) CJ (.slice xs st.1.length ys) st.1.length (aG st.1) (by rfl) ad.out.oS wr.heap.size (by rfl) [.int .i64 p,.int .i64 sd] (by rfl) (by rfl) CL CK CG CG ?_;intro x' y' w2 aX Y bs;have cm:=aa bs;have h6:=Y.cell g6 hne;have dg:=(World.frozen?_of_block (a:=⟨F,6,none⟩) (Y.block F br hne)).trans z6;have cn:=Y.cell f0 ae;have co:=Y.cell f1 ae;rw [eE _ ⟨p,sd⟩] at aX;have bv:=aa (LK.pushS b0.out ad.out Y aX);clear aX Y bs))
    all_goals
     go_wp2_with fail
     go_meet
     refine ⟨x',y',bv.out.1,bv.out.2,cm,?_,?_⟩
     ·rw [World.cell?_setCell_other _ _ _ _ CI];exact cn
     ·rw [World.cell?_setCell_other _ _ _ _ CI];exact co
   case rest =>
    obtain ⟨x',y',HL,bw,bB,k0,k1⟩:=hcut;have dh:=ai k0;have au:Hid (gv F Q (.slice xs st.1.length ys) (.slice xf st.2.length yf) w wc):=LKR.trans (gv.of_below (al.trans (hb.mono al.size)) bp aS) (dj.refl _ _) (dj.refl _ _) bw.out;have D:Hid (dj w (.slice xs st.1.length ys) (.slice x' (st.1.length+1) y')):=bB.out.later (Nat.le_trans al.size hb.size);clear bw bB;clear f0 f1 g6 z6 br hne ae hb aT ci ad e0 e1 hz;obtain ⟨wy,av⟩:∃ wy,(if sd=0 then (-1:Int) else 1)=wy:=⟨_,rfl⟩
    have bC:=aa av;have HW:Hid (wy=1\/wy = -1):=by unfold Hid;rw [<-av];split <;> simp
    go_upto_if 45 with fail
    go_cut [10] (fun cp wx=>cp = .int .i64 wy/\wx=wc)
    case first =>
     rcases hsd with rfl | rfl
     ·have:wy = -1:=by rw [<-av];rfl
      subst this
      go_wp2_with fail
      go_meet
      exact ⟨rfl,rfl⟩
     ·have:wy=1:=by rw [<-av];rfl
      subst this
      go_wp2_with fail
      go_meet
      exact ⟨rfl,rfl⟩
    case rest =>
     obtain ⟨rfl,rfl⟩:=hcut;clear av;have n0:=HL.out.c0;have n1:=HL.out.c1;have n2:=HL.out.c2;have di:=ai n0;have HP:=aa (b0.out.P.below HL.out.base);have HS:=aa (b0.out.S.below HL.out.base);have dk:=R.out.ns
     go_wp2_with fail
     go_loopw [11,51] (fun b c wl => ∃ (k:Nat),k<=ss.length/\c = .int .i64 k/\b = .int .i64 (bE ss p wy k)/\Cx wc wl) (fun _ c _=>ss.length-(intOf c).toNat)
     case atStart=>exact ⟨0,Nat.zero_le _,rfl,rfl,Below.refl _ _⟩
     case round =>
      obtain ⟨k,bD,rfl,rfl,hb⟩:=hrel;have aT:=hb.size;have cq:w.heap.size<wr.heap.size:=CG
      have cr:F<wr.heap.size:=CG
      replace n0:=cell_later hb n0;replace n1:=cell_later hb n1;replace n2:=cell_later hb n2;replace k0:=cell_later hb k0;replace k1:=cell_later hb k1
      by_cases T:k<ss.length
      ·obtain ⟨b1,aV,rfl,an⟩:=HS.out.2.2.resolve_left (nz T);obtain ⟨c1,c2,c3,c4⟩:=(an.below hb) k T;have bF:=aa an;have HR:=aa (gJ ss p wy k bD);have cs:0<=ss[k].CD/\ss[k].CD<=10000000:=by
        obtain ⟨q,hq,_,_,h1,h2⟩:=R.out.sig k T;have:=R.out.plen q hq;omega
       obtain ⟨bG,bH⟩:=cs;have hl:=R.out.plen p hp;clear an;cases t1:(ss[k].len==(p:Int))
       ·have HN:=aa (jf (way:=wy) T (Or.inl (by simpa using t1)))
        go_wp2_with fail
        go_quiet (fail)
        all_goals
         go_wp2_with fail
         go_roundw
         case rel=>exact ⟨k+1,CG,by go_num,by rw [HN.out],blo⟩
         case measure=>simp [intOf];omega
       cases t2:(ss[k].CC==wy)
       ·have HN:=aa (jf (p:=(p:Int)) T (Or.inr (by simpa using t2)))
        go_wp2_with fail
        go_quiet (fail)
        all_goals
         go_wp2_with fail
         go_roundw
         case rel=>exact ⟨k+1,CG,by go_num,by rw [HN.out],blo⟩
         case measure=>simp [intOf];omega
       have HT:Hid (¬ (ss[k].len≠(p:Int)\/ss[k].CC≠wy)):=by
        have h1:ss[k].len=(p:Int):=by simpa using t1
        have h2:ss[k].CC=wy:=by simpa using t2
        rintro (h | h)
        ·exact h h1
        ·exact h h2
       rcases HR.out with hn | ⟨b,aF,aH,hn,dl,dm⟩
       ·have HN:=aa (jb (p:=(p:Int)) T HT.out (Or.inl (by rw [hn];omega)))
        rw [hn];clear hn
        go_wp2_with fail
        go_quiet (fail)
        all_goals
         go_wp2_with fail
         go_roundw
         case rel=>exact ⟨k+1,CG,by go_num,by rw [HN.out],blo⟩
         case measure=>simp [intOf];omega
       ·rw [hn];have HA:Hid (bu ps p ss[k].CD wy=bu ps p ss[k].CD wy):=rfl;have ct:0<=ss[b].CD/\ss[b].CD<=10000000:=by
         obtain ⟨q,hq,_,_,h1,h2⟩:=R.out.sig b aF;have:=R.out.plen q hq;omega
        obtain ⟨aw,ax⟩:=ct;obtain ⟨g1,g2,g3,g4⟩:=(bF.out.below hb) b aF;have U:Hid (bK ss (b:Int)=ss[b].CD):=by unfold Hid bK;rw [Int.toNat_natCast,List.getElem?_eq_getElem aF];rfl
        have ay:=aa (Bf (ps:=ps) (q:=(p:Int)) HW.out (a:=ss[k].CD) (b:=ss[b].CD));have aZ:Hid (bu ps p ss[b].CD wy<bu ps p ss[k].CD wy->bE ss p wy (k+1)=k):=fun h=>jb (p:=(p:Int)) T HT.out (Or.inr (by rw [hn,U.out];exact ay.out.1 h))
        have a0:Hid (bu ps p ss[k].CD wy<=bu ps p ss[b].CD wy->bE ss p wy (k+1)=b):=fun hh=>by
         have h:¬ bu ps p ss[b].CD wy<bu ps p ss[k].CD wy:=CG
         rw [m8 (p:=(p:Int)) T HT.out (by rw [hn,U.out];exact fun h0=>h0.elim (fun h1=>absurd h1 CG) (fun h1=>h (ay.out.2 h1))),hn]
        have a1:Hid (∀ u:World,Cx wc u->Calls prog 36 #[.agg #[.slice pa ps.length pc,.slice ja js.length jc],.int .i64 p,.int .i64 ss[k].CD,.int .i64 wy] u fun e w'=>e = .returned (.int .i64 (bu ps p ss[k].CD wy))/\Cx u w'):=fun u hu=>fp pa ja pc js.length jc ps p ss[k].CD wy u (HP.out.below hu) hp hl bG bH
        have a2:Hid (∀ u:World,Cx wc u->Calls prog 36 #[.agg #[.slice pa ps.length pc,.slice ja js.length jc],.int .i64 p,.int .i64 ss[b].CD,.int .i64 wy] u fun e w'=>e = .returned (.int .i64 (bu ps p ss[b].CD wy))/\Cx u w'):=fun u hu=>fp pa ja pc js.length jc ps p ss[b].CD wy u (HP.out.below hu) hp hl aw ax
        generalize bu ps p ss[k].CD wy=fk at aZ a0 a1 ay;generalize bu ps p ss[b].CD wy=fb at aZ a0 a2 ay;clear ay;generalize ss[k].CD=sk at c3 a1 bG bH;generalize ss[b].CD=sb at g3 a2 aw ax U;generalize ss[k].len=lk at c2 t1;generalize ss[k].CC=bk at c4 t2;generalize ss[k].name=nk at c1;have dn:(b:Int)<ss.length:=CG
        have cv:decide ((b:Int)<0)=false:=decide_eq_false CG
        clear hn HA U HR g1 g2 g4 bF
        go_wp2_with fail
        generalize az:wr.alloc _=Ws;have y:Cx wr Ws:=by rw [<-az];exact blo
        have s1:=bA.cell (show Ws.cell? ⟨wr.heap.size,1,none⟩=some (.int .i64 lk) by rw [<-az];simp [go_sem])
        have s2:=bA.cell (show Ws.cell? ⟨wr.heap.size,2,none⟩=some (.int .i64 sk) by rw [<-az];simp [go_sem])
        have s3:=bA.cell (show Ws.cell? ⟨wr.heap.size,3,none⟩=some (.int .i64 bk) by rw [<-az];simp [go_sem])
        have m0:=bA.cell (cell_later y n0);have m1:=bA.cell (cell_later y n1);have m2:=bA.cell (cell_later y n2);have l0:=bA.cell (cell_later y k0);have r3:=bA.cell (cell_later y g3);have l:=hb.trans (y.mono hb.size);have hne:=ft Ws;clear az;have dp:=l;refine cW CH CH ?_
        iterate 24 (go_big_quiet_step (fail))
        go_big_quiet_step ((rename_i u;exact bA.calls u (a1.out u.val (l.trans (u.2.mono l.size)))))
        iterate 15 (go_big_quiet_step (fail))
        go_big_quiet_step ((rename_i u;exact bA.calls u (a2.out u.val (l.trans (u.2.mono l.size)))))
        iterate 3 (go_big_quiet_step (fail))
        refine wpQuiet_nil ?_;intro _ a3;obtain ⟨u,ag⟩:=a3;subst ag;have G:=l.trans (u.2.mono l.size);generalize u.val=wu at G ⊢;clear s1 s2 s3 m0 m1 m2 l0 r3;cases t3:decide (fb<fk)
        ·have HN:Hid (bE ss p wy (k+1)=b):=a0.out (by have:=of_decide_eq_false t3;omega)
         go_wp2_with fail
         go_roundw
         case rel=>exact ⟨k+1,CG,by go_num,by rw [HN.out],G⟩
         case measure=>simp [intOf];omega
        ·have HN:Hid (bE ss p wy (k+1)=k):=aZ.out (of_decide_eq_true t3)
         go_wp2_with fail
         go_roundw
         case rel=>exact ⟨k+1,CG,by go_num,by rw [HN.out],G⟩
         case measure=>simp [intOf];omega
      ·have cw:k=ss.length:=CG
       have V:=aa (HL.out.below hb);have aI:=aa (au.out.later hb);have q7:wr.cell? ⟨Q,7,none⟩=some (.slice xf st.2.length yf):=V.out.f7;have z7:=V.out.z7;have z:=ai q7;dsimp only at z;have aA:=V.out.bz;have d:some Q≠(Value.slice xf st.2.length yf).ownBlock:=fun e=>by have h1:=(V.out.oF.lt Q e.symm).1;have h2:=b0.out.q1;omega
       rw [cw];have a4:=aa (gJ ss p wy ss.length CW);clear n2 bD T HL au;rcases a4.out with hg | ⟨b,aF,_,hg,_,_⟩
       ·rw [hg];clear a4 q7 z7 z d aA;have HV:Hid (bM ps ⟨p,sd⟩):=⟨p,hp,rfl,hsd⟩;obtain ⟨j,k',h1,h2⟩:=R.out.spot (jL HV.out);obtain ⟨_,hj,bI,_⟩:=df h1;simp only [Nat.sub_zero] at hj bI;obtain ⟨cx,cy,bL⟩:=R.out.kind j hj;have N:Hid (bJ js ss CA pl (n+1) st ⟨p,sd⟩=if js[j].kind=1 then (st.1++[⟨p,sd⟩],st.2++[⟨pl,1,(j:Int),0⟩]) else if js[j].kind=3/\k'≠0 then (st.1++[⟨p,sd⟩],st.2++[if ce CA j=k' then ⟨pl,4,(j:Int),0⟩ else ⟨pl,3,(j:Int),3-(k':Int)⟩]) else (bt js[j].kind k').foldl (fun s t=>bJ js ss CA pl n s (aY js j t)) (st.1++[⟨p,sd⟩],st.2)):=by
         unfold Hid;simp only [bJ];rw [if_neg HA.out,bC.out,hg,if_neg CG,h2,cu hj]
        have cz:0<=sd:=CG
        have cA:sd<=1:=CG
        obtain ⟨bN,a5⟩:∃ s,1-sd=s:=⟨_,rfl⟩;have bP:=aa (b0.out.J.below V.out.base);have bQ:Hid (∀ u:World,Cx wr u->Calls prog 46 #[.agg #[.slice pa ps.length pc,.slice ja js.length jc],.agg #[.int .i64 p,.int .i64 bN]] u fun r w'=>r = .returned (.tuple #[.int .i64 j,.int .i64 k'])/\Cx u w'):=fun u hu=>lL pa ja ps.length pc jc js ⟨p,bN⟩ j k' u (bP.out.below hu) (by unfold Hid;rw [<-a5];exact h1)
        have dq:=R.out.nj;have bR:=aa bL;clear hg h1 h2 bL;have m0:=bA.cell n0;have m1:=bA.cell n1;have l0:=bA.cell k0;have l1:=bA.cell k1;have hne:=ft wr
        go_wp2_with fail
        refine cW CH CH ?_
        repeat (go_big_quiet_step ((rename_i u;exact bA.calls u (bQ.out u.val u.2))))
        refine wpQuiet_nil ?_;intro _ a3;obtain ⟨u,ag⟩:=a3;subst ag;have G:=u.2;generalize u.val=wu at G ⊢;replace n0:=cell_later G n0;replace n1:=cell_later G n1;have v:=aa (V.out.below G);have aB:=aa (aI.out.later G);have cB:=ai n0;dsimp only at cB;obtain ⟨bj,aC,cC,aD⟩:=b0.out.J.2.2.resolve_left (nz hj);obtain ⟨bS,bT,ea,ec,bU,bV⟩:=aD j hj;have c1:=cell_later v.out.base bS;have c2:=cell_later v.out.base bT;have c3:=cell_later v.out.base bU;have bW:=aa bV;subst cC;have cD:=G.size;clear m0 m1 l0 l1 hne bQ bP V aI aD bS bT bU bV k0 k1 hb aT G HP HS n0 cq cr;have cE:js[j].kind=1\/js[j].kind=3\/(js[j].kind=2\/js[j].kind=4):=CG
        rcases cE with X | X | X
        ·have HX:Hid (bJ js ss CA pl (n+1) st ⟨p,sd⟩=(st.1++[⟨p,sd⟩],st.2++[⟨pl,1,(j:Int),0⟩])):=by unfold Hid;rw [N.out,if_pos X]
         rw [X] at c1;have cF:wu.cell? ⟨Q,7,none⟩=some (.slice xf st.2.length yf):=v.out.f7;have aJ:=ai cF;dsimp only at aJ;clear N
         go_wp2_with (at_builtin;generalize A:wu.alloc _=Wj;have E:Cx wu Wj:=(by rw [<-A];exact blo);have C:=aa (v.out.below E);have O:=aa (aB.out.later E);have cG:Hid (wu.heap.size+1=Wj.heap.size):=(by rw [<-A];unfold Hid;simp);clear A;have q7:Wj.cell? ⟨Q,7,none⟩=some (.slice xf st.2.length yf):=C.out.f7;have z7:=C.out.z7;have z:=ai q7;dsimp only at z;have aA:=C.out.bz;have d:some Q≠(Value.slice xf st.2.length yf).ownBlock:=(fun e=>by have h1:=(C.out.oF.lt Q e.symm).1;have h2:=b0.out.q1;omega);refine iM rfl (.tmp 156) (.tmp 160) 42 rfl B 50 _ 4 32 underlying42 Tryz.infoFlank rfl CJ (.slice xf st.2.length yf) st.2.length (bO st.2) rfl C.out.oF (wu.heap.size+1) cG.out [.int .i64 pl,.int .i64 1,.int .i64 (j:Int),.int .i64 0] rfl rfl CL CK CG CG ?_;intro x2 y2 w3 o f H;have ah:=aa H;have h7:=f.cell q7 d;have a6:=(World.frozen?_of_block (a:=⟨Q,7,none⟩) (f.block Q z d)).trans z7;have a7:=ai h7;rw [ib _ ⟨pl,1,(j:Int),0⟩] at o;have I:=aa (LK.pushF b0.out C.out f o);clear o f H)
         (try simp only [Exit.inBlock,Exit.then])
         first
          | refine bodyPost_ret (results_none rfl _ _ _) rfl ?_
          | refine bodyPost_end (results_none rfl _ _ _) rfl ?_
          | go_end0
         rw [HX.out];exact ⟨rfl,⟨x',y',x2,y2,I.out.1,D.out.len _,(ah.out.later O.out.size).len _⟩,LKR.trans O.out (D.out.len _) (dj.refl _ _) I.out.2⟩
        ·have a8:js[j].ends.length=3:=by have:=bR.out;omega
         have aK:Hid (eZ ps (st.1++[⟨p,sd⟩])):=hs.out.push HV.out HA.out;rw [X] at c1
         by_cases a9:k'=0
         ·subst a9;have HX:Hid (bJ js ss CA pl (n+1) st ⟨p,sd⟩=bJ js ss CA pl n (bJ js ss CA pl n (st.1++[⟨p,sd⟩],st.2) (js[j].ends[1]' CG)) (js[j].ends[2]' CG)):=by
           unfold Hid;rw [N.out,if_neg CG,if_neg CI,X,show bt 3 0=[1,2] from rfl,List.foldl_cons,List.foldl_cons,List.foldl_nil,du hj CG,du hj CG]
          have bX:Hid (bM ps (js[j].ends[1]' CG)):=R.out.ends j hj 1 CG
          have cH:Hid (bM ps (js[j].ends[2]' CG)):=R.out.ends j hj 2 CG
          obtain ⟨be,oe,aE,ba⟩:=bW.out.2.resolve_left (fun h=>by rw [h] at a8;simp at a8)
          subst aE;have cI:=aa ba;obtain ⟨g1,g2⟩:=(ba.below v.out.base) 1 CG
          have aL:wu.cell? ⟨be,oe+2,none⟩=some (.int .i64 (js[j].ends[1]' CG).CB):=g1
          have bb:wu.cell? ⟨be,oe+3,none⟩=some (.int .i64 (js[j].ends[1]' CG).side):=g2
          have bc:wu.cell? ⟨be,oe+2+1,none⟩=some (.int .i64 (js[j].ends[1]' CG).side):=g2
          have cJ:=ai aL;dsimp only at cJ;clear N ba g1 g2
          go_wp2_with fail
          generalize A:wu.alloc _=Wj;have E:Cx wu Wj:=by rw [<-A];exact blo
          have bx:Wj.cell? ⟨wu.heap.size,2,none⟩=some (.slice (some ⟨be,oe,none⟩) 3 ec):=by rw [<-A];first | (simp [go_sem];done) | (simp [go_sem];exact a8)
          have C:=aa (v.out.below E);have O:=aa (aB.out.later E);have cl:=b0.out.f1;have dr:=b0.out.q1;have ds:=v.out.bz;have cK:Hid (¬ LKR F Q (.slice x' (st.1++[(⟨p,sd⟩:am)]).length y') (.slice xf st.2.length yf) wu.heap.size):=by
           rintro (h | h | h | h)
           ·omega
           ·omega
           ·have:=(v.out.oS.lt _ h).2;omega
           ·have:=(v.out.oF.lt _ h).2;omega
          clear A c1 c2 c3 aL bb bc;refine (ih.out (st.1++[⟨p,sd⟩],st.2) (js[j].ends[1]' CG) x' y' xf yf Wj C aK bX CS CS).mono ?_
          rintro e w5 ⟨rfl,⟨aM,aO,aP,aQ,Z,t5,ao⟩,ap⟩;have aR:=aa (jp R.out CA pl n (st.1++[⟨p,sd⟩],st.2) (js[j].ends[1]' CG) aK.out bX.out)
          generalize bJ js ss CA pl n (st.1++[⟨p,sd⟩],st.2) (js[j].ends[1]' CG)=st5 at HX Z t5 ao aR
          have bY:=aa Z;have bZ:=ap.only.cell bx cK.out;have cL:=ai bZ;dsimp only at cL;obtain ⟨g1,g2⟩:=(cI.out.below Z.base) 2 CG
          have aL:w5.cell? ⟨be,oe+4,none⟩=some (.int .i64 (js[j].ends[2]' CG).CB):=g1
          have bb:w5.cell? ⟨be,oe+5,none⟩=some (.int .i64 (js[j].ends[2]' CG).side):=g2
          have bc:w5.cell? ⟨be,oe+4+1,none⟩=some (.int .i64 (js[j].ends[2]' CG).side):=g2
          have bd:Hid (gv F Q (.slice xs st.1.length ys) (.slice xf st.2.length yf) w w5):=LKR.trans O.out (D.out.len _) (dj.refl _ _) ap;have b2:Hid (dj w (.slice xs st.1.length ys) (.slice aM st5.1.length aO)):=(D.out.len _).trans t5 O.out.size;have b3:Hid (dj w (.slice xf st.2.length yf) (.slice aP st5.2.length aQ)):=ao.later O.out.size;have cM:=aR.out.2.1;have Y:=aR.out.2.2;simp only [List.length_append,List.length_cons,List.length_nil] at cM Y;clear Z t5 ao ap bx
          go_wp2_with fail
          refine (ih.out st5 (js[j].ends[2]' CG) aM aO aP aQ w5 bY aR.out.1 cH CG CG).mono ?_
          rintro e w6 ⟨rfl,⟨cN,cO,cP,cQ,b4,t6,b5⟩,b6⟩;have cS:Hid (kA w0 w B F Q pa (some ⟨bj,aC,none⟩) sa la pc jc sc lc ps.length js.length ss.length CA (.slice xs st.1.length ys) (.slice xf st.2.length yf) (bJ js ss CA pl (n+1) st ⟨p,sd⟩) (.returned (.tuple #[])) w6):=by
           unfold Hid;rw [HX.out];exact ⟨rfl,⟨cN,cO,cP,cQ,b4,b2.out.trans t6 bd.out.size,b3.out.trans b5 bd.out.size⟩,LKR.trans bd.out b2.out b3.out b6⟩
          clear b4 t6 b5 b6 bZ g1 g2 aL bb bc
          go_wp2_with fail
          (try simp only [Exit.inBlock,Exit.then])
          first
           | refine bodyPost_ret (results_none rfl _ _ _) rfl ?_
           | refine bodyPost_end (results_none rfl _ _ _) rfl ?_
           | go_end0
          exact cS.out
         ·have cT:k'<=2:=CG
          have b7:=aa (Ad b0.out.lu (j:=(j:Int)) (k:=(k':Int)) CG)
          have cU:((k':Int)==0)=false:=by rw [beq_eq_false_iff_ne];omega
          have q3:wu.cell? ⟨Q,3,none⟩=some (.slice la CA.length lc):=v.out.q3;have aJ:=ai q3;dsimp only at aJ;have dt:=b0.out.ln
          go_wp2_with fail
          generalize A:wu.alloc _=Wj;have E:Cx wu Wj:=by rw [<-A];exact blo
          have C:=aa (v.out.below E);have O:=aa (aB.out.later E);clear A c1 c2 c3 q3 aJ v aB E
          go_loopw [189] (fun c wl => ∃ (m':Nat),m'<=CA.length/\c = .int .i64 m'/\Hid (∀ q (hq:q<CA.length),q<m'->¬ (CA[q].CB=(j:Int)/\CA[q].side=(k':Int)))/\Cx Wj wl) (fun c _=>CA.length-(intOf c).toNat)
          case atStart=>exact ⟨0,Nat.zero_le _,rfl,(fun q _ h=>absurd h (Nat.not_lt_zero q)),Below.refl _ _⟩
          case round =>
           obtain ⟨m',dv,rfl,ak,bf⟩:=hrel;have ab:=aa (C.out.below bf);have bh:=aa (O.out.later bf);have cV:=bf.size;have q7:wr.cell? ⟨Q,7,none⟩=some (.slice xf st.2.length yf):=ab.out.f7;have z7:=ab.out.z7;have z:=ai q7;dsimp only at z;have aA:=ab.out.bz;have d:some Q≠(Value.slice xf st.2.length yf).ownBlock:=(fun e=>by have h1:=(ab.out.oF.lt Q e.symm).1;have h2:=b0.out.q1;omega)
           by_cases bi:m'<CA.length
           ·obtain ⟨bl,ol,cX,b8⟩:=ab.out.L.2.resolve_left (nz bi);subst cX;obtain ⟨d0,d1⟩:=b8 m' bi;have cY:=ai d0;dsimp only at cY;clear b8;cases t1:(CA[m'].CB==(j:Int))
            ·have ar:Hid (∀ q (hq:q<CA.length),q<m'+1->¬ (CA[q].CB=(j:Int)/\CA[q].side=(k':Int))):=by
              intro q hq bq
              by_cases e:q<m'
              ·exact ak.out q hq e
              ·have:q=m':=CG
               subst this;rintro ⟨h,_⟩;simp [h] at t1
             clear ak
             go_wp2_with fail
             go_roundw
             case rel=>exact ⟨m'+1,CG,by go_num,ar,blo⟩
             case measure=>simp [intOf];omega
            cases t2:(CA[m'].side==(k':Int))
            ·have ar:Hid (∀ q (hq:q<CA.length),q<m'+1->¬ (CA[q].CB=(j:Int)/\CA[q].side=(k':Int))):=by
              intro q hq bq
              by_cases e:q<m'
              ·exact ak.out q hq e
              ·have:q=m':=CG
               subst this;rintro ⟨_,h⟩;simp [h] at t2
             clear ak
             go_wp2_with fail
             go_roundw
             case rel=>exact ⟨m'+1,CG,by go_num,ar,blo⟩
             case measure=>simp [intOf];omega
            have HX:Hid (bJ js ss CA pl (n+1) st ⟨p,sd⟩=(st.1++[⟨p,sd⟩],st.2++[⟨pl,4,(j:Int),0⟩])):=by
             unfold Hid;rw [N.out,if_neg CG,if_pos ⟨X,a9⟩,if_pos (b7.out.2 ⟨m',bi,by simpa using t1,by simpa using t2⟩)]
            clear ak N
            go_wp2_with (at_builtin;generalize bm:wr.alloc _=Wl;have b9:Cx wr Wl:=(by rw [<-bm];exact blo);have aq:=aa (ab.out.below b9);have ca:=aa (bh.out.later b9);have cZ:Hid (wr.heap.size+1=Wl.heap.size):=(by rw [<-bm];unfold Hid;simp);clear bm q7 z7 z aA d;have q7:Wl.cell? ⟨Q,7,none⟩=some (.slice xf st.2.length yf):=aq.out.f7;have z7:=aq.out.z7;have z:=ai q7;dsimp only at z;have aA:=aq.out.bz;have d:some Q≠(Value.slice xf st.2.length yf).ownBlock:=(fun e=>by have h1:=(aq.out.oF.lt Q e.symm).1;have h2:=b0.out.q1;omega);refine iM rfl (.tmp 207) (.tmp 211) 42 rfl B 50 _ 4 32 underlying42 Tryz.infoFlank rfl CJ (.slice xf st.2.length yf) st.2.length (bO st.2) rfl aq.out.oF (wr.heap.size+1) cZ.out [.int .i64 pl,.int .i64 4,.int .i64 (j:Int),.int .i64 0] rfl rfl CL CK CG CG ?_;intro x2 y2 w3 o f H;have ah:=aa H;have h7:=f.cell q7 d;have a6:=(World.frozen?_of_block (a:=⟨Q,7,none⟩) (f.block Q z d)).trans z7;have a7:=ai h7;rw [ib _ ⟨pl,4,(j:Int),0⟩] at o;have I:=aa (LK.pushF b0.out aq.out f o);clear o f H)
            (try simp only [Exit.inBlock,Exit.then])
            first
             | refine bodyPost_ret (results_none rfl _ _ _) rfl ?_
             | refine bodyPost_end (results_none rfl _ _ _) rfl ?_
             | go_end0
            rw [HX.out];exact ⟨rfl,⟨x',y',x2,y2,I.out.1,D.out.len _,(ah.out.later ca.out.size).len _⟩,LKR.trans ca.out (D.out.len _) (dj.refl _ _) I.out.2⟩
           ·have HX:Hid (bJ js ss CA pl (n+1) st ⟨p,sd⟩=(st.1++[⟨p,sd⟩],st.2++[⟨pl,3,(j:Int),3-(k':Int)⟩])):=by
             unfold Hid;rw [N.out,if_neg CG,if_pos ⟨X,a9⟩,if_neg (fun h=>by obtain ⟨q,hq,e1,e2⟩:=b7.out.1 h;exact ak.out q hq CG ⟨e1,e2⟩)]
            clear ak N
            go_wp2_with (at_builtin;refine iM rfl (.tmp 220) (.tmp 226) 42 rfl B 50 _ 4 32 underlying42 Tryz.infoFlank rfl CJ (.slice xf st.2.length yf) st.2.length (bO st.2) rfl ab.out.oF wr.heap.size rfl [.int .i64 pl,.int .i64 3,.int .i64 (j:Int),.int .i64 (3-(k':Int))] rfl rfl CL CK CG CG ?_;intro x2 y2 w3 o f H;have ah:=aa H;have h7:=f.cell q7 d;have a6:=(World.frozen?_of_block (a:=⟨Q,7,none⟩) (f.block Q z d)).trans z7;have a7:=ai h7;rw [ib _ ⟨pl,3,(j:Int),(3-(k':Int))⟩] at o;have I:=aa (LK.pushF b0.out ab.out f o);clear o f H)
            (try simp only [Exit.inBlock,Exit.then])
            first
             | refine bodyPost_ret (results_none rfl _ _ _) rfl ?_
             | refine bodyPost_end (results_none rfl _ _ _) rfl ?_
             | go_end0
            rw [HX.out];exact ⟨rfl,⟨x',y',x2,y2,I.out.1,D.out.len _,(ah.out.later bh.out.size).len _⟩,LKR.trans bh.out (D.out.len _) (dj.refl _ _) I.out.2⟩
        ·have aK:Hid (eZ ps (st.1++[⟨p,sd⟩])):=hs.out.push HV.out HA.out;have cb:Hid (bJ js ss CA pl (n+1) st ⟨p,sd⟩=(bt js[j].kind k').foldl (fun s t=>bJ js ss CA pl n s (aY js j t)) (st.1++[⟨p,sd⟩],st.2)):=by unfold Hid;rw [N.out,if_neg CG,if_neg CG]
         have c5:(js[j].kind==1)=false:=by rw [beq_eq_false_iff_ne];omega
         have c6:(js[j].kind==3)=false:=by rw [beq_eq_false_iff_ne];omega
         clear N
         go_wp2_with fail
         generalize A:wu.alloc _=Wj;have E:Cx wu Wj:=by rw [<-A];exact blo
         have C:=aa (v.out.below E);have O:=aa (aB.out.later E);clear A c1 c2 c3;obtain ⟨tt,cc,cd,ac⟩:=tV js[j].kind js[j].name js[j].ends k' bI bR.out X ea ec Wj (bW.out.below C.out.base);have HX:Hid (bJ js ss CA pl (n+1) st ⟨p,sd⟩=bJ js ss CA pl n (st.1++[⟨p,sd⟩],st.2) js[j].ends[tt]):=by unfold Hid;rw [cb.out,cd,List.foldl_cons,List.foldl_nil,du hj cc]
         have c7:Hid (bM ps js[j].ends[tt]):=R.out.ends j hj tt cc;refine ac.mono ?_;rintro e w2 ⟨g,rfl,M,aH⟩;obtain ⟨d0,d1⟩:=M 0 CI
         simp only [List.getElem_cons_zero,Nat.zero_mul,Nat.add_zero] at d0 d1;have c8:=aa (C.out.below aH);have bn:=aa (O.out.later aH);have cf:=aa (ih.out (st.1++[⟨p,sd⟩],st.2) js[j].ends[tt] x' y' xf yf w2 c8 aK c7 CS CS)
         have dw:=ai d0;clear ac M aH cd cb;simp only [List.length_cons,List.length_nil]
         go_wp2_with fail
         refine cf.out.mono ?_;rintro e w5 ⟨rfl,⟨aM,aO,aP,aQ,Z,t5,ao⟩,ap⟩;have bY:=aa Z;have c9:Hid (kA w0 w B F Q pa (some ⟨bj,aC,none⟩) sa la pc jc sc lc ps.length js.length ss.length CA (.slice xs st.1.length ys) (.slice xf st.2.length yf) (bJ js ss CA pl (n+1) st ⟨p,sd⟩) (.returned (.tuple #[])) w5):=by
          unfold Hid;rw [HX.out];exact ⟨rfl,⟨aM,aO,aP,aQ,Z,(D.out.len _).trans t5 bn.out.size,ao.later bn.out.size⟩,LKR.trans bn.out (D.out.len _) (dj.refl _ _) ap⟩
         clear Z t5 ao ap cf d0 d1
         go_wp2_with fail
         (try simp only [Exit.inBlock,Exit.then])
         first
          | refine bodyPost_ret (results_none rfl _ _ _) rfl ?_
          | refine bodyPost_end (results_none rfl _ _ _) rfl ?_
          | go_end0
         exact c9.out
       ·have HX:Hid (bJ js ss CA pl (n+1) st ⟨p,sd⟩=(st.1++[⟨p,sd⟩],st.2++[⟨pl,2,b,0⟩])):=by
         unfold Hid;simp only [bJ];rw [if_neg HA.out,bC.out,hg,if_pos CG]
        rw [hg];clear a4 hg k0 k1 n0 n1
        go_wp2_with (at_builtin;refine iM rfl (.tmp 108) (.tmp 112) 42 rfl B 50 _ 4 32 underlying42 Tryz.infoFlank rfl CJ (.slice xf st.2.length yf) st.2.length (bO st.2) rfl V.out.oF wr.heap.size rfl [.int .i64 pl,.int .i64 2,.int .i64 b,.int .i64 0] rfl rfl CL CK CG CG ?_;intro x2 y2 w3 o f H;have ah:=aa H;have h7:=f.cell q7 d;have a6:=(World.frozen?_of_block (a:=⟨Q,7,none⟩) (f.block Q z d)).trans z7;have a7:=ai h7;rw [ib _ ⟨pl,2,b,0⟩] at o;have I:=aa (LK.pushF b0.out V.out f o);clear o f H)
        (try simp only [Exit.inBlock,Exit.then])
        refine bodyPost_ret (results_none rfl _ _ _) rfl ?_;rw [HX.out];exact ⟨rfl,⟨x',y',x2,y2,I.out.1,D.out.len _,(ah.out.later (Nat.le_trans aI.out.size CW)).len _⟩,LKR.trans aI.out (D.out.len _) (dj.refl _ _) I.out.2⟩
theorem rI (w0:World)(B F Q:Nat)(pa ja sa la:Option Addr)(pc jc sc lc:Nat)(ps:List af)(js:List aj)(ss:List af)(CA:List bg)(pl:Int)(R:Hid (bo ps js ss))(b0:Hid (LB w0 B F Q pa ja sa la ps js ss CA)):∀ n,iz w0 B F Q pa ja sa la pc jc sc lc ps js ss CA pl n
 | 0=>fun _ _ _ _ _ _ _ _ hs _ _ h2=>absurd h2 (by have:=hs.out.few;omega)
 | n+1=>fun st e xs ys xf yf w hk hs hv h1 h2=>by
  obtain ⟨p,hp,he,a⟩:=hv.out;obtain ⟨ep,es⟩:=e;simp only at he a;subst he;exact vS w0 B F Q pa ja sa la pc jc sc lc ps js ss CA pl n R b0 (rI w0 B F Q pa ja sa la pc jc sc lc ps js ss CA pl R b0 n) st p hp es a xs ys xf yf w hk hs h1 h2
end Go.Proofs.YtmkdgnmmebldgaaGreatDoor
