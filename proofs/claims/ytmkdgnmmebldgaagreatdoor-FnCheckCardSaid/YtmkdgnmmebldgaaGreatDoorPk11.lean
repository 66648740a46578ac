import Derived.Test.YtmkdgnmmebldgaaGreatDoorPk6
import Derived.Test.YtmkdgnmmebldgaaGreatDoorPk10
set_option maxRecDepth 100000
set_option maxHeartbeats 8000000
open Go.Proofs.Tryz
namespace Go.Proofs.YtmkdgnmmebldgaaGreatDoor
open Go.RowKit Go.Deep
variable {ps:List af}
theorem rx {js:List aj}{n:Nat}{s:aM}{pos left:Int}(h:left<=0):cL ps js n s pos left=[]:=by
 cases n with
 | zero=>rfl
 | succ n=>simp only [cL,if_pos h]
theorem Br {p:Nat}{way pos left:Int}(hp:p<ps.length)(hw:way=1\/way = -1)(h0:0<=pos)(h1:pos<=ps[p].len)(hl:0<=left):
  cK ps p way (bu ps p pos way) (min (bu ps p pos way+left) ps[p].len)=cD p pos (pos+min left ((aR ps (au ⟨p,way⟩)-pos)*way)*way) /\
  min (bu ps p pos way+left) ps[p].len-bu ps p pos way=min left ((aR ps (au ⟨p,way⟩)-pos)*way):=by
 have hL:=cT hp;rcases hw with rfl | rfl
 ·simp only [cK,bu,cD,aR,au,if_true,hL,Int.mul_one];have e:¬ ((1:Int) = -1):=CG
  have e2:¬ ((1:Int)=0):=CG
  rw [if_neg e,if_neg e2];refine ⟨?_,CG⟩
  congr 1 <;> omega
 ·have e:¬ ((-1:Int)=1):=CG
  simp only [cK,bu,cD,aR,au,if_true,if_neg e,hL];refine ⟨?_,CG⟩
  congr 1 <;> omega
structure uj (w:World)(F:Nat)(pa ja sa:Option Addr)(pc jc sc:Nat)(ps:List af)(js:List aj)(ss:List af)(over:Int):Prop where
 c0:w.cell? ⟨F,0,none⟩=some (.slice pa ps.length pc)
 c1:w.cell? ⟨F,1,none⟩=some (.slice ja js.length jc)
 c2:w.cell? ⟨F,2,none⟩=some (.slice sa ss.length sc)
 c3:w.cell? ⟨F,3,none⟩=some (.int .i64 over)
 P:ar w pa ps
 J:aP w ja js
 S:ar w sa ss
theorem uj.below {w w':World}{F:Nat}{pa ja sa:Option Addr}{pc jc sc:Nat}{js:List aj}{ss:List af}{over:Int}(h:uj w F pa ja sa pc jc sc ps js ss over)(hb:Cx w w'):uj w' F pa ja sa pc jc sc ps js ss over:=
 ⟨cell_later hb h.c0,cell_later hb h.c1,cell_later hb h.c2,cell_later hb h.c3,h.P.below hb,h.J.below hb,h.S.below hb⟩
theorem gY (ps:List aI)(p:aI):bG ps++[.int .i64 p.CB,.int .i64 p.lo,.int .i64 p.hi]=bG (ps++[p]):=by
 rw [wS];rfl
theorem vZ (F:Nat)(pa ja sa:Option Addr)(pc jc sc:Nat)(ps:List af)(js:List aj)(ss:List af)(over:Int)(R:Hid (bo ps js ss))(p0:Nat)(way0 pos0:Int)(w:World)(hF:Hid (uj w F pa ja sa pc jc sc ps js ss over))
  (hp0:p0<ps.length) (hw0:way0=1\/way0 = -1) (hs0:0<pos0) (hs1:pos0<ps[p0].len) (ho0:0<=over) (ho1:over<=100000) :
  Calls prog 77 #[.pointer (some ⟨F,0,none⟩),.int .i64 p0,.int .i64 way0,.int .i64 (bu ps p0 pos0 way0)] w fun e w' => ∃ x y,e = .returned (.slice x (cL ps js (over.toNat+1) ⟨p0,way0⟩ pos0 over).length y)/\w'.ownsRow w.heap.size 48 3 (.slice x (cL ps js (over.toNat+1) ⟨p0,way0⟩ pos0 over).length y) (cL ps js (over.toNat+1) ⟨p0,way0⟩ pos0 over).length (bG (cL ps js (over.toNat+1) ⟨p0,way0⟩ pos0 over))/\Cx w w':=by
 have aP:=hF.out.P.1;have aQ:=hF.out.J.1;have aS:=ai hF.out.c3;have aT:=hF.out.c3;unfold maxLen at aP aQ;have t:Hid (bu ps p0 pos0 way0<ps[p0].len/\0<=bu ps p0 pos0 way0):=by
  unfold Hid bu;rw [cT hp0]
  split <;> omega
 obtain ⟨T,A⟩:∃ T,cL ps js (over.toNat+1) ⟨p0,way0⟩ pos0 over=T:=⟨_,rfl⟩;rw [A];have ao:=aa A;have aV:=aa hw0;clear A hw0
 go_enter func77,ntmps77
 go_wp2_with fail
 clear aT
 go_loopw [1,2,3,9,10] (fun a1 a2 a3 v l wr => ∃ (p:Nat) (hp:p<ps.length) (d u lf:Int) (n:Nat) (a:List aI) (x:Option Addr) (y:Nat),a1 = .int .i64 p/\a2 = .int .i64 d/\a3 = .int .i64 (bu ps p u d)/\l = .int .i64 lf/\v = .slice x a.length y/\Hid (d=1\/d = -1)/\Hid (0<=u/\u<=ps[p].len/\bu ps p u d<ps[p].len/\0<=bu ps p u d)/\0<=lf/\(a.length:Int)+lf<=100000/\lf.toNat<n /\
  Hid (wr.ownsRow w.heap.size 48 3 (.slice x a.length y) a.length (bG a))/\Hid (T=a++cL ps js n ⟨p,d⟩ u lf)/\Cx w wr) (fun _ _ _ _ l _=>(intOf l).toNat)
 case atStart=>exact ⟨p0,hp0,way0,pos0,over,over.toNat+1,[],none,0,rfl,rfl,rfl,rfl,rfl,aV,⟨CG,CG,t.out.1,t.out.2⟩,ho0,by simpa using ho1,CG,World.ownsRow_nil _ _ _ _,ao.out.symm,Below.refl _ _⟩
 case round =>
  obtain ⟨p,hp,d,u,lf,n,a,x,y,rfl,rfl,rfl,rfl,rfl,HW,j,ap,aW,hn,HO,HT,hb⟩:=hrel;have be:=hb.size
  by_cases hl:0<lf
  ·have B:=aa (hF.out.below hb);have aX:=Nat.lt_of_lt_of_le aS hb.size;obtain ⟨aC,aE⟩:=R.out.plen p hp;have ar:=aa (Br (ps:=ps) (left:=lf) hp HW.out j.out.1 j.out.2.1 ap);obtain ⟨b,k⟩:∃ b,bu ps p u d=b:=⟨_,rfl⟩;have V:=aa k;have aZ:b<ps[p].len/\0<=b:=by rw [<-k];exact ⟨j.out.2.2.1,j.out.2.2.2⟩
   obtain ⟨a0,a4⟩:=aZ;rw [k];clear k;obtain ⟨b1,W,rfl,aF⟩:=B.out.P.2.2.resolve_left (nz hp);obtain ⟨_,q2,_,_⟩:=aF p hp;have f0:=B.out.c0;have f1:=B.out.c1;have bf:=ai q2;clear aF;obtain ⟨en,aG⟩:∃ en,min (b+lf) ps[p].len=en:=⟨_,rfl⟩;have X:=aa aG;have z:b<en/\en<=ps[p].len/\en<=b+lf:=CG
   obtain ⟨z,aH,bg⟩:=z;clear aG
   by_cases a5:ps[p].len<b+lf
   ·have C:Hid (en=ps[p].len):=by have:=X.out;unfold Hid;omega
    go_wp2_with fail
    refine (jA _ _ _ _ _ ps p d b (ps[p].len) _ (B.out.P.below blo) hp ⟨aC,aE⟩ CG CG CG CG).mono ?_
    rintro e w2 ⟨rfl,g⟩;obtain ⟨pt,D⟩:∃ pt,cK ps p d b (ps[p].len)=pt:=⟨_,rfl⟩;rw [D];have am:=aa D;have m:=aa (aq HO.out g);have E:=hb.trans (g.mono hb.size);have G:=E.size;have g0:=cell_later g f0;have g1:=cell_later g f1;have a6:=g.size;unfold jF;clear D g q2 f0 f1
    go_wp2_with (at_builtin;refine aU rfl (.tmp 47) (.tmp 57) 41 rfl w.heap.size 48 _ 3 24 underlying41 Tryz.infoPart rfl CJ (.slice x a.length y) a.length (bG a) rfl m.out w2.heap.size rfl [.int .i64 pt.CB,.int .i64 pt.lo,.int .i64 pt.hi] rfl rfl CL CK CG CG ?_;intro x' y' w3 H I;rw [gY] at H;have Y:=aa H;have i:=dw E m.out I CG;have L:=aa I;clear H I)
    have f:some F≠(Value.slice x a.length y).ownBlock:=fun e=>by have:=(m.out.lt F e.symm).1;omega
    have k0:=L.out.cell g0 f;have k1:=L.out.cell g1 f;have au:=i.size;have av:F<w3.heap.size:=CG
    have M:=aa (hF.out.below i);clear f L g0 g1 E G m B;obtain ⟨ji,ki,Z,ab⟩:=R.out.spot (dh (ps:=ps) (s:=⟨p,d⟩) ⟨p,hp,rfl,HW.out⟩);have an:=aa Z;have aJ:=aa ab;clear Z ab
    go_region_held3 (fun w'=>w'.cell? ⟨F,0,none⟩=some (.slice (some ⟨b1,W,none⟩) ps.length pc)/\w'.cell? ⟨F,1,none⟩=some (.slice ja js.length jc)) (first | go_keep | (refine ⟨?_,?_⟩ <;> assumption))
     (first
      | (go_at_call 47;refine (lC p d _).mono ?_;rintro e w5 ⟨rfl,ac⟩;have c:Cx w3 w5:=CV.drew.trans ac;replace k0:=cell_later c k0;replace k1:=cell_later c k1;have o:=aa c;clear ac c)
      | (go_at_call 46;refine (lL _ _ _ _ _ js _ ji ki _ (M.out.J.below o.out) an).mono ?_;rintro e w6 ⟨rfl,q⟩;replace k0:=cell_later q k0;replace k1:=cell_later q k1;have r:=aa (o.out.trans (q.mono o.out.size));clear q))
    all_goals
     have ad:=i.trans (r.out.mono i.size);have ae:=aa (aq Y.out r.out);have aK:=aa (M.out.below r.out);have aw:=ad.size;have ax:F<w6.heap.size:=CG
     clear o r M Y i;have bh:0<lf-(ps[p].len-b):=CG
     obtain ⟨_,N,aL,ay,_,_⟩:=df an.out;simp only [Nat.sub_zero] at N aL ay;obtain ⟨bi,bj,bk⟩:=R.out.kind ji N;obtain ⟨b3,a7,rfl,aM⟩:=aK.out.J.2.2.resolve_left (nz N);obtain ⟨c1,_,ea,ec,c3,c4⟩:=aM ji N;have C4:=aa c4;have bl:=ai c1;clear aM c4;have ag:Hid (T=a++([pt]++(if js[ji].kind=2 then cL ps js (n-1) (aD (aY js ji (1-ki))) (aR ps (aY js ji (1-ki))) (lf-(ps[p].len-b)) else []))):=by
      have h1:=HT.out;have h2:=ar.out;rw [V.out,X.out,C.out,am.out] at h2;obtain ⟨n',rfl⟩:∃ n',n=n'+1:=⟨n-1,CG⟩
      unfold Hid;rw [h1,cL,if_neg CG,<-h2.1,<-h2.2,aJ.out,cu N]
      rfl
     by_cases hK:js[ji].kind=2
     ·have a8:(js[ji].kind != 2)=false:=by simp [hK]
      rw [if_pos hK] at ag;have bm:js[ji].ends.length=2:=CG
      obtain ⟨b4,a9,rfl,aN⟩:=C4.out.2.resolve_left (nz aL);have ba:ki=0\/ki=1:=CG
      have ah:∃ kk:Nat,kk<2/\1-ki=kk/\((1:Int)-(ki:Int))=(kk:Int):=⟨1-ki,CG,rfl,CG⟩
      obtain ⟨kk,az,ak,aA⟩:=ah;have aB:kk<js[ji].ends.length:=CG
      obtain ⟨d0,d1⟩:=aN kk aB;obtain ⟨p',O,z,aH⟩:=R.out.ends ji N kk aB;obtain ⟨bn,bp⟩:=R.out.plen p' O;have aO:Hid (aY js ji (1-ki)=js[ji].ends[kk]):=by unfold Hid;rw [ak,du N aB]
      rw [z] at d0;have bb:=ai d0;have bc:(js[ji].ends.length:Int)=2:=CG
      have U:Hid ((a++[pt]).length=a.length+1):=by unfold Hid;simp
      have bq:=aa aA;clear aN ak az am ar X;rcases aH with hs | hs
      ·rw [hs] at d1;have al:Hid (aD (aY js ji (1-ki))=⟨p',1⟩/\aR ps (aY js ji (1-ki))=0):=by
        unfold Hid;rw [aO.out];unfold aD aR;rw [if_pos hs,if_pos hs,z];exact ⟨rfl,rfl⟩
       clear z hs
       go_wp2_with fail
       go_roundw
       case rel =>
        refine ⟨p',O,1,0,lf-(ps[p].len-b),n-1,a++[pt],x',y',by first | rfl | go_num,rfl,by simp [bu],rfl,by rw [U.out],Or.inl rfl,⟨CG,CG,by simp only [bu,if_true];omega,by simp [bu]⟩,CG,?_,CG,by rw [U.out];exact ae.out.alloc _,?_,blo⟩
        ·rw [U.out];omega
        ·have h:=ag.out;rw [al.out.1,al.out.2] at h;unfold Hid;rw [h,List.append_assoc]
       case measure=>simp [intOf];omega
      ·rw [hs] at d1;have al:Hid (aD (aY js ji (1-ki))=⟨p',-1⟩/\aR ps (aY js ji (1-ki))=ps[p'].len):=by
        unfold Hid;rw [aO.out];unfold aD aR;rw [if_neg (by rw [hs];omega),if_neg (by rw [hs];omega),z,cT O]
        exact ⟨rfl,rfl⟩
       clear z hs
       go_wp2_with fail
       go_roundw
       case rel =>
        refine ⟨p',O,-1,ps[p'].len,lf-(ps[p].len-b),n-1,a++[pt],x',y',by first | rfl | go_num,rfl,by simp [bu,cT O],rfl,by rw [U.out],Or.inr rfl,⟨CG,CG,by simp [bu,cT O];omega,by simp [bu,cT O]⟩,CG,?_,CG,by rw [U.out];exact ae.out.alloc _,?_,blo⟩
        ·rw [U.out];omega
        ·have h:=ag.out;rw [al.out.1,al.out.2] at h;unfold Hid;rw [h,List.append_assoc]
       case measure=>simp [intOf];omega
     ·have a8:(js[ji].kind != 2)=true:=by simp [hK]
      rw [if_neg hK,List.append_nil] at ag;obtain rfl:=ag.out;clear hK
      go_wp2_with fail
      go_ret
      exact ⟨x',y',CI,by simpa using ae.out,ad⟩
   ·have C:Hid (en=b+lf):=by have:=X.out;unfold Hid;omega
    go_wp2_with fail
    refine (jA _ _ _ _ _ ps p d b (b+lf) _ (B.out.P.below blo) hp ⟨aC,aE⟩ CG CG CG CG).mono ?_
    rintro e w2 ⟨rfl,g⟩;obtain ⟨pt,D⟩:∃ pt,cK ps p d b (b+lf)=pt:=⟨_,rfl⟩;rw [D];have am:=aa D;have m:=aa (aq HO.out g);have E:=hb.trans (g.mono hb.size);have G:=E.size;have g0:=cell_later g f0;have g1:=cell_later g f1;have a6:=g.size;unfold jF;clear D g q2 f0 f1
    go_wp2_with (at_builtin;refine aU rfl (.tmp 47) (.tmp 57) 41 rfl w.heap.size 48 _ 3 24 underlying41 Tryz.infoPart rfl CJ (.slice x a.length y) a.length (bG a) rfl m.out w2.heap.size rfl [.int .i64 pt.CB,.int .i64 pt.lo,.int .i64 pt.hi] rfl rfl CL CK CG CG ?_;intro x' y' w3 H I;rw [gY] at H;have Y:=aa H;have i:=dw E m.out I CG;have L:=aa I;clear H I)
    have f:some F≠(Value.slice x a.length y).ownBlock:=fun e=>by have:=(m.out.lt F e.symm).1;omega
    have k0:=L.out.cell g0 f;have k1:=L.out.cell g1 f;have au:=i.size;have av:F<w3.heap.size:=CG
    have M:=aa (hF.out.below i);clear f L g0 g1 E G m B;obtain ⟨ji,ki,Z,ab⟩:=R.out.spot (dh (ps:=ps) (s:=⟨p,d⟩) ⟨p,hp,rfl,HW.out⟩);have an:=aa Z;have aJ:=aa ab;clear Z ab
    go_region_held3 (fun w'=>w'.cell? ⟨F,0,none⟩=some (.slice (some ⟨b1,W,none⟩) ps.length pc)/\w'.cell? ⟨F,1,none⟩=some (.slice ja js.length jc)) (first | go_keep | (refine ⟨?_,?_⟩ <;> assumption))
     (first
      | (go_at_call 47;refine (lC p d _).mono ?_;rintro e w5 ⟨rfl,ac⟩;have c:Cx w3 w5:=CV.drew.trans ac;replace k0:=cell_later c k0;replace k1:=cell_later c k1;have o:=aa c;clear ac c)
      | (go_at_call 46;refine (lL _ _ _ _ _ js _ ji ki _ (M.out.J.below o.out) an).mono ?_;rintro e w6 ⟨rfl,q⟩;replace k0:=cell_later q k0;replace k1:=cell_later q k1;have r:=aa (o.out.trans (q.mono o.out.size));clear q))
    all_goals
     have ad:=i.trans (r.out.mono i.size);have ae:=aa (aq Y.out r.out);have aK:=aa (M.out.below r.out);have aw:=ad.size;have ax:F<w6.heap.size:=CG
     clear o r M Y i;have HX:Hid (T=a++[pt]):=by
      have h1:=HT.out;have h2:=ar.out;rw [V.out,X.out,C.out,am.out] at h2;obtain ⟨n',rfl⟩:∃ n',n=n'+1:=⟨n-1,CG⟩
      rw [h1,cL,if_neg CG,<-h2.1,<-h2.2]
      congr 2
      split
      ·exact rx CG
      ·rfl
     have bd:lf-(b+lf-b)=0:=CG
     rw [bd];obtain rfl:=HX.out
     go_wp2_with fail
     go_ret
     exact ⟨x',y',CI,by simpa using ae.out,ad⟩
  ·have HX:Hid (T=a):=by have:=HT.out;rw [rx CG,List.append_nil] at this;exact this
   obtain rfl:=HX.out
   go_wp2_with fail
   go_ret
   exact ⟨x,y,rfl,HO.out,hb⟩
end Go.Proofs.YtmkdgnmmebldgaaGreatDoor
