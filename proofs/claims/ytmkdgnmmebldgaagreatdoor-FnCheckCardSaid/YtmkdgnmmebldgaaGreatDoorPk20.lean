import Derived.Test.YtmkdgnmmebldgaaGreatDoorPk19
import Derived.Test.YtmkdgnmmebldgaaGreatDoorPk18
import Derived.Test.YtmkdgnmmebldgaaGreatDoorPk15
import Derived.Test.YtmkdgnmmebldgaaGreatDoorPk11
import Derived.Test.YtmkdgnmmebldgaaGreatDoorPk6
import Derived.Test.YtmkdgnmmebldgaaGreatDoorPk12
set_option maxRecDepth 100000
set_option maxHeartbeats 8000000
open Go.Proofs.Tryz
namespace Go.Proofs.YtmkdgnmmebldgaaGreatDoor
open Go.RowKit Go.Deep Go.Maps
structure KC (w:World)(K M:Nat)(pa ja sa:Option Addr)(pc jc sc pl jl sl:Nat):Prop where
 c0:w.cell? ⟨K,0,none⟩=some (.slice pa pl pc)
 c1:w.cell? ⟨K,1,none⟩=some (.slice ja jl jc)
 c2:w.cell? ⟨K,2,none⟩=some (.slice sa sl sc)
 c3:w.cell? ⟨K,3,none⟩=some (.map (some M))
theorem KC.below {w w':World}{K M:Nat}{pa ja sa:Option Addr}{pc jc sc pl jl sl:Nat}(h:KC w K M pa ja sa pc jc sc pl jl sl)(hb:Cx w w'):KC w' K M pa ja sa pc jc sc pl jl sl:=
 ⟨cell_later hb h.c0,cell_later hb h.c1,cell_later hb h.c2,cell_later hb h.c3⟩
theorem KC.grown {w w':World}{K M:Nat}{pa ja sa:Option Addr}{pc jc sc pl jl sl:Nat}(h:KC w K M pa ja sa pc jc sc pl jl sl)(hg:w.grownBy w' (some M))(hne:K≠M):KC w' K M pa ja sa pc jc sc pl jl sl:=
 ⟨hg.cell h.c0 (by simpa using hne),hg.cell h.c1 (by simpa using hne),hg.cell h.c2 (by simpa using hne),hg.cell h.c3 (by simpa using hne)⟩
def tk (w:World)(K:Nat)(pa ja sa:Option Addr)(pc jc sc:Nat)(ps:List af)(js:List aj)(ss:List af):Prop := ∃ M,cB w K M pa ja sa pc jc sc ps js ss
theorem uV (pa ja sa:Option Addr)(pc jc sc:Nat)(ps:List af)(js:List aj)(ss:List af)(R:Hid (bo ps js ss))(w:World)(hp:Hid (ar w pa ps))(hj:Hid (aP w ja js))(hs:Hid (ar w sa ss)):
  Calls prog 38 #[.agg #[.slice pa ps.length pc,.slice ja js.length jc],.slice sa ss.length sc] w fun e w' => ∃ K,e = .returned (.pointer (some ⟨K,0,none⟩))/\w.heap.size<=K/\tk w' K pa ja sa pc jc sc ps js ss/\Cx w w':=by
 have M := @run_makeMap prog;have an:=R.out.nj
 go_enter func38,ntmps38
 go_upto_region 2 with fail
 generalize hW:w.alloc (Obj.cells #[Value.slice pa ps.length pc,Value.slice ja js.length jc] 26)=W;have e1:W.cell? ⟨w.heap.size,1,none⟩=some (.slice ja js.length jc):=by rw [<-hW];simp [go_sem]
 have hz:w.heap.size+1=W.heap.size:=by rw [<-hW];simp
 have a:Hid (Cx w W):=by rw [<-hW];exact blo
 have A:Hid (d8 (W.alloc (.map #[] 0)) (w.heap.size+1) js 0 0):=by
  refine ⟨fun _=>sK,0,Nat.zero_le _,?_,fun i q hi hq h=>CG⟩
  rw [hz];exact gW.made W
 clear hW;generalize hV:(W.alloc (Obj.map #[] 0)).alloc _=V;have B:Hid (d8 V (w.heap.size+1) js 0 0):=by rw [<-hV];exact A.out.below blo
 have C:Hid (KC V (w.heap.size+1+1) (w.heap.size+1) pa ja sa pc jc sc ps.length js.length ss.length):=by
  unfold Hid;rw [<-hV,hz];constructor <;> simp [go_sem]
 have p:Hid (Cx W V):=by rw [<-hV];exact blo
 have N:=cell_later p.out e1;have ao:w.heap.size+1<=W.heap.size:=Nat.le_of_eq hz;have ap:W.heap.size<=w.heap.size+1:=Nat.le_of_eq hz.symm;have O:w.heap.size+1+1<V.heap.size:=by
  rw [<-hV];simp;omega
 have r:w.heap.size<V.heap.size:=CG
 clear hV A hz M
 go_wp2_with fail
 go_loopw [20] (fun c wr => ∃ (k:Nat),k<=js.length/\c = .int .i64 k/\Hid (d8 wr (w.heap.size+1) js k 0)/\Hid (KC wr (w.heap.size+1+1) (w.heap.size+1) pa ja sa pc jc sc ps.length js.length ss.length)/\Cx W wr) (fun c _=>js.length-(intOf c).toNat)
 case atStart=>exact ⟨0,Nat.zero_le _,rfl,B,C,p.out⟩
 case round =>
  clear B C p N O r;obtain ⟨k,hk,rfl,HM,HK,hb⟩:=hrel;have g:=hb.size;have T:w.heap.size<wr.heap.size:=CG
  by_cases b:k<js.length
  ·have X:(k:Int)<js.length:=CG
   obtain ⟨b1,s,rfl,D⟩:=hj.out.2.2.resolve_left (nz b);have l:=a.out.trans (hb.mono a.out.size);obtain ⟨c1,c2,ea,ec,c3,c4⟩:=D k b;have C4:=aa c4;replace c1:=cell_later l c1;replace c2:=cell_later l c2;replace c3:=cell_later l c3;have t:=R.out.kind k b;have x:=t.1;have y:=t.2.1;have aq:js[k].ends.length<=4:=CG
   have E:=ai c1;dsimp only at E;clear D c4 l t
   go_upto_region 5 with fail
   generalize hU:World.alloc wr _=U;have n:Cx wr U:=by rw [<-hU];exact CV.alloc CW _
   have u0:U.cell? ⟨wr.heap.size,0,none⟩=some (.int .i64 js[k].kind):=by rw [<-hU];simp [go_sem]
   have u2:U.cell? ⟨wr.heap.size,2,none⟩=some (.slice ea js[k].ends.length ec):=by rw [<-hU];simp [go_sem]
   have F:=ai u0;dsimp only at F;have G:=aa (HM.out.below n);have H:=aa (HK.out.below n);have I:=aa (hb.trans (n.mono g));clear hU n c1 c2 c3 HM HK hb;have J:Hid (∀ u:World,Calls prog 81 #[.int .i64 js[k].kind] u fun e w'=>e = .returned (.tuple #[.iface (cj js[k].kind) (.agg #[]),.bool true])/\w'=u):=fun u=>wL js[k].kind x y u
   go_wp2_with (go_at_call 81;refine (J.out _).mono ?_;rintro e w2 ⟨rfl,rfl⟩)
   go_loopw [35] (fun c wx => ∃ (m:Nat),m<=js[k].ends.length/\c = .int .i64 m/\Hid (d8 wx (w.heap.size+1) js k m)/\Hid (KC wx (w.heap.size+1+1) (w.heap.size+1) pa (some ⟨b1,s,none⟩) sa pc jc sc ps.length js.length ss.length)/\Cx W wx) (fun c _=>js[k].ends.length-(intOf c).toNat)
   case atStart=>exact ⟨0,Nat.zero_le _,rfl,G,H,I.out⟩
   case round =>
    clear G H I u0 u2 F g T E J;obtain ⟨m,hm,rfl,HM,HK,hb⟩:=hrel;have g:=hb.size
    by_cases z:m<js[k].ends.length
    ·have Y:(m:Int)<js[k].ends.length:=CG
     obtain ⟨b2,Z,rfl,d⟩:=(C4.out.below (a.out.trans (hb.mono a.out.size))).2.resolve_left (nz z);obtain ⟨d1,d2⟩:=d m z;have ab:=ai d1;dsimp only at ab;clear d;have f:Cx wr (wr.alloc (Obj.cells #[Value.int IntKind.i64 js[k].ends[m].CB,Value.int IntKind.i64 js[k].ends[m].side] 114)).drew:=blo;obtain ⟨w2,ac,L,hg⟩:=(HM.out.below f).put R.out b z;have ad:=aa L;have ae:=aa ((HK.out.below f).grown hg CG)
     have ag:Cx W w2:=Below.grown (hb.trans (f.mono g)) hg CN (fun j hj=>by cases hj;omega)
     have k3:=(HK.out.below f).c3;have ah:=HK.out.c3;have ak:=ai ah;dsimp only at ak;unfold bC eV at ac;clear L hg HM HK f
     go_upto_region 10 with fail
     go_region
     all_goals
      go_wp2_with fail
      go_roundw
      case rel=>exact ⟨m+1,CG,by go_num,ad,ae,ag⟩
      case measure=>simp [intOf];omega
    ·have al:Hid (d8 wr (w.heap.size+1) js (k+1) 0):=HM.out.next b CG CG
     have Y:¬ (m:Int)<js[k].ends.length:=CG
     clear HM
     go_wp2_with fail
     go_roundw
     case rel=>exact ⟨k+1,CG,by go_num,al,HK,hb⟩
     case measure=>simp [intOf];omega
  ·obtain rfl:k=js.length:=CG
   have X:¬ (js.length:Int)<js.length:=CG
   have o:=aa (a.out.trans (hb.mono a.out.size));have am:Hid (cB wr (w.heap.size+1+1) (w.heap.size+1) pa ja sa pc jc sc ps js ss):=
    ⟨⟨HK.out.c0,HK.out.c1,HK.out.c2,hp.out.below o.out,hj.out.below o.out,hs.out.below o.out⟩,HK.out.c3,HM.out⟩
   clear HM HK hb
   go_wp2_with fail
   exact bodyPost_ret (v:=.pointer (some ⟨w.heap.size+1+1,0,none⟩)) (by simp [results,results38,go_sem]) rfl ⟨_,rfl,CG,⟨_,am.out⟩,o.out⟩
theorem Tryz.zeroP:(prog.info? 206).map (·.zero)=some (some (.agg #[])):=CH
theorem Tryz.zeroB:(prog.info? 205).map (·.zero)=some (some (.agg #[])):=CH
theorem wb (w:World)(xt t':TypeId)(hne:t'≠206):(Instr.typeAssert (.iface t' (.agg #[])) xt 206 true).run prog w = .ok (.tuple #[.agg #[],.bool false]) w:=by
 obtain ⟨i,hi,hz⟩:=Option.map_eq_some_iff.1 Tryz.zeroP;exact eU w xt _ t' _ _ i _ underlying206 hne hi hz
theorem wo (w:World)(xt t':TypeId)(hne:t'≠205):(Instr.typeAssert (.iface t' (.agg #[])) xt 205 true).run prog w = .ok (.tuple #[.agg #[],.bool false]) w:=by
 obtain ⟨i,hi,hz⟩:=Option.map_eq_some_iff.1 Tryz.zeroB;exact eU w xt _ t' _ _ i _ underlying205 hne hi hz
theorem isP (w:World)(xt:TypeId)(k:Int):(Instr.typeAssert (.iface (cj k) (.agg #[])) xt 206 true).run prog w = .ok (.tuple #[.agg #[],.bool (decide (k=2))]) w:=by
 unfold cj
 by_cases h1:k=1
 ·subst h1;rw [if_pos rfl];exact wb w xt _ CJ
 ·rw [if_neg h1]
  by_cases h2:k=2
  ·subst h2;rw [if_pos rfl];exact dK (P:=prog) w xt 206 (.agg #[]) _ underlying206
  ·rw [if_neg h2,decide_eq_false h2]
   split
   ·exact wb w xt _ CJ
   ·exact wb w xt _ CJ
theorem isB (w:World)(xt:TypeId)(k:Int):(Instr.typeAssert (.iface (cj k) (.agg #[])) xt 205 true).run prog w = .ok (.tuple #[.agg #[],.bool (decide (k=1))]) w:=by
 unfold cj
 by_cases h1:k=1
 ·subst h1;rw [if_pos rfl];exact dK (P:=prog) w xt 205 (.agg #[]) _ underlying205
 ·rw [if_neg h1,decide_eq_false h1]
  split
  ·exact wo w xt _ CJ
  ·split
   ·exact wo w xt _ CJ
   ·exact wo w xt _ CJ
def cP (js:List aj)(s:aM):aM × Bool:=
 if aH js (aO js (au s)).1=2 then (aD (aY js (aO js (au s)).1 (1-(aO js (au s)).2)),true) else (⟨0,0⟩,false)
theorem sD (K M:Nat)(pa ja sa:Option Addr)(pc jc sc:Nat)(ps:List af)(js:List aj)(ss:List af)(R:Hid (bo ps js ss))(s:aM)(w:World)(hT:Hid (cB w K M pa ja sa pc jc sc ps js ss))(hv:Hid (eR ps s)):
  Calls prog 137 #[.pointer (some ⟨K,0,none⟩),bC s] w fun e w'=>e = .returned (.tuple #[bC (cP js s).1,.bool (cP js s).2])/\Cx w w':=by
 obtain ⟨sp,sw⟩:=s;obtain ⟨es,B⟩:∃ es,au ⟨sp,sw⟩=es:=⟨_,rfl⟩;have Y:Hid (bM ps es):=by unfold Hid;rw [<-B];exact dh hv.out
 have F:Hid (∀ u:World,Calls prog 114 #[.agg #[.int .i64 sp,.int .i64 sw]] u fun e w'=>e = .returned (bC es)/\Cx u w'):=fun u=>by
  have hh:=jm sp sw u;rw [B] at hh;exact hh
 have c3:=hT.out.c3;have c1:=hT.out.net.c1;have hK:=ai c3;dsimp only at hK;have C:Hid (∀ u:World,Cx w u->(Instr.lookup 145 (.map (some M)) (bC es) false).run prog u = .ok (eV (aO js es).1 (aO js es).2 (aH js (aO js es).1)) u):=fun u hu=>(hT.out.below hu).lookup R.out Y.out
 have HF:Hid (cP js ⟨sp,sw⟩=if aH js (aO js es).1=2 then (aD (aY js (aO js es).1 (1-(aO js es).2)),true) else (⟨0,0⟩,false)):=by
  unfold Hid cP;rw [B]
 obtain ⟨j,k,g1,g2⟩:=R.out.spot Y.out;rw [g2] at C HF;dsimp only at C HF;clear B;unfold bC
 go_enter func137,ntmps137
 go_upto_region 1 with fail
 generalize hW:World.alloc (World.alloc w _) _=W;have D:Cx w W:=by rw [<-hW];exact blo
 have x0:W.cell? ⟨w.heap.size,0,none⟩=some (.int .i64 sp):=by rw [<-hW];simp [go_sem]
 have x1:W.cell? ⟨w.heap.size,1,none⟩=some (.int .i64 sw):=by rw [<-hW];simp [go_sem]
 have y3:=cell_later D c3;have y1:=cell_later D c1;have E:=aa D;have ax:w.heap.size+1<W.heap.size:=by rw [<-hW];simp
 obtain ⟨S,hS⟩:∃ S:World->Prop,∀ u,S u↔Cx W u:=⟨_,fun _=>Iff.rfl⟩
 have p:=aa hS;have r0:∀ u:an S,World.cell? u.val ⟨w.heap.size,0,none⟩=some (.int .i64 sp):=fun u=>cell_later ((hS u.val).1 u.2) x0
 have r1:∀ u:an S,World.cell? u.val ⟨w.heap.size,1,none⟩=some (.int .i64 sw):=fun u=>cell_later ((hS u.val).1 u.2) x1
 have r3:∀ u:an S,World.cell? u.val ⟨K,3,none⟩=some (.map (some M)):=fun u=>cell_later ((hS u.val).1 u.2) y3
 have r4:∀ u:an S,(Instr.lookup 145 (.map (some M)) (bC es) false).run prog u.val = .ok (eV j k (aH js j)) u.val:=fun u=>C.out u.val (E.out.trans (((hS u.val).1 u.2).mono E.out.size))
 have d:S W.drew:=(hS _).2 (CV.drew);have hne:=aQ d;have G:Hid (W.rowIs (w.heap.size+1) 46 2 (fun _=>.int .i64 0)):=by
  unfold Hid;rw [<-hW];have:=World.rowIs_alloc (w.alloc (Obj.cells #[Value.int IntKind.i64 sp,Value.int IntKind.i64 sw] 46)) #[.int .i64 0,.int .i64 0] 46 (fun _=>.int .i64 0) (by intro i hi;have H:i<2:=hi;match i,H with | 0,_=>rfl | 1,_=>rfl)
  simpa using this
 clear hS hW D
 go_cut [6] (fun v wx => ∃ b,v = .pointer (some ⟨b,0,none⟩)/\W.heap.size<=b/\wx.cell? ⟨b,0,none⟩=some (.int .i64 (j:Int))/\wx.cell? ⟨b,1,none⟩=some (.int .i64 (k:Int))/\wx.cell? ⟨b,2,none⟩=some (.iface (cj (aH js j)) (.agg #[]))/\Cx W wx)
 case first =>
  refine bW 8 d ?_
  (refine ae 0 ?_;intro K hK;go_big_quiet_op;go_big_quiet_on);(refine ae 1 ?_;intro K hK;go_big_quiet_op;go_big_quiet_on);(refine ae 2 ?_;intro K hK;go_big_quiet_op;go_big_quiet_on);(refine ae 3 ?_;intro K hK;go_big_quiet_op;go_big_quiet_on);(refine ae 4 ?_;intro K hK;go_big_quiet_op;go_big_quiet_on)
  refine fh 5 7 (by rfl) (by rfl) CH CH CH ?_ ?_
  ·intro K hK
   go_wp2_with (go_at_call 114;refine (F.out _).mono ?_;rintro e w2 ⟨rfl,a⟩)
   have c:Cx W w2:=CV.drew.trans a;have q:S w2:=(p.out _).2 c;clear a;refine hK _ _ (ak q) ?_;clear hK K
   (refine ae 6 ?_;intro K hK;go_big_quiet_op;go_big_quiet_on)
   refine az 7 ?_;intro K hK
   go_wp2_with fail
   have g:Cx W (w2.alloc (Obj.cells #[Value.int IntKind.i64 0,Value.int IntKind.i64 0,Value.nilIface] 153)):=c.trans (CU.mono c.size);refine hK _ _ (ak ((p.out _).2 g)) ?_;clear hK K;refine a9 ?_;have Z:=c.size;unfold eV;clear r0 r1 r3 r4 d hne q g
   go_wp2_with fail
   go_meet
   exact ⟨_,rfl,Z,CO,CO,CO,c.trans (CU.mono c.size)⟩
  ·intro K hK
   go_wp2_with fail
   have g:Cx W (W.alloc (Obj.cells #[Value.int IntKind.i64 0,Value.int IntKind.i64 0,Value.nilIface] 153)).drew:=CU.drew;refine hK _ _ (ak ((p.out _).2 g)) ?_;clear hK K;generalize hV:(W.alloc (Obj.cells #[Value.int IntKind.i64 0,Value.int IntKind.i64 0,Value.nilIface] 153)).drew=V at g ⊢;have v0:V.rowIs W.heap.size 153 3 (fun i=>if i=2 then .nilIface else .int .i64 0):=by
    rw [<-hV];exact World.rowIs_alloc W _ _ _ (by intro i hi;have H:i<3:=hi;match i,H with | 0,_=>rfl | 1,_=>rfl | 2,_=>rfl)
   clear hV;refine az 5 ?_;intro K hK
   go_wp2_with (go_at_call 114;refine (F.out _).mono ?_;rintro e w2 ⟨rfl,a⟩)
   have c:Cx W w2:=g.trans (a.mono g.size);have q:S w2:=(p.out _).2 c;have f:=v0.of_block (a.block _ v0.lt);refine hK _ _ (ak q) ?_;clear hK K v0 a g
   (refine ae 6 ?_;intro K hK;go_big_quiet_op;go_big_quiet_on)
   refine a9 ?_;have Z:=c.size;have ay:=f.lt;have s0:=f.cell (i:=0) CG
   have s1:=f.cell (i:=1) CG
   have s2:=f.cell (i:=2) CG
   have f0:=f.frozen 0;have f1:=f.frozen 1;have f2:=f.frozen 2;unfold eV;have I:=aa (((f.set 0 (.int .i64 (j:Int))).set 1 (.int .i64 (k:Int))).set 2 (.iface (cj (aH js j)) (.agg #[])));clear r0 r1 r3 r4 d hne q f
   go_wp2_with fail
   go_meet
   exact ⟨_,rfl,Nat.le_refl _,(I.out.cell (i:=0) CG).trans CI,(I.out.cell (i:=1) CG).trans CI,(I.out.cell (i:=2) CG).trans CI,((c.setCell CW _).setCell CW _).setCell CW _⟩
 case rest =>
  obtain ⟨b,rfl,aA,d0,d1,d2,r⟩:=hcut;have L:=aa (E.out.trans (r.mono E.out.size));have ab:=ai d0;dsimp only at ab;replace y1:=cell_later r y1;have aB:=r.size;have q4:=G.out.of_block (r.block _ G.out.lt);have s0:=q4.cell (i:=0) CG
  have s1:=q4.cell (i:=1) CG
  have f0:=q4.frozen 0;have f1:=q4.frozen 1;have ac:=q4.lt;have Q4:=aa q4;clear r0 r1 r3 r4 d hne x0 x1 y3 C F p r q4 G
  by_cases t:aH js j=2
  ·have N:∀ u:World,(Instr.typeAssert (.iface (cj (aH js j)) (.agg #[])) 149 206 true).run prog u = .ok (.tuple #[.agg #[],.bool true]) u:=fun u=>by rw [isP u,decide_eq_true t]
   generalize cj (aH js j)=kt at N d2;obtain ⟨_,hj,am,g3,_⟩:=df g1;simp only [Nat.sub_zero] at hj am g3;have aC:=(R.out.kind j hj).2.2;rw [cu hj] at t;have ad:js[j].ends.length=2:=CG
   obtain ⟨k',ag⟩:∃ k',k'=1-k:=⟨_,rfl⟩;have aE:(1:Int)-(k:Int)=(k':Int):=CG
   have ah:k'<js[j].ends.length:=CG
   have HE:Hid (cP js ⟨sp,sw⟩=(aD js[j].ends[k'],true)):=by
    unfold Hid;rw [HF.out,if_pos (by rw [cu hj];exact t),<-ag,du hj ah]
   clear ag
   go_upto_region 5 with fail
   generalize hU:World.alloc wc _=U;have n:Cx wc U:=by rw [<-hU];exact blo
   have O:=aa (L.out.trans (n.mono L.out.size));obtain ⟨b1,x,ao,al⟩:=(hT.out.net.J.below O.out).2.2.resolve_left (nz hj);obtain ⟨_,_,ea,ec,m3,m4⟩:=al j hj;obtain ⟨b2,m,rfl,y⟩:=m4.2.resolve_left (fun h=>by rw [h] at ad;simp at ad)
   obtain ⟨m5,m6⟩:=y k' ah;subst ao;have z:Hid (∀ u:World,Calls prog 169 #[.agg #[.int .i64 js[j].ends[k'].CB,.int .i64 js[j].ends[k'].side]] u fun e w'=>e = .returned (bC (aD js[j].ends[k']))/\Cx u w'):=fun u=>kh _ _ u
   have aF:(j:Int)<js.length:=CG
   have ap:(k':Int)<js[j].ends.length:=CG
   generalize js[j].ends[k']=en at m5 m6 z HE;obtain ⟨e1,e2⟩:=en;generalize js[j].ends.length=nl at m3 ap;dsimp only at m5 m6 z;replace d0:=cell_later n d0;replace d1:=cell_later n d1;replace y1:=cell_later n y1;have Q5:=aa (Q4.out.of_block (n.block _ Q4.out.lt));have aq:=ai m3;have T:=ai m5;have ar:=ai d0;have av:=ai y1;dsimp only at aq T ar av;clear al y m4 hU n d2 s0 s1 f0 f1 ac Q4 ab hK;obtain ⟨S5,l⟩:∃ S:World->Prop,∀ u,S u↔Cx U u:=⟨_,fun _=>Iff.rfl⟩
   have r0:∀ u:an S5,World.cell? u.val ⟨b,0,none⟩=some (.int .i64 (j:Int)):=fun u=>cell_later ((l u.val).1 u.2) d0
   have r1:∀ u:an S5,World.cell? u.val ⟨b,1,none⟩=some (.int .i64 (k:Int)):=fun u=>cell_later ((l u.val).1 u.2) d1
   have r2:∀ u:an S5,World.cell? u.val ⟨K,1,none⟩=some (.slice (some ⟨b1,x,none⟩) js.length jc):=fun u=>cell_later ((l u.val).1 u.2) y1
   have r3:∀ u:an S5,World.cell? u.val ⟨b1,x+j*3+2,none⟩=some (.slice (some ⟨b2,m,none⟩) nl ec):=fun u=>cell_later ((l u.val).1 u.2) m3
   have r4:∀ u:an S5,World.cell? u.val ⟨b2,m+k'*2,none⟩=some (.int .i64 e1):=fun u=>cell_later ((l u.val).1 u.2) m5
   have r5:∀ u:an S5,World.cell? u.val ⟨b2,m+k'*2+1,none⟩=some (.int .i64 e2):=fun u=>cell_later ((l u.val).1 u.2) m6
   have d:S5 U.drew:=(l _).2 (CV.drew);have hne:=aQ d;clear l;refine ic (fun w' => ∃ u:an S5,w'=u.val) 15 CH CH (ak d) ?_
   (refine ae 0 ?_;intro K hK;go_big_quiet_op;go_big_quiet_on);(refine ae 1 ?_;intro K hK;go_big_quiet_op;go_big_quiet_on);(refine ae 2 ?_;intro K hK;go_big_quiet_op;go_big_quiet_on);(refine ae 3 ?_;intro K hK;go_big_quiet_op;go_big_quiet_on);(refine ae 4 ?_;intro K hK;go_big_quiet_op;go_big_quiet_on);(refine ae 5 ?_;intro K hK;go_big_quiet_op;go_big_quiet_on);(refine ae 6 ?_;intro K hK;go_big_quiet_op;go_big_quiet_on);(refine ae 7 ?_;intro K hK;go_big_quiet_op;go_big_quiet_on);(refine ae 8 ?_;intro K hK;go_big_quiet_op;go_big_quiet_on);(refine ae 9 ?_;intro K hK;go_big_quiet_op;go_big_quiet_on);(refine ae 10 ?_;intro K hK;go_big_quiet_op;go_big_quiet_on);(refine ae 11 ?_;intro K hK;go_big_quiet_op;go_big_quiet_on);(refine ae 12 ?_;intro K hK;go_big_quiet_op;go_big_quiet_on);(refine ae 13 ?_;intro K hK;go_big_quiet_op;go_big_quiet_on);(refine ae 14 ?_;intro K hK;go_big_quiet_op;go_big_quiet_on)
   refine a9 ?_;clear r0 r1 r2 r3 r4 r5 hne d;obtain ⟨o,aw⟩:∃ o,aD ⟨e1,e2⟩=o:=⟨_,rfl⟩;rw [aw] at z HE;unfold bC at z
   go_wp2_with (go_at_call 169;refine (z.out _).mono ?_;rintro e w6 ⟨rfl,A⟩;have X:Cx U w6:=CV.drew.trans A;have Q6:=aa (Q5.out.of_block (X.block _ Q5.out.lt));have aG:=aa (O.out.trans (X.mono O.out.size));have s0:=Q6.out.cell (i:=0) CG;have s1:=Q6.out.cell (i:=1) CG;have f0:=Q6.out.frozen 0;have f1:=Q6.out.frozen 1;have ac:=Q6.out.lt;clear A X)
   have HR:=aa ((Q6.out.set 0 (.int .i64 o.CB)).set 1 (.int .i64 o.side));have t0:=HR.out.cell (i:=0) CG
   have t1:=HR.out.cell (i:=1) CG
   simp only [] at t0 t1;exact bodyPost_ret (v:=.tuple #[.agg #[.int .i64 o.CB,.int .i64 o.side],.bool true]) (by simp [results,results137,go_sem,t0,t1]) rfl ⟨by rw [HE.out],blo⟩
  ·have N:∀ u:World,(Instr.typeAssert (.iface (cj (aH js j)) (.agg #[])) 149 206 true).run prog u = .ok (.tuple #[.agg #[],.bool false]) u:=fun u=>by rw [isP u,decide_eq_false t]
   have HE:Hid (cP js ⟨sp,sw⟩=(⟨0,0⟩,false)):=by unfold Hid;rw [HF.out,if_neg t]
   generalize cj (aH js j)=kt at N d2;clear HF
   go_wp2_with fail
   have HR:=aa (((Q4.out.set 0 (.int .i64 0)).set 1 (.int .i64 0)).alloc (Obj.cells #[] 206));have t0:=HR.out.cell (i:=0) CG
   have t1:=HR.out.cell (i:=1) CG
   simp only [] at t0 t1;have aI:=L.out;exact bodyPost_ret (v:=.tuple #[.agg #[.int .i64 0,.int .i64 0],.bool false]) (by simp [results,results137,go_sem,t0,t1]) rfl ⟨by rw [HE.out],blo⟩
theorem bo.speeds {ps:List af}{js:List aj}{ss:List af}(R:bo ps js ss):∀ k (hk:k<ss.length),0<=ss[k].CD/\ss[k].CD<=10000000:=by
 intro k hk;obtain ⟨p,hp,_,_,h3,h4⟩:=R.sig k hk;have:=(R.plen p hp).2;omega
theorem uw (a b:Int)(n:Nat)(w:World):(Instr.field 153 (.agg #[.int .i64 a,.int .i64 b,.iface n (.agg #[])]) 2).run prog w = .ok (.iface n (.agg #[])) w:=CH
theorem y9 (K M:Nat)(pa ja sa:Option Addr)(pc jc sc:Nat)(ps:List af)(js:List aj)(ss:List af)(R:Hid (bo ps js ss))(d:cH)(p:aw)(pos:Int)(w:World)(hT:Hid (cB w K M pa ja sa pc jc sc ps js ss))(h:Hid (bI w d p))(h0:0<p.CE.length)(hv:Hid (eR ps (cZ p)))(hp0:0<=pos)(hp1:pos<=10000000):
  Calls prog 131 #[.pointer (some ⟨K,0,none⟩),dB d p,.int .i64 pos] w fun e w'=>e = .returned (.tuple #[.int .i64 (ed js ss p pos).stop,.bool (ed js ss p pos).ended])/\Cx w w':=by
 obtain ⟨ls,x⟩:∃ ls,cZ p=ls:=⟨_,rfl⟩;rw [x] at hv;have r:Hid (∀ u:World,Cx w u->Calls prog 134 #[dB d p] u fun e w'=>e = .returned (bC ls)/\Cx u w'):=fun u hu=>by
  rw [<-x];exact o9 d p u (h.out.below hu) h0
 have y:Hid (∀ u:World,Cx w u->Calls prog 132 #[dB d p] u fun e w'=>e = .returned (.bool (di p))/\Cx u w'):=fun u hu=>oy d p u (h.out.below hu) h0
 obtain ⟨nx,C⟩:∃ nx,bi ss ls.CB ls.side pos ss.length=nx:=⟨_,rfl⟩;have z:Hid (∀ u:World,Cx w u->Calls prog 166 #[.pointer (some ⟨K,0,none⟩),bC ls,.int .i64 pos] u fun e w'=>e = .returned (.int .i64 nx)/\Cx u w'):=fun u hu=>by
  obtain ⟨q,hq,h1,h2⟩:=hv.out;rw [<-C];exact qz K pa ja sa pc jc sc ps js ss ls.CB ls.side pos u (hT.out.net.below hu) h2 R.out.speeds hp0 hp1
 obtain ⟨es,A⟩:∃ es,au ls=es:=⟨_,rfl⟩;have I:Hid (bM ps es):=by unfold Hid;rw [<-A];exact dh hv.out
 obtain ⟨kd,D⟩:∃ kd,aH js (aO js es).1=kd:=⟨_,rfl⟩;have HX:Hid (ed js ss p pos=if 0<=nx then { p with stop:=nx,ended:=true } else if kd=1/\di p=false then { p with stop := -1,ended:=true } else { p with stop:=0,ended:=false }):=by
  unfold Hid ed;rw [x,C,A,D]
 have c3:=hT.out.c3;have hK:=ai c3;dsimp only at hK;have E:Hid (∀ u:World,Cx w u->(Instr.lookup 145 (.map (some M)) (bC es) false).run prog u = .ok (eV (aO js es).1 (aO js es).2 kd) u):=fun u hu=>by
  rw [<-D];exact (hT.out.below hu).lookup R.out I.out
 generalize (aO js es).1=j at E;generalize (aO js es).2=k at E;obtain ⟨sp,sw⟩:=ls;have J:Hid (∀ u:World,Calls prog 114 #[.agg #[.int .i64 sp,.int .i64 sw]] u fun e w'=>e = .returned (bC es)/\Cx u w'):=fun u=>by
  have hh:=jm sp sw u;rw [A] at hh;exact hh
 generalize Y:di p=rb at y HX;unfold bC at r z;dsimp only at r z;clear x C A D Y I hv h;unfold dB at r y ⊢
 go_enter func131,ntmps131
 go_upto_region 1 with fail
 generalize hW:World.alloc w _=W;have B:Cx w W:=by rw [<-hW];exact blo
 have x0:W.cell? ⟨w.heap.size,0,none⟩=some (.int .i64 p.start):=by rw [<-hW];simp [go_sem]
 have x1:W.cell? ⟨w.heap.size,1,none⟩=some (.int .i64 p.stop):=by rw [<-hW];simp [go_sem]
 have x2:W.cell? ⟨w.heap.size,2,none⟩=some (.bool p.ended):=by rw [<-hW];simp [go_sem]
 have x3:W.cell? ⟨w.heap.size,3,none⟩=some (.slice d.a0 p.CE.length d.c0):=by rw [<-hW];simp [go_sem]
 have x4:W.cell? ⟨w.heap.size,4,none⟩=some (.slice d.a1 p.CA.length d.c1):=by rw [<-hW];simp [go_sem]
 have x5:W.cell? ⟨w.heap.size,5,none⟩=some (.slice d.a2 p.Cy.length d.c2):=by rw [<-hW];simp [go_sem]
 have Z:w.heap.size<W.heap.size:=by rw [<-hW];simp
 have L:=aa (r.out W B);clear hW r
 go_upto_region 2 with (go_at_call 134;refine L.out.mono ?_;rintro e w2 ⟨rfl,F⟩)
 generalize hV:World.alloc w2 _=V;have b:Cx W V:=by rw [<-hV];exact F.trans (CU.mono F.size)
 have z0:V.cell? ⟨w2.heap.size,0,none⟩=some (.int .i64 sp):=by rw [<-hV];simp [go_sem]
 have z1:V.cell? ⟨w2.heap.size,1,none⟩=some (.int .i64 sw):=by rw [<-hV];simp [go_sem]
 have G:=ai z0;dsimp only at G;replace x0:=cell_later b x0;replace x1:=cell_later b x1;replace x2:=cell_later b x2;replace x3:=cell_later b x3;replace x4:=cell_later b x4;replace x5:=cell_later b x5;replace b:=B.trans (b.mono B.size);have N:=aa (z.out V b);generalize w2.heap.size=St at z0 z1 G ⊢;clear hV z F B L w2
 go_upto_region 3 with (go_at_call 166;refine N.out.mono ?_;rintro e w3 ⟨rfl,a⟩)
 replace z0:=cell_later a z0;replace z1:=cell_later a z1;replace x0:=cell_later a x0;replace x1:=cell_later a x1;replace x2:=cell_later a x2;replace x3:=cell_later a x3;replace x4:=cell_later a x4;replace x5:=cell_later a x5;replace a:=b.trans (a.mono b.size);have y3:=cell_later a c3;have H:=ai z0;have ab:=ai x0;dsimp only at H ab;have n:=aa a;clear b N G Z V W
 by_cases O:0<=nx
 ·have HE:Hid (ed js ss p pos={ p with stop:=nx,ended:=true }):=by unfold Hid;rw [HX.out,if_pos O]
  clear HX
  go_wp2_with fail
  exact bodyPost_ret (v:=.tuple #[.int .i64 nx,.bool true]) (by simp [results,results131,go_sem]) rfl ⟨by rw [HE.out],n.out⟩
 ·have HE:Hid (ed js ss p pos=if kd=1/\rb=false then { p with stop := -1,ended:=true } else { p with stop:=0,ended:=false }):=by unfold Hid;rw [HX.out,if_neg O]
  clear HX
  go_upto_region 5 with fail
  have hS:∀ u:World,Cx w3 u->Cx w u:=fun u hu=>n.out.trans (hu.mono n.out.size)
  obtain ⟨S,g⟩:∃ S:World->Prop,∀ u,S u↔Cx w3 u:=⟨_,fun _=>Iff.rfl⟩
  have i:=aa g;have r0:∀ u:an S,World.cell? u.val ⟨St,0,none⟩=some (.int .i64 sp):=fun u=>cell_later ((g u.val).1 u.2) z0
  have r1:∀ u:an S,World.cell? u.val ⟨St,1,none⟩=some (.int .i64 sw):=fun u=>cell_later ((g u.val).1 u.2) z1
  have r3:∀ u:an S,World.cell? u.val ⟨K,3,none⟩=some (.map (some M)):=fun u=>cell_later ((g u.val).1 u.2) y3
  have r4:∀ u:an S,(Instr.lookup 145 (.map (some M)) (bC es) false).run prog u.val = .ok (.agg #[.int .i64 (j:Int),.int .i64 (k:Int),.iface (cj kd) (.agg #[])]) u.val:=fun u=>E.out u.val (hS _ ((g u.val).1 u.2))
  have r5:∀ u:an S,(Instr.typeAssert (.iface (cj kd) (.agg #[])) 149 205 true).run prog u.val = .ok (.tuple #[.agg #[],.bool (decide (kd=1))]) u.val:=fun u=>isB u.val _ kd
  have s:S w3.drew:=(g _).2 (CV.drew);have hne:=aQ s;generalize T:decide (kd=1)=kb at r5;have U:=aa T;clear T;have r6:∀ u:an S,(Instr.field 153 (.agg #[.int .i64 (j:Int),.int .i64 (k:Int),.iface (cj kd) (.agg #[])]) 2).run prog u.val = .ok (.iface (cj kd) (.agg #[])) u.val:=fun u=>uw _ _ _ u.val
  generalize cj kd=kt at r4 r5 r6;clear g hS
  go_cut [11] (fun v wx=>v = .bool kb/\Cx w3 wx)
  case first =>
   refine bW 14 s ?_
   (refine ae 0 ?_;intro K hK;go_big_quiet_op;go_big_quiet_on);(refine ae 1 ?_;intro K hK;go_big_quiet_op;go_big_quiet_on);(refine ae 2 ?_;intro K hK;go_big_quiet_op;go_big_quiet_on);(refine ae 3 ?_;intro K hK;go_big_quiet_op;go_big_quiet_on);(refine ae 4 ?_;intro K hK;go_big_quiet_op;go_big_quiet_on)
   refine fh 5 12 (by rfl) (by rfl) CH CH CH ?_ ?_
   ·intro K hK
    go_wp2_with (go_at_call 114;refine (J.out _).mono ?_;rintro e w4 ⟨rfl,c⟩)
    have l:Cx w3 w4:=CV.drew.trans c;clear c;refine hK _ _ (ak ((i.out _).2 l)) ?_;clear hK K
    (refine ae 6 ?_;intro K hK;go_big_quiet_op;go_big_quiet_on);(refine ae 7 ?_;intro K hK;go_big_quiet_op;go_big_quiet_on);(refine ae 8 ?_;intro K hK;go_big_quiet_op;go_big_quiet_on);(refine ae 9 ?_;intro K hK;go_big_quiet_op;go_big_quiet_on);(refine ae 10 ?_;intro K hK;go_big_quiet_op;go_big_quiet_on);(refine ae 11 ?_;intro K hK;go_big_quiet_op;go_big_quiet_on)
    refine az 12 ?_;intro K hK
    go_wp2_with fail
    have m:Cx w3 (w4.alloc (Obj.cells #[] 205)):=l.trans (CU.mono l.size);refine hK _ _ (ak ((i.out _).2 m)) ?_;clear hK K;refine az 13 ?_;intro K hK
    go_wp2_with fail
    refine hK _ _ (ak ((i.out _).2 m)) ?_;clear hK K;refine a9 ?_;clear r0 r1 r3 r4 r5 r6 s hne
    go_wp2_with fail
    go_meet
    exact ⟨rfl,m⟩
   ·intro K hK
    go_wp2_with fail
    have a:Cx w3 (w3.alloc (Obj.cells #[] 205)).drew:=CU.drew;refine hK _ _ (ak ((i.out _).2 a)) ?_;clear hK K;refine az 5 ?_;intro K hK
    go_wp2_with (go_at_call 114;refine (J.out _).mono ?_;rintro e w4 ⟨rfl,c⟩)
    have l:Cx w3 w4:=a.trans (c.mono a.size);clear c;refine hK _ _ (ak ((i.out _).2 l)) ?_;clear hK K
    (refine ae 6 ?_;intro K hK;go_big_quiet_op;go_big_quiet_on);(refine ae 7 ?_;intro K hK;go_big_quiet_op;go_big_quiet_on);(refine ae 8 ?_;intro K hK;go_big_quiet_op;go_big_quiet_on);(refine ae 9 ?_;intro K hK;go_big_quiet_op;go_big_quiet_on);(refine ae 10 ?_;intro K hK;go_big_quiet_op;go_big_quiet_on);(refine ae 11 ?_;intro K hK;go_big_quiet_op;go_big_quiet_on)
    refine az 13 ?_;intro K hK
    go_wp2_with fail
    refine hK _ _ (ak ((i.out _).2 l)) ?_;clear hK K;refine a9 ?_;clear r0 r1 r3 r4 r5 r6 s hne
    go_wp2_with fail
    go_meet
    exact ⟨rfl,l⟩
  case rest =>
   obtain ⟨rfl,f⟩:=hcut;replace x0:=cell_later f x0;replace x1:=cell_later f x1;replace x2:=cell_later f x2;replace x3:=cell_later f x3;replace x4:=cell_later f x4;replace x5:=cell_later f x5;have o:=aa (n.out.trans (f.mono n.out.size));have ac:=ai x0;dsimp only at ac;have X:=aa (y.out wc o.out);clear r0 r1 r3 r4 r5 r6 s hne f n y z0 z1 y3 i;cases kb with
   | false =>
    have t:Hid (ed js ss p pos={ p with stop:=0,ended:=false }):=by unfold Hid;rw [HE.out,if_neg (fun h=>by have:=of_decide_eq_false U.out;exact this h.1)]
    clear HE
    go_wp2_with fail
    exact bodyPost_ret (v:=.tuple #[.int .i64 0,.bool false]) (by simp [results,results131,go_sem]) rfl ⟨by rw [t.out],o.out⟩
   | true =>
    cases rb with
    | true =>
     have t:Hid (ed js ss p pos={ p with stop:=0,ended:=false }):=by unfold Hid;rw [HE.out,if_neg (fun h=>by cases h.2)]
     clear HE
     go_wp2_with (go_at_call 132;refine X.out.mono ?_;rintro e w5 ⟨rfl,m⟩)
     exact bodyPost_ret (v:=.tuple #[.int .i64 0,.bool false]) (by simp [results,results131,go_sem]) rfl ⟨by rw [t.out],o.out.trans (m.mono o.out.size)⟩
    | false =>
     have t:Hid (ed js ss p pos={ p with stop := -1,ended:=true }):=by unfold Hid;rw [HE.out,if_pos ⟨of_decide_eq_true U.out,rfl⟩]
     clear HE
     go_wp2_with (go_at_call 132;refine X.out.mono ?_;rintro e w5 ⟨rfl,m⟩)
     exact bodyPost_ret (v:=.tuple #[.int .i64 (-1),.bool true]) (by simp [results,results131,go_sem]) rfl ⟨by rw [t.out],o.out.trans (m.mono o.out.size)⟩
end Go.Proofs.YtmkdgnmmebldgaaGreatDoor
namespace Go.Proofs.YtmkdgnmmebldgaaGreatDoor
open Go.RowKit Go.Deep
variable {B F n:Nat}{a:Option Addr}{v v':Value}{w w':World}
def gE (x:aL × al):List Value:=[.int .i64 x.2.start,.int .i64 x.2.stop,.slice x.1.a0 x.2.CE.length x.1.c0,.slice x.1.a1 x.2.CA.length x.1.c1,.slice x.1.a2 x.2.Cy.length x.1.c2,.slice x.1.a3 x.2.CF.length x.1.c3,.slice x.1.a4 x.2.over.length x.1.c4,.slice x.1.a5 x.2.Cz.length x.1.c5]
def fG (pr:List (aL × al)):List Value:=pr.flatMap gE
theorem pH (pr:List (aL × al))(x:aL × al):fG (pr++[x])=fG pr++gE x:=by simp [fG]
def iQ (w:World)(k:Nat):Prop := ∃ cur,w.heap[k]? = some (.cells cur 44 (0,0))
def iy (w:World)(F:Nat)(a:Option Addr)(n:Nat):Prop:=n=0\/∀ b off,a=some ⟨b,off,none⟩->b≠F/\b<w.heap.size/\¬ iQ w b
structure Eff (F:Nat)(v v':Value)(w w':World):Prop where
 only:ag (fun k=>k=F\/v.ownBlock=some k) w w'
 tame:dj w v v'
 rows:∀ k,v.ownBlock=some k->F<k/\iQ w k
abbrev n9:Value:=.slice none 0 0
theorem Eff.of_below (h:Cx w w'):Eff F n9 n9 w w':=⟨ag.of_below h,dj.refl _ _,fun _ h=>by cases h⟩
theorem Eff.size (h:Eff F v v' w w'):w.heap.size<=w'.heap.size:=ag.size h.only
theorem Eff.trans {v1 v2:Value}{a b c:World}(h:Eff F v v1 a b)(k:Eff F v1 v2 b c):Eff F v v2 a c:=
 ⟨⟨k.only.os.trans h.only.os,k.only.tape.trans h.only.tape,k.only.output.trans h.only.output,Nat.le_trans h.size k.size,fun x hx hn=>by
  refine (k.only.block x (Nat.lt_of_lt_of_le hx h.size) ?_).trans (h.only.block x hx hn);rintro (h1 | h1)
  ·exact hn (Or.inl h1)
  ·rcases h.tame x h1 with h2 | h2
   ·exact hn (Or.inr h2)
   ·omega⟩,h.tame.trans k.tame h.size,h.rows⟩
theorem Eff.later {v1:Value}{a b c:World}(h:Eff F v v1 a b)(k:Cx b c):Eff F v v1 a c:=
 ⟨h.only.trans (ag.of_below k),h.tame,h.rows⟩
theorem Eff.set (o:Nat)(u:Value):Eff F n9 n9 w (w.setCell ⟨F,o,none⟩ u):=⟨ag.setCell (ag.refl _ _) (p:=⟨F,o,none⟩) (Or.inl (Or.inl rfl)) u,dj.refl _ _,fun _ h=>by cases h⟩
theorem Eff.below (h:Eff F v v' w w')(hB:B<=F)(hz:F<w.heap.size):Below B w w':=
 ⟨h.only.os,h.only.tape,h.only.output,h.size,fun x hx=>h.only.block x CG (by
  rintro (h1 | h1)
  ·omega
  ·have:=(h.rows x h1).1;omega)⟩
theorem Eff.block (h:Eff F v v' w w'){b:Nat}(h1:b≠F)(h2:b<w.heap.size)(h3:v.ownBlock≠some b):w'.heap[b]? = w.heap[b]? := h.only.block b h2 (by
 rintro (h4 | h4)
 ·exact h1 h4
 ·exact h3 h4)
theorem Eff.blockR (h:Eff F v v' w w'){b:Nat}(h1:b≠F)(h2:b<w.heap.size)(h3:¬ iQ w b):w'.heap[b]? = w.heap[b]? := h.block h1 h2 (fun e=>h3 (h.rows b e).2)
theorem iy.kept (h:iy w F a n)(he:Eff F v v' w w'):iy w' F a n:=by
 rcases h with h | h
 ·exact Or.inl h
 ·refine Or.inr (fun b off e=>?_)
  obtain ⟨h1,h2,h3⟩:=h b off e;have hb:=he.blockR h1 h2 h3;exact ⟨h1,Nat.lt_of_lt_of_le h2 he.size,fun ⟨cur,hc⟩=>h3 ⟨cur,by rw [<-hb];exact hc⟩⟩
theorem iv {e s:Nat}{c:Nat}{xs:List Value}(h:w.ownsRow B e s (.slice a n c) n xs)(he:e≠44)(hB:F<B):iy w F a n:=by
 rcases h.2 with ⟨h1,h2⟩ | ⟨g,d,f,h1,h2,h3,_⟩
 ·exact Or.inl h2
 ·refine Or.inr (fun b off ea=>?_)
  cases h1;cases ea;refine ⟨CG,(Array.getElem?_eq_some_iff.1 h3).1,fun ⟨cur',h4⟩=>?_⟩
  rw [h3] at h4;simp only [Option.some.injEq,Obj.cells.injEq] at h4;exact he h4.2.1
theorem zJ {s:Nat}{xs:List Value}(h:w.ownsRow B 44 s v n xs){k:Nat}(hk:v.ownBlock=some k):B<=k/\iQ w k:=by
 rcases h.2 with ⟨h1,h2⟩ | ⟨g,b,a,h1,h2,h3,_⟩
 ·rw [h1] at hk;cases hk
 ·rw [h1] at hk;simp only [Value.ownBlock,Option.some.injEq] at hk;subst hk;exact ⟨h2,a,h3⟩
structure fH (w:World)(F:Nat)(d:aL)(r:al):Prop where
 lists:bq w d r
 n0:iy w F d.a0 r.CE.length
 n1:iy w F d.a1 r.CA.length
 n2:iy w F d.a2 r.Cy.length
 n3:iy w F d.a3 r.CF.length
 n4:iy w F d.a4 r.over.length
 n5:iy w F d.a5 r.Cz.length
theorem iy.same {α:Type}{L:List α}(h:iy w F a L.length)(he:Eff F v v' w w'):L=[]\/∀ b off,a=some ⟨b,off,none⟩->w'.heap[b]? = w.heap[b]? := by
 rcases h with h | h
 ·exact Or.inl (List.eq_nil_of_length_eq_zero h)
 ·exact Or.inr (fun b off e=>by obtain ⟨h1,h2,h3⟩:=h b off e;exact he.blockR h1 h2 h3)
theorem fH.kept {d:aL}{r:al}(h:fH w F d r)(he:Eff F v v' w w'):fH w' F d r:=
 ⟨⟨h.lists.CE.kept (h.n0.same he),h.lists.CA.kept (h.n1.same he),h.lists.Cy.kept (h.n2.same he),h.lists.CF.kept (h.n3.same he),h.lists.over.kept (h.n4.same he),h.lists.Cz.kept (h.n5.same he),h.lists.nil1⟩,h.n0.kept he,h.n1.kept he,h.n2.kept he,h.n3.kept he,h.n4.kept he,h.n5.kept he⟩
structure WS (w0 w:World)(F:Nat)(pa ja sa:Option Addr)(pc jc sc np nj ns:Nat)(over:Int)(xo:Option Addr)(yo t:Nat)(pr:List (aL × al)):Prop where
 base:Cx w0 w
 f:w0.heap.size<=F
 c0:w.cell? ⟨F,0,none⟩=some (.slice pa np pc)
 c1:w.cell? ⟨F,1,none⟩=some (.slice ja nj jc)
 c2:w.cell? ⟨F,2,none⟩=some (.slice sa ns sc)
 c3:w.cell? ⟨F,3,none⟩=some (.int .i64 over)
 c4:w.cell? ⟨F,4,none⟩=some (.slice xo pr.length yo)
 z4:w.frozen? ⟨F,4,none⟩=false
 c5:w.cell? ⟨F,5,none⟩=some (.int .i64 (t:Int))
 z5:w.frozen? ⟨F,5,none⟩=false
 s6:∃ v,w.cell? ⟨F,6,none⟩=some v
 z6:w.frozen? ⟨F,6,none⟩=false
 own:w.ownsRow (F+1) 44 8 (.slice xo pr.length yo) pr.length (fG pr)
 keep:∀ x ∈ pr,fH w F x.1 x.2
section
variable {w0 w w':World} {F:Nat} {pa ja sa:Option Addr} {pc jc sc np nj ns:Nat} {over:Int} {xo:Option Addr} {yo t:Nat} {pr:List (aL × al)}
theorem WS.lt (h:WS w0 w F pa ja sa pc jc sc np nj ns over xo yo t pr):F<w.heap.size:=ai h.c0
theorem WS.below (h:WS w0 w F pa ja sa pc jc sc np nj ns over xo yo t pr)(hb:Cx w w'):WS w0 w' F pa ja sa pc jc sc np nj ns over xo yo t pr:=by
 obtain ⟨v,hv⟩:=h.s6;exact ⟨h.base.trans (hb.mono h.base.size),h.f,cell_later hb h.c0,cell_later hb h.c1,cell_later hb h.c2,cell_later hb h.c3,cell_later hb h.c4,(hb.frozen (p:=⟨F,4,none⟩) h.lt).trans h.z4,cell_later hb h.c5,(hb.frozen (p:=⟨F,5,none⟩) h.lt).trans h.z5,⟨v,cell_later hb hv⟩,(hb.frozen (p:=⟨F,6,none⟩) h.lt).trans h.z6,aq h.own hb,fun x hx=>(h.keep x hx).kept (Eff.of_below hb)⟩
theorem WS.inc (h:WS w0 w F pa ja sa pc jc sc np nj ns over xo yo t pr)(t':Nat):WS w0 (w.setCell ⟨F,5,none⟩ (.int .i64 (t':Int))) F pa ja sa pc jc sc np nj ns over xo yo t' pr:=by
 obtain ⟨v,hv⟩:=h.s6;have hc:∀ {o:Nat} {u:Value},o≠5->w.cell? ⟨F,o,none⟩=some u->(w.setCell ⟨F,5,none⟩ (.int .i64 (t':Int))).cell? ⟨F,o,none⟩=some u:=fun ho hc=>by
  rw [World.cell?_setCell_other _ _ _ _ CP]
  exact hc
 refine ⟨h.base.setCell (p:=⟨F,5,none⟩) h.f _,h.f,hc CG h.c0,hc CG h.c1,hc CG h.c2,hc CG h.c3,hc CG h.c4,?_,World.cell?_setCell_same _ _ _ h.c5,?_,⟨v,hc CG hv⟩,?_,ownsRow_setCell_below h.own (Nat.lt_succ_self F) _,fun x hx=>(h.keep x hx).kept (Eff.set 5 _)⟩
 ·rw [World.frozen?_setCell];exact h.z4
 ·rw [World.frozen?_setCell];exact h.z5
 ·rw [World.frozen?_setCell];exact h.z6
theorem WS.rows (h:WS w0 w F pa ja sa pc jc sc np nj ns over xo yo t pr):∀ k,(Value.slice xo pr.length yo).ownBlock=some k->F<k/\iQ w k:=fun _ hk=>zJ h.own hk
theorem WS.eff0 (h:WS w0 w F pa ja sa pc jc sc np nj ns over xo yo t pr)(hb:Cx w w'):Eff F (.slice xo pr.length yo) (.slice xo pr.length yo) w w':=⟨ag.of_below hb,dj.refl _ _,h.rows⟩
theorem WS.effI (h:WS w0 w F pa ja sa pc jc sc np nj ns over xo yo t pr)(u:Value):Eff F (.slice xo pr.length yo) (.slice xo pr.length yo) w (w.setCell ⟨F,5,none⟩ u):=⟨ag.setCell (ag.refl _ _) (p:=⟨F,5,none⟩) (Or.inl (Or.inl rfl)) u,dj.refl _ _,h.rows⟩
theorem WS.more (h:WS w0 w F pa ja sa pc jc sc np nj ns over xo yo t pr){fl:List aN}{news:Option Addr->Nat->List Value}{e:Ending}(hd:j5 F (F+1) pr.length (.slice xo pr.length yo) (fG pr) w fl news e w')
  (d:Option Addr->Nat->aL) (r:al) (hn:∀ a c,news a c=gE (d a c,r)) (hk:∀ a c v',w'.ownsRow w.heap.size 50 4 (.slice a fl.length c) fl.length (bO fl)->Eff F (.slice xo pr.length yo) v' w w'->fH w' F (d a c) r) :
  e = .returned (.tuple #[])/\∃ x' y' dd,WS w0 w' F pa ja sa pc jc sc np nj ns over x' y' t (pr++[(dd,r)])/\Eff F (.slice xo pr.length yo) (.slice x' (pr.length+1) y') w w':=by
 obtain ⟨he,x',y',xf,yf,h4,ho,hf,hT,hc,hz,h6,hO⟩:=hd;have hE:Eff F (.slice xo pr.length yo) (.slice x' (pr.length+1) y') w w':=⟨hO,hT,h.rows⟩;have el:(pr++[(d xf yf,r)]).length=pr.length+1:=CI
 rw [hn,<-pH] at ho;refine ⟨he,x',y',d xf yf,⟨h.base.trans (hE.below h.f h.lt),h.f,?_,?_,?_,?_,?_,?_,?_,?_,h6,?_,?_,?_⟩,hE⟩
 ·rw [hc 0 CG CG];exact h.c0
 ·rw [hc 1 CG CG];exact h.c1
 ·rw [hc 2 CG CG];exact h.c2
 ·rw [hc 3 CG CG];exact h.c3
 ·rw [el];exact h4
 ·rw [hz 4];exact h.z4
 ·rw [hc 5 CG CG];exact h.c5
 ·rw [hz 5];exact h.z5
 ·rw [hz 6];exact h.z6
 ·rw [el];exact ho
 ·intro x hx;rcases List.mem_append.1 hx with hx | hx
  ·exact (h.keep x hx).kept hE
  ·have:x=(d xf yf,r):=by simpa using hx
   rw [this];exact hk xf yf _ hf hE
end
def gG (ps:List af)(ss:List af)(i:Nat)(pre:List aM)(CA:List bg)(Cy:List Int):al:=⟨i,0,pre,CA,Cy,cg ps (bK ss i) pre,[],[]⟩
def fB (w0 w:World)(F:Nat)(pa ja sa:Option Addr)(pc jc sc:Nat)(ps:List af)(js:List aj)(ss:List af)(over:Int)(n t:Nat)(vo:Value)(rs:List al)(E:List aw)(e:Ending)(w':World):Prop:=
 e = .returned (.tuple #[])/\∃ xo yo t' pr,WS w0 w' F pa ja sa pc jc sc ps.length js.length ss.length over xo yo t' pr/\Eff F vo (.slice xo pr.length yo) w w'/\eO (dr ps js ss over) t rs E t' (pr.map Prod.snd)/\t'<=max (t+1) (20000+n)/\pr.length<=301
def iY (w0:World)(F:Nat)(pa ja sa:Option Addr)(pc jc sc:Nat)(ps:List af)(js:List aj)(ss:List af)(over:Int)(n:Nat):Prop:=
 ∀ (a0:Option Addr) (k0:Nat) (a1:Option Addr) (k1:Nat) (a2:Option Addr) (k2:Nat) (a3:Option Addr) (k3:Nat) (i:Nat) (pre:List aM) (p:Nat) (way:Int) (CA:List bg) (Cy:List Int) (pos:Int) (xo:Option Addr) (yo t:Nat) (pr:List (aL × al)) (w:World),ck ps js ss i pre ⟨p,way⟩ CA Cy pos->n+pre.length=2*ps.length+2 ->
  WS w0 w F pa ja sa pc jc sc ps.length js.length ss.length over xo yo t pr->fH w F ⟨a0,k0,a1,k1,a2,k2,a3,k3,none,0,none,0⟩ (gG ps ss i pre CA Cy)->ph ⟨a0,k0,a1,k1,a2,k2,a3,k3,none,0,none,0⟩ (gG ps ss i pre CA Cy)->t<=100000->pr.length<=301 ->
  Calls prog 35 #[.pointer (some ⟨F,0,none⟩),.agg #[.int .i64 i,.int .i64 0,.slice a0 pre.length k0,.slice a1 CA.length k1,.slice a2 Cy.length k2,.slice a3 pre.length k3,.slice none 0 0,.slice none 0 0],.int .i64 p,.int .i64 way,.int .i64 (bu ps p pos way)] w (fB w0 w F pa ja sa pc jc sc ps js ss over n t (.slice xo pr.length yo) (pr.map Prod.snd) (evs ps js ss n (aF i (pre++[⟨p,way⟩]) CA Cy) pos))
end Go.Proofs.YtmkdgnmmebldgaaGreatDoor
