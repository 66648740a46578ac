import Derived.Test.YtmkdgnmmebldgaaGreatDoorPk11
import Derived.Test.YtmkdgnmmebldgaaGreatDoorPk6
import Derived.Test.YtmkdgnmmebldgaaGreatDoorPk13
import Derived.Laws.BitsLemmas
import Derived.Test.YtmkdgnmmebldgaaGreatDoorPk12
import Derived.Deep.RegionHeld3
set_option maxRecDepth 100000
set_option maxHeartbeats 8000000
open Go.Proofs.Tryz
namespace Go.Proofs.YtmkdgnmmebldgaaGreatDoor
open Go.RowKit Go.Deep
theorem jm (p way:Int)(w:World):
  Calls prog 114 #[.agg #[.int .i64 p,.int .i64 way]] w fun e w'=>e = .returned (bC (au ⟨p,way⟩))/\Cx w w':=by
 by_cases h:way=1
 ·have HE:Hid (au ⟨p,way⟩=⟨p,1⟩):=by unfold Hid au;rw [if_pos h]
  have h1:(way==1)=true:=by simp [h]
  clear h
  go_enter func114,ntmps114
  go_wp2_with fail
  exact bodyPost_ret (v:=.agg #[.int .i64 p,.int .i64 1]) (by simp [results,results114,go_sem]) rfl ⟨(jS HE.out).symm,blo⟩
 ·have HE:Hid (au ⟨p,way⟩=⟨p,0⟩):=by unfold Hid au;rw [if_neg h]
  have h1:(way==1)=false:=by simp [h]
  clear h
  go_enter func114,ntmps114
  go_wp2_with fail
  exact bodyPost_ret (v:=.agg #[.int .i64 p,.int .i64 0]) (by simp [results,results114,go_sem]) rfl ⟨(jS HE.out).symm,blo⟩
theorem kh (p sd:Int)(w:World):
  Calls prog 169 #[.agg #[.int .i64 p,.int .i64 sd]] w fun e w'=>e = .returned (bC (aD ⟨p,sd⟩))/\Cx w w':=by
 by_cases h:sd=0
 ·have HE:Hid (aD ⟨p,sd⟩=⟨p,1⟩):=by unfold Hid aD;rw [if_pos h]
  have h1:(sd==0)=true:=by simp [h]
  clear h
  go_enter func169,ntmps169
  go_wp2_with fail
  exact bodyPost_ret (v:=.agg #[.int .i64 p,.int .i64 1]) (by simp [results,results169,go_sem]) rfl ⟨(jS HE.out).symm,blo⟩
 ·have HE:Hid (aD ⟨p,sd⟩=⟨p,-1⟩):=by unfold Hid aD;rw [if_neg h]
  have h1:(sd==0)=false:=by simp [h]
  clear h
  go_enter func169,ntmps169
  go_wp2_with fail
  exact bodyPost_ret (v:=.agg #[.int .i64 p,.int .i64 (-1)]) (by simp [results,results169,go_sem]) rfl ⟨(jS HE.out).symm,blo⟩
theorem jE (p sd:Int)(w:World)(h0:0<=sd)(h1:sd<=1):
  Calls prog 113 #[.agg #[.int .i64 p,.int .i64 sd]] w fun e w'=>e = .returned (bC (b7 ⟨p,sd⟩))/\Cx w w':=by
 go_enter func113,ntmps113
 go_wp2_with fail
 exact bodyPost_ret (v:=.agg #[.int .i64 p,.int .i64 (1-sd)]) (by simp [results,results113,go_sem]) rfl ⟨rfl,blo⟩
structure kT (w:World)(K:Nat)(pa ja sa:Option Addr)(pc jc sc:Nat)(ps:List af)(js:List aj)(ss:List af):Prop where
 c0:w.cell? ⟨K,0,none⟩=some (.slice pa ps.length pc)
 c1:w.cell? ⟨K,1,none⟩=some (.slice ja js.length jc)
 c2:w.cell? ⟨K,2,none⟩=some (.slice sa ss.length sc)
 P:ar w pa ps
 J:aP w ja js
 S:ar w sa ss
theorem kT.below {w w':World}{K:Nat}{pa ja sa:Option Addr}{pc jc sc:Nat}{ps:List af}{js:List aj}{ss:List af}(h:kT w K pa ja sa pc jc sc ps js ss)(hb:Cx w w'):kT w' K pa ja sa pc jc sc ps js ss:=
 ⟨cell_later hb h.c0,cell_later hb h.c1,cell_later hb h.c2,h.P.below hb,h.J.below hb,h.S.below hb⟩
theorem pJ (K:Nat)(pa ja sa:Option Addr)(pc jc sc:Nat)(ps:List af)(js:List aj)(ss:List af)(p:Nat)(sd:Int)(w:World)(h:Hid (kT w K pa ja sa pc jc sc ps js ss))(hp:p<ps.length):
  Calls prog 112 #[.pointer (some ⟨K,0,none⟩),.agg #[.int .i64 p,.int .i64 sd]] w fun e w'=>e = .returned (.int .i64 (aR ps ⟨p,sd⟩))/\Cx w w':=by
 have c0:=h.out.c0;have hK:=ai c0;dsimp only at hK
 by_cases h0:sd=0
 ·have HE:Hid (aR ps ⟨p,sd⟩=0):=by unfold Hid aR;rw [if_pos h0]
  have h1:(sd==0)=true:=by simp [h0]
  clear h0
  go_enter func112,ntmps112
  go_wp2_with fail
  exact bodyPost_ret (v:=.int .i64 0) (by simp [results,results112,go_sem]) rfl ⟨by rw [HE.out],blo⟩
 ·have HE:Hid (aR ps ⟨p,sd⟩=ps[p].len):=by unfold Hid aR;rw [if_neg h0,cT hp]
  have h1:(sd==0)=false:=by simp [h0]
  obtain ⟨b1,b,rfl,a⟩:=h.out.P.2.2.resolve_left (nz hp);obtain ⟨_,q2,_,_⟩:=a p hp;have c:=ai q2;dsimp only at c;have d:(p:Int)<ps.length:=CG
  clear h0 a
  go_enter func112,ntmps112
  go_wp2_with fail
  go_quiet (fail)
  go_wp2_with fail
  exact bodyPost_ret (v:=.int .i64 ps[p].len) (by simp [results,results112,go_sem]) rfl ⟨by rw [HE.out],blo⟩
theorem yY {CA:List bg}{j:Int}(h:∀ q (hq:q<CA.length),(CA[q].CB==j)=false):ce CA j=0:=by
 unfold ce;cases hf:CA.find? (fun l=>l.CB==j) with
 | none=>rfl
 | some l =>
  obtain ⟨q,hq,e⟩:=List.getElem_of_mem (List.mem_of_find?_eq_some hf);have h1:=h q hq;rw [e] at h1;have h2:=List.find?_some hf;rw [h1] at h2;cases h2
theorem qY (x:Option Addr)(y:Nat)(CA:List bg)(j:Int)(w:World)(h:Hid (aT w x CA)):
  Calls prog 177 #[.slice x CA.length y,.int .i64 j] w fun e w'=>e = .returned (.int .i64 (ce CA j))/\Cx w w':=by
 have hl:=h.out.1;unfold maxLen at hl
 go_enter func177,ntmps177
 go_wp2_with fail
 go_loopw [9] (fun i wr => ∃ (m:Nat),m<=CA.length/\i = .int .i64 m/\Hid (∀ q (hq:q<CA.length),q<m->(CA[q].CB==j)=false)/\Cx w wr) (fun i _=>CA.length-(intOf i).toNat)
 case atStart=>exact ⟨0,Nat.zero_le _,rfl,(fun q _ h=>absurd h (Nat.not_lt_zero q)),Below.refl _ _⟩
 case round =>
  obtain ⟨m,hm,rfl,HQ,hb⟩:=hrel;have f:=hb.size
  by_cases a:m<CA.length
  ·obtain ⟨b1,c,rfl,b⟩:=h.out.2.resolve_left (nz a);obtain ⟨c0,c1⟩:=(b.below hb) m a;clear b;cases t:(CA[m].CB==j)
   ·have d:Hid (∀ q (hq:q<CA.length),q<m+1->(CA[q].CB==j)=false):=by
     intro q hq g
     by_cases e:q<m
     ·exact HQ.out q hq e
     ·have:q=m:=CG
      subst this;exact t
    clear HQ
    go_wp2_with fail
    go_roundw
    case rel=>exact ⟨m+1,CG,by go_num,d,blo⟩
    case measure=>simp [intOf];omega
   ·have HX:=aa (t9 a t HQ.out);clear HQ
    go_wp2_with fail
    go_ret
    rw [HX.out];exact ⟨rfl,blo⟩
  ·have HX:Hid (ce CA j=0):=yY (fun q hq=>HQ.out q hq CG)
   clear HQ
   go_wp2_with fail
   go_ret
   rw [HX.out];exact ⟨rfl,hb⟩
theorem mM (l:Int)(w:World)(h0:0<=l)(h1:l<=3):Calls prog 118 #[.int .i64 l] w fun e w'=>e = .returned (.int .i64 (3-l))/\Cx w w':=by
 go_enter func118,ntmps118
 go_wp2_with fail
 go_ret
 exact ⟨rfl,Below.refl _ _⟩
theorem qm (p a b:Int)(w:World):Calls prog 115 #[.int .i64 p,.int .i64 a,.int .i64 b] w fun e w'=>e = .returned (jF (cD p a b))/\Cx w w':=by
 have hr:∀ (x y:Int),cD p a b=⟨p,x,y⟩->Ending.returned (.agg #[.int .i64 p,.int .i64 x,.int .i64 y]) = .returned (jF (cD p a b)):=fun x y e=>by rw [e];rfl
 have HR:=aa hr;clear hr;rcases Int.lt_trichotomy a b with h | h | h
 ·have HE:Hid (cD p a b=⟨p,a,b⟩):=by unfold Hid cD;rw [Int.min_eq_left CG,Int.max_eq_right CG]
  go_enter func115,ntmps115
  go_wp2_with fail
  exact bodyPost_ret (v:=.agg #[.int .i64 p,.int .i64 a,.int .i64 b]) (by simp [results,results115,go_sem]) rfl ⟨HR.out _ _ HE.out,blo⟩
 ·subst h;have HE:Hid (cD p a a=⟨p,a,a⟩):=by unfold Hid cD;rw [Int.min_self,Int.max_self]
  go_enter func115,ntmps115
  go_wp2_with fail
  exact bodyPost_ret (v:=.agg #[.int .i64 p,.int .i64 a,.int .i64 a]) (by simp [results,results115,go_sem]) rfl ⟨HR.out _ _ HE.out,blo⟩
 ·have HE:Hid (cD p a b=⟨p,b,a⟩):=by unfold Hid cD;rw [Int.min_eq_right CG,Int.max_eq_left CG]
  go_enter func115,ntmps115
  go_wp2_with fail
  exact bodyPost_ret (v:=.agg #[.int .i64 p,.int .i64 b,.int .i64 a]) (by simp [results,results115,go_sem]) rfl ⟨HR.out _ _ HE.out,blo⟩
theorem qz (K:Nat)(pa ja sa:Option Addr)(pc jc sc:Nat)(ps:List af)(js:List aj)(ss:List af)(p way pos:Int)(w:World)(h:Hid (kT w K pa ja sa pc jc sc ps js ss))(hw:way=1\/way = -1)(hs:Hid (∀ k (hk:k<ss.length),0<=ss[k].CD/\ss[k].CD<=10000000))(h0:0<=pos)(h1:pos<=10000000):
  Calls prog 166 #[.pointer (some ⟨K,0,none⟩),.agg #[.int .i64 p,.int .i64 way],.int .i64 pos] w fun e w'=>e = .returned (.int .i64 (bi ss p way pos ss.length))/\Cx w w':=by
 have c2:=h.out.c2;have hK:=ai c2;dsimp only at hK;have r:=h.out.S.1;unfold maxLen at r;have HW:=aa hw;clear hw
 go_enter func166,ntmps166
 go_wp2_with fail
 generalize hW:World.alloc w _=W;have n:Cx w W:=by rw [<-hW];exact blo
 have e0:W.cell? ⟨w.heap.size,0,none⟩=some (.int .i64 p):=by rw [<-hW];simp [go_sem]
 have e1:W.cell? ⟨w.heap.size,1,none⟩=some (.int .i64 way):=by rw [<-hW];simp [go_sem]
 have F:w.heap.size<W.heap.size:=by rw [<-hW];simp
 have k2:=cell_later n c2;have s:=aa (h.out.S.below n);clear hW c2
 go_loopw [7,15] (fun nx c wr => ∃ m:Nat,m<=ss.length/\c = .int .i64 m/\nx = .int .i64 (bi ss p way pos m)/\Cx W wr) (fun _ c _=>ss.length-(intOf c).toNat)
 case atStart=>exact ⟨0,Nat.zero_le _,rfl,rfl,Below.refl _ _⟩
 case round =>
  obtain ⟨m,hm,rfl,rfl,hb⟩:=hrel;have G:=hb.size
  by_cases i:m<ss.length
  ·obtain ⟨bs,os,rfl,a⟩:=s.out.2.2.resolve_left (nz i);obtain ⟨s0,s1,s2,s3⟩:=(a.below hb) m i;have f0:=cell_later hb e0;have f1:=cell_later hb e1;have f2:=cell_later hb k2;have t:=ai s0;have u:=ai f0;have v:=ai f2;dsimp only at t u v;obtain ⟨x,y⟩:=hs.out m i;have o:=fA ss p way pos m CG
   have H:(m:Int)<ss.length:=CG
   obtain ⟨d,hd⟩:∃ d,(ss[m].CD-pos)*way=d:=⟨_,rfl⟩;have I : -10000000<=d/\d<=10000000:=by rcases HW.out with rfl | rfl <;> omega
   have z:(ss[m].len != p)=true\/((ss[m].len != p)=false/\(ss[m].CC != way)=true)\/((ss[m].len != p)=false/\(ss[m].CC != way)=false/\d<=0)\/((ss[m].len != p)=false/\(ss[m].CC != way)=false/\0<d):=by
    cases (ss[m].len != p) <;> cases (ss[m].CC != way) <;> simp <;> omega
   rcases z with t1 | ⟨t1,t2⟩ | ⟨t1,t2,t3⟩ | ⟨t1,t2,t3⟩
   ·have HN:Hid (bi ss p way pos (m+1)=bi ss p way pos m):=gc i (Or.inl (by simpa using t1))
    clear a o
    go_wp2_with fail
    go_roundw
    case rel=>exact ⟨m+1,CG,by go_num,by rw [HN.out],blo⟩
    case measure=>simp [intOf];omega
   ·have HN:Hid (bi ss p way pos (m+1)=bi ss p way pos m):=gc i (Or.inr (Or.inl (by simpa using t2)))
    clear a o
    go_wp2_with fail
    go_roundw
    case rel=>exact ⟨m+1,CG,by go_num,by rw [HN.out],blo⟩
    case measure=>simp [intOf];omega
   ·have HN:Hid (bi ss p way pos (m+1)=bi ss p way pos m):=gc i (Or.inr (Or.inr CG))
    clear a o
    go_wp2_with fail
    go_roundw
    case rel=>exact ⟨m+1,CG,by go_num,by rw [HN.out],blo⟩
    case measure=>simp [intOf];omega
   ·have l:¬ (ss[m].len≠p\/ss[m].CC≠way\/(ss[m].CD-pos)*way<=0):=by
     have h1:ss[m].len=p:=by simpa using t1
     have h2:ss[m].CC=way:=by simpa using t2
     rintro (h | h | h)
     ·exact h h1
     ·exact h h2
     ·omega
    rcases o with g | ⟨b,q,_,g,_,_⟩
    ·have HN:Hid (bi ss p way pos (m+1)=m):=iU i l (Or.inl CG)
     rw [g];clear a l g
     go_wp2_with fail
     go_quiet (fail)
     go_wp2_with fail
     go_roundw
     case rel=>exact ⟨m+1,CG,by go_num,by rw [HN.out],blo⟩
     case measure=>simp [intOf];omega
    ·obtain ⟨_,_,q2,_⟩:=(a.below hb) b q;obtain ⟨A,B⟩:=hs.out b q;obtain ⟨f,hf⟩:∃ f,(ss[m].CD-ss[b].CD)*way=f:=⟨_,rfl⟩;have J : -10000000<=f/\f<=10000000:=by rcases HW.out with rfl | rfl <;> omega
     have j:bK ss (bi ss p way pos m)=ss[b].CD:=by rw [g];exact gL q
     have C:=ai q2;dsimp only at C;have L:(b:Int)<ss.length:=CG
     have D:¬ (b:Int)<0:=CG
     have M:IntKind.i64.wrap (ss[m].CD-ss[b].CD)=ss[m].CD-ss[b].CD:=by rw [IntKind.wrap_i64];omega
     have N:IntKind.i64.wrap f=f:=by rw [IntKind.wrap_i64];omega
     by_cases O:f<0
     ·have HN:Hid (bi ss p way pos (m+1)=m):=iU i l (Or.inr (by rw [j];omega))
      rw [g];clear a l g j
      go_wp2_with fail
      go_quiet (fail)
      go_wp2_with fail
      go_roundw
      case rel=>exact ⟨m+1,CG,by go_num,by rw [HN.out],blo⟩
      case measure=>simp [intOf];omega
     ·have HN:Hid (bi ss p way pos (m+1)=b):=by
       unfold Hid;rw [kU i l (by rw [j,g];omega)]
       exact g
      rw [g];clear a l g j
      go_wp2_with fail
      go_quiet (fail)
      go_wp2_with fail
      go_roundw
      case rel=>exact ⟨m+1,CG,by go_num,by rw [HN.out],blo⟩
      case measure=>simp [intOf];omega
  ·have E:m=ss.length:=CG
   subst E
   go_wp2_with fail
   go_ret
   exact ⟨rfl,n.trans (hb.mono n.size)⟩
theorem uv (a b:Int)(w:World):(Instr.field 46 (.agg #[.int .i64 a,.int .i64 b]) 1).run prog w = .ok (.int .i64 b) w:=CH
theorem ux (K:Nat)(pa ja sa:Option Addr)(pc jc sc:Nat)(ps:List af)(js:List aj)(ss:List af)(p sd way:Int)(w:World)(h:Hid (kT w K pa ja sa pc jc sc ps js ss))(hsd:(sd=0/\way = -1)\/(sd=1/\way=1))(hs:Hid (∀ k (hk:k<ss.length),0<=ss[k].CD/\ss[k].CD<=10000000)):
  Calls prog 138 #[.pointer (some ⟨K,0,none⟩),.agg #[.int .i64 p,.int .i64 sd]] w fun e w'=>e = .returned (.int .i64 (bE ss p way ss.length))/\Cx w w':=by
 have c2:=h.out.c2;have hK:=ai c2;dsimp only at hK;have s:=h.out.S.1;unfold maxLen at s;have t:Hid (∀ u:World,Calls prog 113 #[.agg #[.int .i64 p,.int .i64 sd]] u fun e w'=>e = .returned (.agg #[.int .i64 p,.int .i64 (1-sd)])/\Cx u w'):=fun u=>jE p sd u CG CG
 have v:Hid (∀ u:World,Calls prog 169 #[.agg #[.int .i64 p,.int .i64 (1-sd)]] u fun e w'=>e = .returned (.agg #[.int .i64 p,.int .i64 way])/\Cx u w'):=fun u=>by
  have he:bC (aD ⟨p,1-sd⟩) = .agg #[.int .i64 p,.int .i64 way]:=by
   rcases hsd with ⟨h1,h2⟩ | ⟨h1,h2⟩
   ·subst h1 h2;rfl
   ·subst h1 h2;rfl
  rw [<-he];exact kh p (1-sd) u
 have HW:Hid (way=1\/way = -1):=by unfold Hid;omega
 clear hsd
 go_enter func138,ntmps138
 have L:=uv
 go_wp2_with (first | (go_at_call 113;refine (t.out _).mono ?_;rintro e w1 ⟨rfl,l⟩) | (go_at_call 169;refine (v.out _).mono ?_;rintro e w2 ⟨rfl,o⟩;have n:Hid (Cx w w2):=((Below.trans CU (l.mono CI)).trans (o.mono (by have:=l.size;simp at this;omega)));have e0:w2.cell? ⟨w.heap.size,0,none⟩=some (.int .i64 p):=cell_later o (cell_later l CO);have x:=ai e0;dsimp only at x;clear l o;have k2:=cell_later n.out c2))
 have y:=aa (h.out.S.below n.out);clear c2
 go_loopw [6,18] (fun nx c wr => ∃ m:Nat,m<=ss.length/\c = .int .i64 m/\nx = .int .i64 (bE ss p way m)/\Cx w2 wr) (fun _ c _=>ss.length-(intOf c).toNat)
 case atStart=>exact ⟨0,Nat.zero_le _,rfl,rfl,Below.refl _ _⟩
 case round =>
  obtain ⟨m,hm,rfl,rfl,hb⟩:=hrel;have M:=hb.size
  by_cases i:m<ss.length
  ·obtain ⟨bs,os,rfl,a⟩:=y.out.2.2.resolve_left (nz i);obtain ⟨s0,s1,s2,s3⟩:=(a.below hb) m i;have f0:=cell_later hb e0;have f2:=cell_later hb k2;have z:=ai s0;have A:=ai f0;have B:=ai f2;dsimp only at z A B;obtain ⟨C,D⟩:=hs.out m i;have q:=gJ ss p way m CG
   have N:(m:Int)<ss.length:=CG
   have E:(ss[m].len != p)=true\/((ss[m].len != p)=false/\(ss[m].CC != way)=true)\/((ss[m].len != p)=false/\(ss[m].CC != way)=false):=by
    cases (ss[m].len != p) <;> cases (ss[m].CC != way) <;> simp
   rcases E with t1 | ⟨t1,t2⟩ | ⟨t1,t2⟩
   ·have HN:Hid (bE ss p way (m+1)=bE ss p way m):=jf i (Or.inl (by simpa using t1))
    clear a q
    go_wp2_with fail
    go_roundw
    case rel=>exact ⟨m+1,CG,by go_num,by rw [HN.out],blo⟩
    case measure=>simp [intOf];omega
   ·have HN:Hid (bE ss p way (m+1)=bE ss p way m):=jf i (Or.inr (by simpa using t2))
    clear a q
    go_wp2_with fail
    go_roundw
    case rel=>exact ⟨m+1,CG,by go_num,by rw [HN.out],blo⟩
    case measure=>simp [intOf];omega
   ·have j:¬ (ss[m].len≠p\/ss[m].CC≠way):=by
     have h1:ss[m].len=p:=by simpa using t1
     have h2:ss[m].CC=way:=by simpa using t2
     rintro (h | h)
     ·exact h h1
     ·exact h h2
    rcases q with d | ⟨b,r,_,d,_,_⟩
    ·have HN:Hid (bE ss p way (m+1)=m):=jb i j (Or.inl CG)
     rw [d];clear a j d
     go_wp2_with fail
     go_quiet (fail)
     go_wp2_with fail
     go_roundw
     case rel=>exact ⟨m+1,CG,by go_num,by rw [HN.out],blo⟩
     case measure=>simp [intOf];omega
    ·obtain ⟨_,_,q2,_⟩:=(a.below hb) b r;obtain ⟨F,G⟩:=hs.out b r;obtain ⟨f,hf⟩:∃ f,(ss[m].CD-ss[b].CD)*way=f:=⟨_,rfl⟩;have O : -10000000<=f/\f<=10000000:=by rcases HW.out with rfl | rfl <;> omega
     have g:bK ss (bE ss p way m)=ss[b].CD:=by rw [d];exact gL r
     have H:=ai q2;dsimp only at H;have R:(b:Int)<ss.length:=CG
     have I:¬ (b:Int)<0:=CG
     have T:IntKind.i64.wrap (ss[m].CD-ss[b].CD)=ss[m].CD-ss[b].CD:=by rw [IntKind.wrap_i64];omega
     have U:IntKind.i64.wrap f=f:=by rw [IntKind.wrap_i64];omega
     by_cases V:0<f
     ·have HN:Hid (bE ss p way (m+1)=m):=jb i j (Or.inr (by rw [g];omega))
      rw [d];clear a j d g
      go_wp2_with fail
      go_quiet (fail)
      go_wp2_with fail
      go_roundw
      case rel=>exact ⟨m+1,CG,by go_num,by rw [HN.out],blo⟩
      case measure=>simp [intOf];omega
     ·have HN:Hid (bE ss p way (m+1)=b):=by
       unfold Hid;rw [m8 i j (by rw [g,d];omega)]
       exact d
      rw [d];clear a j d g
      go_wp2_with fail
      go_quiet (fail)
      go_wp2_with fail
      go_roundw
      case rel=>exact ⟨m+1,CG,by go_num,by rw [HN.out],blo⟩
      case measure=>simp [intOf];omega
  ·have J:m=ss.length:=CG
   subst J
   go_wp2_with fail
   go_ret
   exact ⟨rfl,n.out.trans (hb.mono n.out.size)⟩
theorem mz (K:Nat)(pa ja sa:Option Addr)(pc jc sc:Nat)(ps:List af)(js:List aj)(ss:List af)(j t:Nat)(fr kd:Value)(w:World)(h:Hid (kT w K pa ja sa pc jc sc ps js ss))(hj:j<js.length)(ht:t<js[j].ends.length):
  Calls prog 167 #[.pointer (some ⟨K,0,none⟩),.agg #[.int .i64 j,fr,.int .i64 t,kd]] w fun e w'=>e = .returned (bC js[j].ends[t])/\Cx w w':=by
 have c1:=h.out.c1;have hK:=ai c1;dsimp only at hK;have d:=h.out.J.1;unfold maxLen at d;obtain ⟨bj,oj,rfl,a⟩:=h.out.J.2.2.resolve_left (nz hj);obtain ⟨_,_,ea,ec,c3,c4⟩:=a j hj;have f:=c4.1;unfold maxLen at f;obtain ⟨be,oe,rfl,c⟩:=c4.2.resolve_left (nz ht);obtain ⟨g0,g1⟩:=c t ht;have g:=ai c3;have i:=ai g0;dsimp only at g i;have k:(j:Int)<js.length:=CG
 have l:(t:Int)<js[j].ends.length:=CG
 clear a c c4
 go_enter func167,ntmps167
 go_wp2_with fail
 generalize hW:World.alloc (World.alloc w _) _=W;have b:Cx w W:=by rw [<-hW];exact blo
 have b0:W.cell? ⟨w.heap.size,0,none⟩=some (.int .i64 j):=by rw [<-hW];simp [go_sem]
 have b2:W.cell? ⟨w.heap.size,2,none⟩=some (.int .i64 t):=by rw [<-hW];simp [go_sem]
 have r0:W.cell? ⟨w.heap.size+1,0,none⟩=some (.int .i64 0):=by rw [<-hW];simp [go_sem]
 have r1:W.cell? ⟨w.heap.size+1,1,none⟩=some (.int .i64 0):=by rw [<-hW];simp [go_sem]
 have m:W.frozen? ⟨w.heap.size+1,0,none⟩=false:=by rw [<-hW];simp [go_sem]
 have n:W.frozen? ⟨w.heap.size+1,1,none⟩=false:=by rw [<-hW];simp [go_sem]
 replace c1:=cell_later b c1;replace c3:=cell_later b c3;replace g0:=cell_later b g0;replace g1:=cell_later b g1;clear hW;have n1:K≠w.heap.size+1:=CG
 have n2:bj≠w.heap.size+1:=CG
 have n3:be≠w.heap.size+1:=CG
 go_region
 all_goals
  go_wp2_with fail
  refine bodyPost_ret (v:=.agg #[.int .i64 js[j].ends[t].CB,.int .i64 js[j].ends[t].side]) (by simp [results,results167,go_sem,r0,r1]) rfl ⟨rfl,?_⟩
  exact blo
end Go.Proofs.YtmkdgnmmebldgaaGreatDoor
