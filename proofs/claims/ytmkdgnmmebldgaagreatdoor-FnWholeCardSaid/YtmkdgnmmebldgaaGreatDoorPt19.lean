import Derived.Test.YtmkdgnmmebldgaaGreatDoorPt11
import Derived.Test.YtmkdgnmmebldgaaGreatDoorPt6
import Derived.Test.YtmkdgnmmebldgaaGreatDoorPt14
import Derived.Laws.BitsLemmas
import Derived.Test.YtmkdgnmmebldgaaGreatDoorPt12
import Derived.Deep.RegionHeld3
set_option maxRecDepth 100000
set_option maxHeartbeats 8000000
namespace Go.Proofs.YtmkdgnmmebldgaaGreatDoor
open Go.RowKit Go.Deep
theorem ahead_any (p way:Int)(w:World):
  Calls Tryz.prog 114 #[.agg #[.int .i64 p,.int .i64 way]] w fun e w'=>e = .returned (endV (aheadE ⟨p,way⟩))∧Below w.heap.size w w':=by
 by_cases h:way=1
 ·have HE:Hid (aheadE ⟨p,way⟩=⟨p,1⟩):=by unfold Hid aheadE;rw [if_pos h]
  have h1:(way==1)=true:=by simp [h]
  clear h
  go_enter Tryz.func114,Tryz.ntmps114
  go_wp2_with fail
  exact bodyPost_ret (v:=.agg #[.int .i64 p,.int .i64 1]) (by simp [results,Tryz.results114,go_sem]) rfl ⟨(ret_end HE.out).symm,blo⟩
 ·have HE:Hid (aheadE ⟨p,way⟩=⟨p,0⟩):=by unfold Hid aheadE;rw [if_neg h]
  have h1:(way==1)=false:=by simp [h]
  clear h
  go_enter Tryz.func114,Tryz.ntmps114
  go_wp2_with fail
  exact bodyPost_ret (v:=.agg #[.int .i64 p,.int .i64 0]) (by simp [results,Tryz.results114,go_sem]) rfl ⟨(ret_end HE.out).symm,blo⟩
theorem stepFrom_any (p sd:Int)(w:World):
  Calls Tryz.prog 169 #[.agg #[.int .i64 p,.int .i64 sd]] w fun e w'=>e = .returned (endV (stepFromE ⟨p,sd⟩))∧Below w.heap.size w w':=by
 by_cases h:sd=0
 ·have HE:Hid (stepFromE ⟨p,sd⟩=⟨p,1⟩):=by unfold Hid stepFromE;rw [if_pos h]
  have h1:(sd==0)=true:=by simp [h]
  clear h
  go_enter Tryz.func169,Tryz.ntmps169
  go_wp2_with fail
  exact bodyPost_ret (v:=.agg #[.int .i64 p,.int .i64 1]) (by simp [results,Tryz.results169,go_sem]) rfl ⟨(ret_end HE.out).symm,blo⟩
 ·have HE:Hid (stepFromE ⟨p,sd⟩=⟨p,-1⟩):=by unfold Hid stepFromE;rw [if_neg h]
  have h1:(sd==0)=false:=by simp [h]
  clear h
  go_enter Tryz.func169,Tryz.ntmps169
  go_wp2_with fail
  exact bodyPost_ret (v:=.agg #[.int .i64 p,.int .i64 (-1)]) (by simp [results,Tryz.results169,go_sem]) rfl ⟨(ret_end HE.out).symm,blo⟩
theorem farEnd_any (p sd:Int)(w:World)(h0:0≤sd)(h1:sd≤1):
  Calls Tryz.prog 113 #[.agg #[.int .i64 p,.int .i64 sd]] w fun e w'=>e = .returned (endV (farE ⟨p,sd⟩))∧Below w.heap.size w w':=by
 go_enter Tryz.func113,Tryz.ntmps113
 go_wp2_with fail
 exact bodyPost_ret (v:=.agg #[.int .i64 p,.int .i64 (1-sd)]) (by simp [results,Tryz.results113,go_sem]) rfl ⟨rfl,blo⟩
structure TNet (w:World)(K:Nat)(pa ja sa:Option Addr)(pc jc sc:Nat)(ps:List MPiece)(js:List MJoint)(ss:List MPiece):Prop where
 c0:w.cell? ⟨K,0,none⟩=some (.slice pa ps.length pc)
 c1:w.cell? ⟨K,1,none⟩=some (.slice ja js.length jc)
 c2:w.cell? ⟨K,2,none⟩=some (.slice sa ss.length sc)
 P:PiecesAt w pa ps
 J:JointsAt w ja js
 S:PiecesAt w sa ss
theorem TNet.below {w w':World}{K:Nat}{pa ja sa:Option Addr}{pc jc sc:Nat}{ps:List MPiece}{js:List MJoint}{ss:List MPiece}(h:TNet w K pa ja sa pc jc sc ps js ss)(hb:Below w.heap.size w w'):TNet w' K pa ja sa pc jc sc ps js ss:=
 ⟨cell_later hb h.c0,cell_later hb h.c1,cell_later hb h.c2,h.P.below hb,h.J.below hb,h.S.below hb⟩
theorem at_any (K:Nat)(pa ja sa:Option Addr)(pc jc sc:Nat)(ps:List MPiece)(js:List MJoint)(ss:List MPiece)(p:Nat)(sd:Int)(w:World)(h:Hid (TNet w K pa ja sa pc jc sc ps js ss))(hp:p<ps.length):
  Calls Tryz.prog 112 #[.pointer (some ⟨K,0,none⟩),.agg #[.int .i64 p,.int .i64 sd]] w fun e w'=>e = .returned (.int .i64 (endAt ps ⟨p,sd⟩))∧Below w.heap.size w w':=by
 have c0:=h.out.c0
 have hK:=cellLt c0
 dsimp only at hK
 by_cases h0:sd=0
 ·have HE:Hid (endAt ps ⟨p,sd⟩=0):=by unfold Hid endAt;rw [if_pos h0]
  have h1:(sd==0)=true:=by simp [h0]
  clear h0
  go_enter Tryz.func112,Tryz.ntmps112
  go_wp2_with fail
  exact bodyPost_ret (v:=.int .i64 0) (by simp [results,Tryz.results112,go_sem]) rfl ⟨by rw [HE.out],blo⟩
 ·have HE:Hid (endAt ps ⟨p,sd⟩=ps[p].len):=by unfold Hid endAt;rw [if_neg h0,lenI_at hp]
  have h1:(sd==0)=false:=by simp [h0]
  obtain ⟨b1,off1,rfl,hpc⟩:=h.out.P.2.2.resolve_left (nz hp)
  obtain ⟨_,q2,_,_⟩:=hpc p hp
  have hz2:=cellLt q2
  dsimp only at hz2
  have hpi:(p:Int)<ps.length:=by omega
  clear h0 hpc
  go_enter Tryz.func112,Tryz.ntmps112
  go_wp2_with fail
  go_quiet (fail)
  go_wp2_with fail
  exact bodyPost_ret (v:=.int .i64 ps[p].len) (by simp [results,Tryz.results112,go_sem]) rfl ⟨by rw [HE.out],blo⟩
theorem lieF_zero {lies:List MLie}{j:Int}(h:∀ q (hq:q<lies.length),(lies[q].piece==j)=false):lieF lies j=0:=by
 unfold lieF
 cases hf:lies.find? (fun l=>l.piece==j) with
 | none=>rfl
 | some l =>
  obtain ⟨q,hq,e⟩:=List.getElem_of_mem (List.mem_of_find?_eq_some hf)
  have h1:=h q hq
  rw [e] at h1
  have h2:=List.find?_some hf
  rw [h1] at h2
  cases h2
theorem lieOf_any (x:Option Addr)(y:Nat)(lies:List MLie)(j:Int)(w:World)(h:Hid (EndsAt w x lies)):
  Calls Tryz.prog 177 #[.slice x lies.length y,.int .i64 j] w fun e w'=>e = .returned (.int .i64 (lieF lies j))∧Below w.heap.size w w':=by
 have hl:=h.out.1
 unfold maxLen at hl
 go_enter Tryz.func177,Tryz.ntmps177
 go_wp2_with fail
 go_loopw [9] (fun i wr => ∃ (m:Nat),m≤lies.length∧i = .int .i64 m∧Hid (∀ q (hq:q<lies.length),q<m→(lies[q].piece==j)=false)∧Below w.heap.size w wr) (fun i _=>lies.length-(intOf i).toNat)
 case atStart=>exact ⟨0,Nat.zero_le _,rfl,(fun q _ h=>absurd h (Nat.not_lt_zero q)),Below.refl _ _⟩
 case round =>
  obtain ⟨m,hm,rfl,HQ,hb⟩:=hrel
  have hbs:=hb.size
  by_cases hm':m<lies.length
  ·obtain ⟨b1,off1,rfl,hpc⟩:=h.out.2.resolve_left (nz hm')
   obtain ⟨c0,c1⟩:=(hpc.below hb) m hm'
   clear hpc
   cases t:(lies[m].piece==j)
   ·have HQ2:Hid (∀ q (hq:q<lies.length),q<m+1→(lies[q].piece==j)=false):=by
     intro q hq hqm
     by_cases e:q<m
     ·exact HQ.out q hq e
     ·have:q=m:=by omega
      subst this;exact t
    clear HQ
    go_wp2_with fail
    go_roundw
    case rel=>exact ⟨m+1,by omega,by go_num,HQ2,blo⟩
    case measure=>simp [intOf];omega
   ·have HX:=hidP (lieF_hit hm' t HQ.out)
    clear HQ
    go_wp2_with fail
    go_ret
    rw [HX.out]
    exact ⟨rfl,blo⟩
  ·have HX:Hid (lieF lies j=0):=lieF_zero (fun q hq=>HQ.out q hq (by omega))
   clear HQ
   go_wp2_with fail
   go_ret
   rw [HX.out]
   exact ⟨rfl,hb⟩
theorem otherLie_any (l:Int)(w:World)(h0:0≤l)(h1:l≤3):Calls Tryz.prog 118 #[.int .i64 l] w fun e w'=>e = .returned (.int .i64 (3-l))∧Below w.heap.size w w':=by
 go_enter Tryz.func118,Tryz.ntmps118
 go_wp2_with fail
 go_ret
 exact ⟨rfl,Below.refl _ _⟩
theorem partOf_any (p a b:Int)(w:World):Calls Tryz.prog 115 #[.int .i64 p,.int .i64 a,.int .i64 b] w fun e w'=>e = .returned (partV (partI p a b))∧Below w.heap.size w w':=by
 have hr:∀ (x y:Int),partI p a b=⟨p,x,y⟩→Ending.returned (.agg #[.int .i64 p,.int .i64 x,.int .i64 y]) = .returned (partV (partI p a b)):=fun x y e=>by rw [e];rfl
 have HR:=hidP hr
 clear hr
 rcases Int.lt_trichotomy a b with h | h | h
 ·have HE:Hid (partI p a b=⟨p,a,b⟩):=by unfold Hid partI;rw [Int.min_eq_left (by omega),Int.max_eq_right (by omega)]
  go_enter Tryz.func115,Tryz.ntmps115
  go_wp2_with fail
  exact bodyPost_ret (v:=.agg #[.int .i64 p,.int .i64 a,.int .i64 b]) (by simp [results,Tryz.results115,go_sem]) rfl ⟨HR.out _ _ HE.out,blo⟩
 ·subst h
  have HE:Hid (partI p a a=⟨p,a,a⟩):=by unfold Hid partI;rw [Int.min_self,Int.max_self]
  go_enter Tryz.func115,Tryz.ntmps115
  go_wp2_with fail
  exact bodyPost_ret (v:=.agg #[.int .i64 p,.int .i64 a,.int .i64 a]) (by simp [results,Tryz.results115,go_sem]) rfl ⟨HR.out _ _ HE.out,blo⟩
 ·have HE:Hid (partI p a b=⟨p,b,a⟩):=by unfold Hid partI;rw [Int.min_eq_right (by omega),Int.max_eq_left (by omega)]
  go_enter Tryz.func115,Tryz.ntmps115
  go_wp2_with fail
  exact bodyPost_ret (v:=.agg #[.int .i64 p,.int .i64 b,.int .i64 a]) (by simp [results,Tryz.results115,go_sem]) rfl ⟨HR.out _ _ HE.out,blo⟩
theorem nextSignal_any (K:Nat)(pa ja sa:Option Addr)(pc jc sc:Nat)(ps:List MPiece)(js:List MJoint)(ss:List MPiece)(p way pos:Int)(w:World)(h:Hid (TNet w K pa ja sa pc jc sc ps js ss))(hw:way=1∨way = -1)(hs:Hid (∀ k (hk:k<ss.length),0≤ss[k].speed∧ss[k].speed≤10000000))(h0:0≤pos)(h1:pos≤10000000):
  Calls Tryz.prog 166 #[.pointer (some ⟨K,0,none⟩),.agg #[.int .i64 p,.int .i64 way],.int .i64 pos] w fun e w'=>e = .returned (.int .i64 (nextB ss p way pos ss.length))∧Below w.heap.size w w':=by
 have c2:=h.out.c2
 have hK:=cellLt c2
 dsimp only at hK
 have hsl:=h.out.S.1
 unfold maxLen at hsl
 have HW:=hidP hw
 clear hw
 go_enter Tryz.func166,Tryz.ntmps166
 go_wp2_with fail
 generalize hW:World.alloc w _=W
 have hbW:Below w.heap.size w W:=by rw [← hW];exact blo
 have e0:W.cell? ⟨w.heap.size,0,none⟩=some (.int .i64 p):=by rw [← hW];simp [go_sem]
 have e1:W.cell? ⟨w.heap.size,1,none⟩=some (.int .i64 way):=by rw [← hW];simp [go_sem]
 have hzW:w.heap.size<W.heap.size:=by rw [← hW];simp
 have k2:=cell_later hbW c2
 have HSW:=hidP (h.out.S.below hbW)
 clear hW c2
 go_loopw [7,15] (fun nx c wr => ∃ m:Nat,m≤ss.length∧c = .int .i64 m∧nx = .int .i64 (nextB ss p way pos m)∧Below W.heap.size W wr) (fun _ c _=>ss.length-(intOf c).toNat)
 case atStart=>exact ⟨0,Nat.zero_le _,rfl,rfl,Below.refl _ _⟩
 case round =>
  obtain ⟨m,hm,rfl,rfl,hb⟩:=hrel
  have hbs:=hb.size
  by_cases hm':m<ss.length
  ·obtain ⟨bs,os,rfl,hpcs⟩:=HSW.out.2.2.resolve_left (nz hm')
   obtain ⟨s0,s1,s2,s3⟩:=(hpcs.below hb) m hm'
   have f0:=cell_later hb e0
   have f1:=cell_later hb e1
   have f2:=cell_later hb k2
   have hz0:=cellLt s0
   have hzf:=cellLt f0
   have hzk:=cellLt f2
   dsimp only at hz0 hzf hzk
   obtain ⟨hsp0,hsp1⟩:=hs.out m hm'
   have hnr:=nextB_range ss p way pos m (by omega)
   have hmi:(m:Int)<ss.length:=by omega
   obtain ⟨d,hd⟩:∃ d,(ss[m].speed-pos)*way=d:=⟨_,rfl⟩
   have hdb : -10000000≤d∧d≤10000000:=by rcases HW.out with rfl | rfl <;> omega
   have hcs:(ss[m].len != p)=true∨((ss[m].len != p)=false∧(ss[m].brake != way)=true)∨((ss[m].len != p)=false∧(ss[m].brake != way)=false∧d≤0)∨((ss[m].len != p)=false∧(ss[m].brake != way)=false∧0<d):=by
    cases (ss[m].len != p) <;> cases (ss[m].brake != way) <;> simp <;> omega
   rcases hcs with t1 | ⟨t1,t2⟩ | ⟨t1,t2,t3⟩ | ⟨t1,t2,t3⟩
   ·have HN:Hid (nextB ss p way pos (m+1)=nextB ss p way pos m):=nextB_skip hm' (Or.inl (by simpa using t1))
    clear hpcs hnr
    go_wp2_with fail
    go_roundw
    case rel=>exact ⟨m+1,by omega,by go_num,by rw [HN.out],blo⟩
    case measure=>simp [intOf];omega
   ·have HN:Hid (nextB ss p way pos (m+1)=nextB ss p way pos m):=nextB_skip hm' (Or.inr (Or.inl (by simpa using t2)))
    clear hpcs hnr
    go_wp2_with fail
    go_roundw
    case rel=>exact ⟨m+1,by omega,by go_num,by rw [HN.out],blo⟩
    case measure=>simp [intOf];omega
   ·have HN:Hid (nextB ss p way pos (m+1)=nextB ss p way pos m):=nextB_skip hm' (Or.inr (Or.inr (by omega)))
    clear hpcs hnr
    go_wp2_with fail
    go_roundw
    case rel=>exact ⟨m+1,by omega,by go_num,by rw [HN.out],blo⟩
    case measure=>simp [intOf];omega
   ·have hns:¬ (ss[m].len≠p∨ss[m].brake≠way∨(ss[m].speed-pos)*way≤0):=by
     have h1:ss[m].len=p:=by simpa using t1
     have h2:ss[m].brake=way:=by simpa using t2
     rintro (h | h | h)
     ·exact h h1
     ·exact h h2
     ·omega
    rcases hnr with hnb | ⟨b,hbl,_,hnb,_,_⟩
    ·have HN:Hid (nextB ss p way pos (m+1)=m):=nextB_take hm' hns (Or.inl (by omega))
     rw [hnb]
     clear hpcs hns hnb
     go_wp2_with fail
     go_quiet (fail)
     go_wp2_with fail
     go_roundw
     case rel=>exact ⟨m+1,by omega,by go_num,by rw [HN.out],blo⟩
     case measure=>simp [intOf];omega
    ·obtain ⟨_,_,q2,_⟩:=(hpcs.below hb) b hbl
     obtain ⟨hsb0,hsb1⟩:=hs.out b hbl
     obtain ⟨f,hf⟩:∃ f,(ss[m].speed-ss[b].speed)*way=f:=⟨_,rfl⟩
     have hfb : -10000000≤f∧f≤10000000:=by rcases HW.out with rfl | rfl <;> omega
     have hsig:sigAt ss (nextB ss p way pos m)=ss[b].speed:=by rw [hnb];exact sigAt_at hbl
     have hzq:=cellLt q2
     dsimp only at hzq
     have hbi:(b:Int)<ss.length:=by omega
     have hbi0:¬ (b:Int)<0:=by omega
     have hw1:IntKind.i64.wrap (ss[m].speed-ss[b].speed)=ss[m].speed-ss[b].speed:=by rw [IntKind.wrap_i64];omega
     have hw2:IntKind.i64.wrap f=f:=by rw [IntKind.wrap_i64];omega
     by_cases hlt:f<0
     ·have HN:Hid (nextB ss p way pos (m+1)=m):=nextB_take hm' hns (Or.inr (by rw [hsig];omega))
      rw [hnb]
      clear hpcs hns hnb hsig
      go_wp2_with fail
      go_quiet (fail)
      go_wp2_with fail
      go_roundw
      case rel=>exact ⟨m+1,by omega,by go_num,by rw [HN.out],blo⟩
      case measure=>simp [intOf];omega
     ·have HN:Hid (nextB ss p way pos (m+1)=b):=by
       unfold Hid
       rw [nextB_leave hm' hns (by rw [hsig,hnb];omega)]
       exact hnb
      rw [hnb]
      clear hpcs hns hnb hsig
      go_wp2_with fail
      go_quiet (fail)
      go_wp2_with fail
      go_roundw
      case rel=>exact ⟨m+1,by omega,by go_num,by rw [HN.out],blo⟩
      case measure=>simp [intOf];omega
  ·have hme:m=ss.length:=by omega
   subst hme
   go_wp2_with fail
   go_ret
   exact ⟨rfl,hbW.trans (hb.mono hbW.size)⟩
theorem field_step1 (a b:Int)(w:World):(Instr.field 46 (.agg #[.int .i64 a,.int .i64 b]) 1).run Tryz.prog w = .ok (.int .i64 b) w:=by kernel_rfl
theorem guardOf_any (K:Nat)(pa ja sa:Option Addr)(pc jc sc:Nat)(ps:List MPiece)(js:List MJoint)(ss:List MPiece)(p sd way:Int)(w:World)(h:Hid (TNet w K pa ja sa pc jc sc ps js ss))(hsd:(sd=0∧way = -1)∨(sd=1∧way=1))(hs:Hid (∀ k (hk:k<ss.length),0≤ss[k].speed∧ss[k].speed≤10000000)):
  Calls Tryz.prog 138 #[.pointer (some ⟨K,0,none⟩),.agg #[.int .i64 p,.int .i64 sd]] w fun e w'=>e = .returned (.int .i64 (guardB ss p way ss.length))∧Below w.heap.size w w':=by
 have c2:=h.out.c2
 have hK:=cellLt c2
 dsimp only at hK
 have hsl:=h.out.S.1
 unfold maxLen at hsl
 have HFE:Hid (∀ u:World,Calls Tryz.prog 113 #[.agg #[.int .i64 p,.int .i64 sd]] u fun e w'=>e = .returned (.agg #[.int .i64 p,.int .i64 (1-sd)])∧Below u.heap.size u w'):=fun u=>farEnd_any p sd u (by omega) (by omega)
 have HSF:Hid (∀ u:World,Calls Tryz.prog 169 #[.agg #[.int .i64 p,.int .i64 (1-sd)]] u fun e w'=>e = .returned (.agg #[.int .i64 p,.int .i64 way])∧Below u.heap.size u w'):=fun u=>by
  have he:endV (stepFromE ⟨p,1-sd⟩) = .agg #[.int .i64 p,.int .i64 way]:=by
   rcases hsd with ⟨h1,h2⟩ | ⟨h1,h2⟩
   ·subst h1 h2;rfl
   ·subst h1 h2;rfl
  rw [← he]
  exact stepFrom_any p (1-sd) u
 have HW:Hid (way=1∨way = -1):=by unfold Hid;omega
 clear hsd
 go_enter Tryz.func138,Tryz.ntmps138
 have hfs:=field_step1
 go_wp2_with (first | (go_at_call 113;refine (HFE.out _).mono ?_;rintro e w1 ⟨rfl,hb1⟩) | (go_at_call 169;refine (HSF.out _).mono ?_;rintro e w2 ⟨rfl,hb2⟩;have HB2:Hid (Below w.heap.size w w2):=((Below.trans ((Below.refl _ _).alloc (Nat.le_refl _) _) (hb1.mono (by simp))).trans (hb2.mono (by have:=hb1.size;simp at this;omega)));have e0:w2.cell? ⟨w.heap.size,0,none⟩=some (.int .i64 p):=cell_later hb2 (cell_later hb1 (by simp [go_sem]));have hz2:=cellLt e0;dsimp only at hz2;clear hb1 hb2;have k2:=cell_later HB2.out c2))
 have HSW:=hidP (h.out.S.below HB2.out)
 clear c2
 go_loopw [6,18] (fun nx c wr => ∃ m:Nat,m≤ss.length∧c = .int .i64 m∧nx = .int .i64 (guardB ss p way m)∧Below w2.heap.size w2 wr) (fun _ c _=>ss.length-(intOf c).toNat)
 case atStart=>exact ⟨0,Nat.zero_le _,rfl,rfl,Below.refl _ _⟩
 case round =>
  obtain ⟨m,hm,rfl,rfl,hb⟩:=hrel
  have hbs:=hb.size
  by_cases hm':m<ss.length
  ·obtain ⟨bs,os,rfl,hpcs⟩:=HSW.out.2.2.resolve_left (nz hm')
   obtain ⟨s0,s1,s2,s3⟩:=(hpcs.below hb) m hm'
   have f0:=cell_later hb e0
   have f2:=cell_later hb k2
   have hz0:=cellLt s0
   have hzf:=cellLt f0
   have hzk:=cellLt f2
   dsimp only at hz0 hzf hzk
   obtain ⟨hsp0,hsp1⟩:=hs.out m hm'
   have hnr:=guardB_range ss p way m (by omega)
   have hmi:(m:Int)<ss.length:=by omega
   have hcs:(ss[m].len != p)=true∨((ss[m].len != p)=false∧(ss[m].brake != way)=true)∨((ss[m].len != p)=false∧(ss[m].brake != way)=false):=by
    cases (ss[m].len != p) <;> cases (ss[m].brake != way) <;> simp
   rcases hcs with t1 | ⟨t1,t2⟩ | ⟨t1,t2⟩
   ·have HN:Hid (guardB ss p way (m+1)=guardB ss p way m):=guardB_skip hm' (Or.inl (by simpa using t1))
    clear hpcs hnr
    go_wp2_with fail
    go_roundw
    case rel=>exact ⟨m+1,by omega,by go_num,by rw [HN.out],blo⟩
    case measure=>simp [intOf];omega
   ·have HN:Hid (guardB ss p way (m+1)=guardB ss p way m):=guardB_skip hm' (Or.inr (by simpa using t2))
    clear hpcs hnr
    go_wp2_with fail
    go_roundw
    case rel=>exact ⟨m+1,by omega,by go_num,by rw [HN.out],blo⟩
    case measure=>simp [intOf];omega
   ·have hns:¬ (ss[m].len≠p∨ss[m].brake≠way):=by
     have h1:ss[m].len=p:=by simpa using t1
     have h2:ss[m].brake=way:=by simpa using t2
     rintro (h | h)
     ·exact h h1
     ·exact h h2
    rcases hnr with hnb | ⟨b,hbl,_,hnb,_,_⟩
    ·have HN:Hid (guardB ss p way (m+1)=m):=guardB_take hm' hns (Or.inl (by omega))
     rw [hnb]
     clear hpcs hns hnb
     go_wp2_with fail
     go_quiet (fail)
     go_wp2_with fail
     go_roundw
     case rel=>exact ⟨m+1,by omega,by go_num,by rw [HN.out],blo⟩
     case measure=>simp [intOf];omega
    ·obtain ⟨_,_,q2,_⟩:=(hpcs.below hb) b hbl
     obtain ⟨hsb0,hsb1⟩:=hs.out b hbl
     obtain ⟨f,hf⟩:∃ f,(ss[m].speed-ss[b].speed)*way=f:=⟨_,rfl⟩
     have hfb : -10000000≤f∧f≤10000000:=by rcases HW.out with rfl | rfl <;> omega
     have hsig:sigAt ss (guardB ss p way m)=ss[b].speed:=by rw [hnb];exact sigAt_at hbl
     have hzq:=cellLt q2
     dsimp only at hzq
     have hbi:(b:Int)<ss.length:=by omega
     have hbi0:¬ (b:Int)<0:=by omega
     have hw1:IntKind.i64.wrap (ss[m].speed-ss[b].speed)=ss[m].speed-ss[b].speed:=by rw [IntKind.wrap_i64];omega
     have hw2:IntKind.i64.wrap f=f:=by rw [IntKind.wrap_i64];omega
     by_cases hlt:0<f
     ·have HN:Hid (guardB ss p way (m+1)=m):=guardB_take hm' hns (Or.inr (by rw [hsig];omega))
      rw [hnb]
      clear hpcs hns hnb hsig
      go_wp2_with fail
      go_quiet (fail)
      go_wp2_with fail
      go_roundw
      case rel=>exact ⟨m+1,by omega,by go_num,by rw [HN.out],blo⟩
      case measure=>simp [intOf];omega
     ·have HN:Hid (guardB ss p way (m+1)=b):=by
       unfold Hid
       rw [guardB_leave hm' hns (by rw [hsig,hnb];omega)]
       exact hnb
      rw [hnb]
      clear hpcs hns hnb hsig
      go_wp2_with fail
      go_quiet (fail)
      go_wp2_with fail
      go_roundw
      case rel=>exact ⟨m+1,by omega,by go_num,by rw [HN.out],blo⟩
      case measure=>simp [intOf];omega
  ·have hme:m=ss.length:=by omega
   subst hme
   go_wp2_with fail
   go_ret
   exact ⟨rfl,HB2.out.trans (hb.mono HB2.out.size)⟩
theorem endBehind_any (K:Nat)(pa ja sa:Option Addr)(pc jc sc:Nat)(ps:List MPiece)(js:List MJoint)(ss:List MPiece)(j t:Nat)(fr kd:Value)(w:World)(h:Hid (TNet w K pa ja sa pc jc sc ps js ss))(hj:j<js.length)(ht:t<js[j].ends.length):
  Calls Tryz.prog 167 #[.pointer (some ⟨K,0,none⟩),.agg #[.int .i64 j,fr,.int .i64 t,kd]] w fun e w'=>e = .returned (endV js[j].ends[t])∧Below w.heap.size w w':=by
 have c1:=h.out.c1
 have hK:=cellLt c1
 dsimp only at hK
 have hjl:=h.out.J.1
 unfold maxLen at hjl
 obtain ⟨bj,oj,rfl,hpcj⟩:=h.out.J.2.2.resolve_left (nz hj)
 obtain ⟨_,_,ea,ec,c3,c4⟩:=hpcj j hj
 have hel:=c4.1
 unfold maxLen at hel
 obtain ⟨be,oe,rfl,hpe⟩:=c4.2.resolve_left (nz ht)
 obtain ⟨g0,g1⟩:=hpe t ht
 have hz3:=cellLt c3
 have hzg:=cellLt g0
 dsimp only at hz3 hzg
 have hji:(j:Int)<js.length:=by omega
 have hti:(t:Int)<js[j].ends.length:=by omega
 clear hpcj hpe c4
 go_enter Tryz.func167,Tryz.ntmps167
 go_wp2_with fail
 generalize hW:World.alloc (World.alloc w _) _=W
 have hbW:Below w.heap.size w W:=by rw [← hW];exact blo
 have b0:W.cell? ⟨w.heap.size,0,none⟩=some (.int .i64 j):=by rw [← hW];simp [go_sem]
 have b2:W.cell? ⟨w.heap.size,2,none⟩=some (.int .i64 t):=by rw [← hW];simp [go_sem]
 have r0:W.cell? ⟨w.heap.size+1,0,none⟩=some (.int .i64 0):=by rw [← hW];simp [go_sem]
 have r1:W.cell? ⟨w.heap.size+1,1,none⟩=some (.int .i64 0):=by rw [← hW];simp [go_sem]
 have rz0:W.frozen? ⟨w.heap.size+1,0,none⟩=false:=by rw [← hW];simp [go_sem]
 have rz1:W.frozen? ⟨w.heap.size+1,1,none⟩=false:=by rw [← hW];simp [go_sem]
 replace c1:=cell_later hbW c1
 replace c3:=cell_later hbW c3
 replace g0:=cell_later hbW g0
 replace g1:=cell_later hbW g1
 clear hW
 have n1:K≠w.heap.size+1:=by omega
 have n2:bj≠w.heap.size+1:=by omega
 have n3:be≠w.heap.size+1:=by omega
 go_region
 all_goals
  go_wp2_with fail
  refine bodyPost_ret (v:=.agg #[.int .i64 js[j].ends[t].piece,.int .i64 js[j].ends[t].side]) (by simp [results,Tryz.results167,go_sem,r0,r1]) rfl ⟨rfl,?_⟩
  exact blo
end Go.Proofs.YtmkdgnmmebldgaaGreatDoor
