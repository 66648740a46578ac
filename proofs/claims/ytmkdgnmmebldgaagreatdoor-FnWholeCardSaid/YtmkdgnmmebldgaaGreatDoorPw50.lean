import Derived.Test.YtmkdgnmmebldgaaGreatDoorPw44
import Derived.Test.YtmkdgnmmebldgaaGreatDoorPw49
import Derived.WalkMore
import Derived.Scope
set_option maxRecDepth 100000
set_option maxHeartbeats 8000000
namespace Go.Proofs.YtmkdgnmmebldgaaGreatDoor
open Go.RowKit Go.Deep
def nmA (ss:List MPiece)(i:Int):ByteArray:=(ss[i.toNat]?.map (fun p=>p.name)).getD ⟨#[]⟩
theorem nmA_at {ss:List MPiece}{i:Nat}(h:i<ss.length):nmA ss i=ss[i].name:=by simp [nmA,h]
def fitsL (ls:List Int)(l:List MLie):Bool:=l.all fun x=>ls[x.piece.toNat]?.getD 0==x.side
def fitsR (ss:List MPiece)(from_:ByteArray)(ls:List Int)(r:MRoute):Bool:=decide (nmA ss r.start=from_)&&fitsL ls r.lies
def findR (ss:List MPiece)(from_:ByteArray)(ls:List Int):List MRoute->Nat->Int
 | [],_ => -1
 | r::t,i=>if fitsR ss from_ ls r=true then i else findR ss from_ ls t (i+1)
def routeAtF (ps:List MPiece)(js:List MJoint)(ss:List MPiece)(rs:List MRoute)(from_:ByteArray)(ls:List Int)(D : Decidable (∀ r ∈ rs, bare r ∈ routesF ps js ss 0) := Classical.propDecidable _) : Int := if whyF ps js ss rs D =0/\ls.length=js.length then findR ss from_ ls rs 0 else -1
theorem findR_on {ss:List MPiece}{from_:ByteArray}{ls:List Int}{rs:List MRoute}{k:Nat}(h:k<rs.length):findR ss from_ ls (rs.drop k) k=if fitsR ss from_ ls rs[k]=true then (k:Int) else findR ss from_ ls (rs.drop (k+1)) (k+1):=by
 rw [List.drop_eq_getElem_cons h];rfl
theorem fitsL_false {ls:List Int}{l:List MLie}{k:Nat}(h:k<l.length)(hx:(ls[l[k].piece.toNat]?.getD 0==l[k].side)=false):fitsL ls l=false:=by
 unfold fitsL;rw [List.all_eq_false];exact ⟨l[k],List.getElem_mem h,by simp [hx]⟩
theorem fitsL_true {ls:List Int}{l:List MLie}(h:∀ k (hk:k<l.length),(ls[l[k].piece.toNat]?.getD 0==l[k].side)=true):fitsL ls l=true:=by
 unfold fitsL;rw [List.all_eq_true];intro x hx;obtain ⟨k,hk,e⟩:=List.getElem_of_mem hx;rw [<-e];exact h k hk
theorem all_line {ps:List MPiece}{js:List MJoint}{ss:List MPiece}{rs:List MRoute}(h:whyF ps js ss rs=0):∀ r ∈ rs,LnOk ps js ss r:=by
 intro r hr
 by_cases h1:sigF ps js ss=(0,0)
 ·by_cases h2:300<rs.length
  ·rw [whyF_2 h1 h2] at h;omega
  ·by_cases h3:∀ r ∈ rs,bare r ∈ routesF ps js ss 0
   ·exact (routes_line ps js ss 0 _ (h3 r hr)).bare
   ·rw [whyF_3 h1 (by omega) (by simpa using h3)] at h;omega
 ·rw [whyF_1 h1] at h;omega
theorem implRouteAt_any (pa ja sa ra la:Option Addr)(pc jc sc rc lc:Nat)(ps:List MPiece)(js:List MJoint)(ss:List MPiece)(rs:List MRoute)(from_:ByteArray)(ls:List Int)(w:World)(hp:Hid (PiecesAt w pa ps))(hj:Hid (JointsAt w ja js))(hs:Hid (PiecesAt w sa ss))(hr:Hid (RoutesAt w ra rs))(hl:Hid (NumsAt w la ls))(ht:Hid (TabU w)):
  Calls Tryz.prog 19 #[.agg #[.slice pa ps.length pc,.slice ja js.length jc],.slice sa ss.length sc,.slice ra rs.length rc,.string from_,.slice la ls.length lc] w fun e w'=>e = .returned (.int .i64 (routeAtF ps js ss rs from_ ls))/\Below w.heap.size w w':=by
 obtain ⟨O,hO⟩:∃ O,routeAtF ps js ss rs from_ ls=O:=⟨_,rfl⟩;rw [hO];have HO:=hidP hO;clear hO;have hrl:=hr.out.1;have hll:=hl.out.1;have hjl:=hj.out.1;have hsl:=hs.out.1;unfold maxLen at hrl hll hjl hsl
 go_enter Tryz.func19,Tryz.ntmps19
 go_upto_region 1 with fail
 generalize hW:World.alloc w _=W;have e0:W.cell? ⟨w.heap.size,0,none⟩=some (.slice pa ps.length pc):=by rw [<-hW];simp [go_sem]
 have e1:W.cell? ⟨w.heap.size,1,none⟩=some (.slice ja js.length jc):=by rw [<-hW];simp [go_sem]
 have hbW:Below w.heap.size w W:=by rw [<-hW];exact blo
 clear hW;have HLO:=hidP (linesOf_any pa ja sa ra pc jc sc rc ps js ss rs W (hp.out.below hbW) (hj.out.below hbW) (hs.out.below hbW) (hr.out.below hbW) (ht.out.below hbW));have HBW:=hidP hbW;have HR:=hidP (hr.out.below hbW);have HS:=hidP (hs.out.below hbW);have HL:=hidP (hl.out.below hbW);have HAL:Hid (whyF ps js ss rs=0->∀ r ∈ rs,LnOk ps js ss r):=all_line;obtain ⟨y,hy⟩:∃ y,whyF ps js ss rs=y:=⟨_,rfl⟩;rw [hy] at HLO HAL;have HWY:=hidP hy;clear hy hbW hp hj hs hr hl ht;refine wp_scope_straight ?_
 go_wp2_with fail
 refine HLO.out.mono ?_;rintro e w1 ⟨tx,rfl,_,hb1⟩;replace e0:=cell_later hb1 e0;replace e1:=cell_later hb1 e1;have HB1:=hidP hb1;have HR1:=hidP (HR.out.below hb1);have HS1:=hidP (HS.out.below hb1);have HL1:=hidP (HL.out.below hb1);clear hb1 HLO HR HS HL;obtain ⟨n,hn⟩:∃ n,rs.length=n:=⟨_,rfl⟩;obtain ⟨m,hm⟩:∃ n,ls.length=n:=⟨_,rfl⟩;obtain ⟨p,hp⟩:∃ n,js.length=n:=⟨_,rfl⟩;obtain ⟨q,hq⟩:∃ n,ss.length=n:=⟨_,rfl⟩;rw [hn] at hrl ⊢;rw [hm] at hll ⊢;rw [hp] at hjl e1;rw [hq] at hsl ⊢;have HN:=hidP hn;have HM:=hidP hm;have HP:=hidP hp;have HQ:=hidP hq;clear hn hm hp hq
 by_cases hy0:y=0
 rotate_left
 ·have f0:(y != 0)=true:=by simpa using hy0
  have HE:Hid (O = -1):=by unfold Hid;rw [<-HO.out];unfold routeAtF;rw [if_neg (fun e=>hy0 (by rw [<-HWY.out];exact e.1))]
  clear hy0
  go_wp2_with fail
  rw [Exit.noGoto_ret]
  go_ret
  exact ⟨by rw [HE.out];rfl,HBW.out.trans (HB1.out.mono HBW.out.size)⟩
 subst hy0;have HALL:=hidP (HAL.out rfl);clear HAL
 by_cases hmp:m=p
 rotate_left
 ·have f0:((m:Int) != (p:Int))=true:=by rw [bne_iff_ne];omega
  have HE:Hid (O = -1):=by unfold Hid;rw [<-HO.out];unfold routeAtF;rw [if_neg (fun e=>hmp (by rw [<-HM.out,<-HP.out];exact e.2))]
  clear hmp
  go_wp2_with fail
  rw [Exit.noGoto_ret]
  go_ret
  exact ⟨by rw [HE.out];rfl,HBW.out.trans (HB1.out.mono HBW.out.size)⟩
 subst hmp;have f0:((m:Int) != (m:Int))=false:=by simp
 have HI0:Hid (findR ss from_ ls (rs.drop 0) 0=O):=by
  unfold Hid;rw [<-HO.out];unfold routeAtF;rw [if_pos ⟨HWY.out,by rw [HM.out,HP.out]⟩]
  rfl
 go_wp2_with fail
 go_step3
 go_wp2_with fail
 clear f0 e0 e1
 go_loopw [36] (fun c wr => ∃ k:Nat,k<=n/\c = .int .i64 k/\Hid (findR ss from_ ls (rs.drop k) k=O)/\Hid (Below w1.heap.size w1 wr)) (fun c _=>n-(intOf c).toNat)
 case atStart=>exact ⟨0,Nat.zero_le _,rfl,HI0,Below.refl _ _⟩
 case round =>
  obtain ⟨k,hk,rfl,HI,HBr⟩:=hrel;clear HI0
  by_cases hk':k<n
  ·have hki:(k:Int)<n:=by omega
   have hkl:k<rs.length:=by rw [HN.out];exact hk'
   obtain ⟨b,o,ha,hc⟩:=(HR1.out.below HBr.out).2.resolve_left (fun e=>by rw [e] at hkl;exact absurd hkl (Nat.not_lt_zero _))
   obtain ⟨d,⟨c0,c1,c2,c3,c4,c5,c6,c7⟩,ql⟩:=hc k hkl;obtain ⟨a0,g0,a1,g1,a2,g2,a3,g3,a4,g4,a5,g5⟩:=d;dsimp only at c2 c3 c4 c5 c6 c7;have HST:=hidP (HI.out.symm.trans (findR_on hkl));have HLN:=hidP (HALL.out _ (List.getElem_mem hkl));generalize rs[k]=r at c0 c1 c2 c3 c4 c5 c6 c7 ql HST HLN;have HQL:=hidP ql;subst ha;clear hc ql HI hkl;obtain ⟨st,hst,est⟩:=HLN.out.start;obtain ⟨sb,so,hsa,hsc⟩:=PieceCells.name (HS1.out.below HBr.out) hst;have HNM:Hid (nmA ss r.start=ss[st].name):=by unfold Hid;rw [est];exact nmA_at hst
   generalize ss[st].name=nm at hsc HNM;rw [HQ.out] at hst;have hstI:(st:Int)<q:=by omega
   rw [est] at c0;obtain ⟨n2,hn2⟩:∃ n2,r.lies.length=n2:=⟨_,rfl⟩;have hm2:n2<=120:=by rw [<-hn2];exact HLN.out.n2
   rw [hn2] at c3;have HN2:=hidP hn2;subst hsa;obtain ⟨wq,hwq⟩:∃ u,u=wr:=⟨_,rfl⟩;subst hwq
   go_upto_region 7 with fail
   generalize hW2:World.alloc wq _=W2;have hb2:Below wq.heap.size wq W2:=by rw [<-hW2];exact blo
   have y0:W2.cell? ⟨wq.heap.size,0,none⟩=some (.int .i64 st):=by rw [<-hW2];simp [go_sem]
   have y3:W2.cell? ⟨wq.heap.size,3,none⟩=some (.slice a1 n2 g1):=by rw [<-hW2];simp [go_sem]
   replace hsc:=cell_later hb2 hsc;have HB2:Hid (Below w1.heap.size w1 W2):=HBr.out.trans (hb2.mono HBr.out.size);have HLS2:Hid (EndsAt W2 a1 r.lies):=(HQL.out.below hb2).lies;generalize wq.heap.size=Y at y0 y3 ⊢;clear hW2 hb2 c0 c1 c2 c3 c4 c5 c6 c7 HQL
   by_cases hnm:nm=from_
   rotate_left
   ·have k0:(nm.toList==from_.toList)=false:=beqS_ne hnm;have HNX:Hid (findR ss from_ ls (rs.drop (k+1)) (k+1)=O):=by
     have h:=HST.out;rw [if_neg (by unfold fitsR;rw [HNM.out];simp [hnm])] at h
     exact h.symm
    go_wp2_with fail
    go_roundw
    case rel=>exact ⟨k+1,by omega,by go_num,HNX,HB2⟩
    case measure=>simp [intOf];omega
   have k0:(nm.toList==from_.toList)=true:=by rw [hnm];simp
   have HFT:Hid (fitsR ss from_ ls r=fitsL ls r.lies):=by unfold Hid fitsR;rw [HNM.out];simp [hnm]
   go_wp2_with fail
   clear k0 y0 y3 hsc hnm
   go_loopw [52] (fun c wx => ∃ j:Nat,j<=n2/\c = .int .i64 j/\Hid (∀ i (hi:i<r.lies.length),i<j->(ls[r.lies[i].piece.toNat]?.getD 0==r.lies[i].side)=true)/\Hid (Below W2.heap.size W2 wx)) (fun c _=>n2-(intOf c).toNat)
   case atStart=>exact ⟨0,Nat.zero_le _,rfl,(fun i _ h=>absurd h (Nat.not_lt_zero i)),Below.refl _ _⟩
   case round =>
    obtain ⟨j,hj,rfl,HJ,HBx⟩:=hrel;have HB1x:Hid (Below w1.heap.size w1 wr):=HB2.out.trans (HBx.out.mono HB2.out.size)
    by_cases hj':j<n2
    ·have hji:(j:Int)<n2:=by omega
     have hjl:j<r.lies.length:=by rw [HN2.out];exact hj'
     obtain ⟨b2,o2,ha2,hc2⟩:=(HLS2.out.below HBx.out).2.resolve_left (fun e=>by rw [e] at hjl;exact absurd hjl (Nat.not_lt_zero _))
     subst ha2;have cx:=hc2 j hjl;obtain ⟨jt,hjt,ejt,hsd⟩:=HLN.out.lies _ (List.getElem_mem hjl);clear hsd;rw [HP.out] at hjt;have hjm:jt<ls.length:=by rw [HM.out];exact hjt
     obtain ⟨lb,lo,hla,hlc⟩:=(HL1.out.below HB1x.out).2.resolve_left (fun e=>by rw [e] at hjm;exact absurd hjm (Nat.not_lt_zero _))
     subst hla;have cv:=hlc jt hjm;have HFF:Hid ((ls[r.lies[j].piece.toNat]?.getD 0==r.lies[j].side)=false->fitsL ls r.lies=false):=fitsL_false hjl;have HFJ:Hid ((ls[r.lies[j].piece.toNat]?.getD 0==r.lies[j].side)=true->∀ i (hi:i<r.lies.length),i<j+1->(ls[r.lies[i].piece.toNat]?.getD 0==r.lies[i].side)=true):=fun e i hi hij=>by
      by_cases q:i<j
      ·exact HJ.out i hi q
      ·have:i=j:=by omega
       subst this;exact e
     have HGV:Hid (ls[r.lies[j].piece.toNat]?.getD 0=ls[jt]):=by unfold Hid;rw [ejt,Int.toNat_natCast,List.getElem?_eq_getElem hjm];rfl
     rw [HGV.out] at HFF HFJ;rw [ejt] at cx;generalize ls[jt]=v at cv HFF HFJ;generalize r.lies[j].side=sd at cx HFF HFJ;obtain ⟨cx0,cx1⟩:=cx;have hjtI:(jt:Int)<m:=by omega
     clear hc2 hlc HJ hjl hjm ejt HGV
     go_upto_region 11 with fail
     generalize hW3:World.alloc wr _=W3;have hb3:Below wr.heap.size wr W3:=by rw [<-hW3];exact blo
     have z0:W3.cell? ⟨wr.heap.size,0,none⟩=some (.int .i64 jt):=by rw [<-hW3];simp [go_sem]
     have z1:W3.cell? ⟨wr.heap.size,1,none⟩=some (.int .i64 sd):=by rw [<-hW3];simp [go_sem]
     replace cv:=cell_later hb3 cv;have HB3:Hid (Below W2.heap.size W2 W3):=HBx.out.trans (hb3.mono HBx.out.size);have HB13:Hid (Below w1.heap.size w1 W3):=HB1x.out.trans (hb3.mono HB1x.out.size);generalize wr.heap.size=Z at z0 z1 ⊢;clear hW3 hb3 cx0 cx1
     by_cases hv:v=sd
     ·subst hv;have k1:(v != v)=false:=by simp
      have HJ2:=hidP (HFJ.out (by simp))
      go_quiet (fail)
      go_wp2_with fail
      go_roundw
      case rel=>exact ⟨j+1,by omega,by go_num,HJ2,bdrewN HB3.out _⟩
      case measure=>simp [intOf];omega
     ·have k1:(v != sd)=true:=by simpa using hv
      have k2:(v==sd)=false:=by simpa using hv
      have HNX:Hid (findR ss from_ ls (rs.drop (k+1)) (k+1)=O):=by
       have h:=HST.out;rw [HFT.out,HFF.out k2,if_neg (by simp)] at h
       exact h.symm
      clear hv
      go_quiet (fail)
      go_wp2_with fail
      go_roundw
      case rel=>exact ⟨k+1,by omega,by go_num,HNX,bdrewN HB13.out _⟩
      case measure=>simp [intOf];omega
    ·have hji:¬ (j:Int)<n2:=by omega
     have HE:Hid (O=(k:Int)):=by
      unfold Hid;have h:=HST.out;rw [HFT.out,fitsL_true (fun i hi=>HJ.out i hi (by have:=HN2.out;omega)),if_pos rfl] at h
      exact h
     go_wp2_with fail
     go_ret
     exact ⟨by rw [HE.out];rfl,HBW.out.trans ((HB1.out.trans (HB1x.out.mono HB1.out.size)).mono HBW.out.size)⟩
  ·have hki:¬ (k:Int)<n:=by omega
   have HE:Hid (O = -1):=by
    unfold Hid;rw [<-HI.out,List.drop_eq_nil_of_le (by rw [HN.out];omega)]
    rfl
   go_wp2_with fail
   go_ret
   exact ⟨by rw [HE.out];rfl,HBW.out.trans ((HB1.out.trans (HBr.out.mono HB1.out.size)).mono HBW.out.size)⟩
theorem bare_route (ps:List MPiece)(js:List MJoint)(ss:List MPiece)(over:Int)(p:MPath):bare (routeF ps js ss over p)=routeF ps js ss 0 p:=by
 have h:overF ps js ss p.stop 0=[]:=by
  unfold overF
  split
  ·rfl
  ·split
   ·rfl
   ·simp [behindF]
 unfold bare routeF;rw [h]
theorem why_routes (ps:List MPiece)(js:List MJoint)(ss:List MPiece)(over:Int)(h:sigF ps js ss=(0,0)):whyF ps js ss (routesF ps js ss over)=0:=by
 by_cases hc:sigF ps js ss=(0,0)/\0<=over/\over<=100000/\(allEvs ps js ss ss.length).length<=20000/\(endedL (allEvs ps js ss ss.length)).length<=300
 ·refine whyF_0 h ?_ ?_
  ·unfold routesF;rw [if_pos hc,List.length_map];exact hc.2.2.2.2
  ·intro r hr;unfold routesF at hr ⊢;rw [if_pos hc] at hr;rw [if_pos ⟨hc.1,by omega,by omega,hc.2.2.2⟩]
   obtain ⟨p,hp,rfl⟩:=List.mem_map.1 hr;rw [bare_route];exact List.mem_map_of_mem hp
 ·have e:routesF ps js ss over=[]:=by unfold routesF;rw [if_neg hc]
  rw [e];exact whyF_0 h (Nat.zero_le _) (fun r hr=>by cases hr)
end Go.Proofs.YtmkdgnmmebldgaaGreatDoor
