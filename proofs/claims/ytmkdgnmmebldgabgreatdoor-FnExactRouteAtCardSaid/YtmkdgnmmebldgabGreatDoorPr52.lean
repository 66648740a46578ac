import Derived.Test.YtmkdgnmmebldgabGreatDoorPr51
import Derived.WalkMore
import Derived.Scope
import Derived.Test.YtmkdgnmmebldgabGreatDoorPr46
import Derived.Test.YtmkdgnmmebldgabGreatDoorPr36
set_option maxRecDepth 100000
set_option maxHeartbeats 8000000
namespace Go.Proofs.YtmkdgnmmebldgabGreatDoor
open Go.RowKit Go.Deep
def nmA (ss:List MPiece)(i:Int):ByteArray:=(ss[i.toNat]?.map (fun p=>p.name)).getD ⟨#[]⟩
theorem nmA_at {ss:List MPiece}{i:Nat}(h:i<ss.length):nmA ss i=ss[i].name:=by simp [nmA,h]
def fitsL (ls:List Int)(l:List MLie):Bool:=l.all fun x=>ls[x.piece.toNat]?.getD 0==x.side
def fitsR (ss:List MPiece)(from_:ByteArray)(ls:List Int)(r:MRoute):Bool:=decide (nmA ss r.start=from_)&&fitsL ls r.lies
def findR (ss:List MPiece)(from_:ByteArray)(ls:List Int):List MRoute→Nat→Int
 | [],_ => -1
 | r::t,i=>if fitsR ss from_ ls r=true then i else findR ss from_ ls t (i+1)
def routeAtF (ps:List MPiece)(js:List MJoint)(ss:List MPiece)(rs:List MRoute)(from_:ByteArray)(ls:List Int)(D : Decidable (∀ r ∈ rs, bare r ∈ routesF ps js ss 0) := Classical.propDecidable _) : Int := if whyF ps js ss rs D =0∧ls.length=js.length then findR ss from_ ls rs 0 else -1
theorem findR_on {ss:List MPiece}{from_:ByteArray}{ls:List Int}{rs:List MRoute}{k:Nat}(h:k<rs.length):findR ss from_ ls (rs.drop k) k=if fitsR ss from_ ls rs[k]=true then (k:Int) else findR ss from_ ls (rs.drop (k+1)) (k+1):=by
 rw [List.drop_eq_getElem_cons h]
 rfl
theorem fitsL_false {ls:List Int}{l:List MLie}{k:Nat}(h:k<l.length)(hx:(ls[l[k].piece.toNat]?.getD 0==l[k].side)=false):fitsL ls l=false:=by
 unfold fitsL
 rw [List.all_eq_false]
 exact ⟨l[k],List.getElem_mem h,by simp [hx]⟩
theorem fitsL_true {ls:List Int}{l:List MLie}(h:∀ k (hk:k<l.length),(ls[l[k].piece.toNat]?.getD 0==l[k].side)=true):fitsL ls l=true:=by
 unfold fitsL
 rw [List.all_eq_true]
 intro x hx
 obtain ⟨k,hk,e⟩:=List.getElem_of_mem hx
 rw [← e]
 exact h k hk
theorem all_line {ps:List MPiece}{js:List MJoint}{ss:List MPiece}{rs:List MRoute}(h:whyF ps js ss rs=0):∀ r ∈ rs,LnOk ps js ss r:=by
 intro r hr
 by_cases h1:sigF ps js ss=(0,0)
 ·by_cases h2:300<rs.length
  ·rw [whyF_2 h1 h2] at h;omega
  ·by_cases h3:∀ r ∈ rs,bare r ∈ routesF ps js ss 0
   ·exact (routes_line ps js ss 0 _ (h3 r hr)).bare
   ·rw [whyF_3 h1 (by omega) (by simpa using h3)] at h;omega
 ·rw [whyF_1 h1] at h;omega
theorem implRouteAt_any (pa ja sa ra la:Option Addr)(pc jc sc rc lc:Nat)(ps:List MPiece)(js:List MJoint)(ss:List MPiece)(rs:List MRoute)(from_:ByteArray)(ls:List Int)(w:World)(hp:Hid (PiecesAt w pa ps))(hj:Hid (JointsAt w ja js))(hs:Hid (PiecesAt w sa ss))(hr:Hid (RoutesAt w ra rs))(hl:Hid (NumsAt w la ls))(ht:Hid (TabU w)):
  Calls Tryz.prog 25 #[.agg #[.slice pa ps.length pc,.slice ja js.length jc],.slice sa ss.length sc,.slice ra rs.length rc,.string from_,.slice la ls.length lc] w fun e w'=>e = .returned (.int .i64 (routeAtF ps js ss rs from_ ls))∧Below w.heap.size w w':=by
 obtain ⟨O,hO⟩:∃ O,routeAtF ps js ss rs from_ ls=O:=⟨_,rfl⟩
 rw [hO]
 have HO:=hidP hO
 clear hO
 have hrl:=hr.out.1
 have hll:=hl.out.1
 have hjl:=hj.out.1
 have hsl:=hs.out.1
 unfold maxLen at hrl hll hjl hsl
 go_enter Tryz.func25,Tryz.ntmps25
 go_upto_region 1 with fail
 generalize hW:World.alloc w _=W
 have e0:W.cell? ⟨w.heap.size,0,none⟩=some (.slice pa ps.length pc):=by rw [← hW];simp [go_sem]
 have e1:W.cell? ⟨w.heap.size,1,none⟩=some (.slice ja js.length jc):=by rw [← hW];simp [go_sem]
 have hbW:Below w.heap.size w W:=by rw [← hW];exact blo
 clear hW
 have HLO:=hidP (linesOf_any pa ja sa ra pc jc sc rc ps js ss rs W (hp.out.below hbW) (hj.out.below hbW) (hs.out.below hbW) (hr.out.below hbW) (ht.out.below hbW))
 have HBW:=hidP hbW
 have HR:=hidP (hr.out.below hbW)
 have HS:=hidP (hs.out.below hbW)
 have HL:=hidP (hl.out.below hbW)
 have HAL:Hid (whyF ps js ss rs=0→∀ r ∈ rs,LnOk ps js ss r):=all_line
 obtain ⟨y,hy⟩:∃ y,whyF ps js ss rs=y:=⟨_,rfl⟩
 rw [hy] at HLO HAL
 have HWY:=hidP hy
 clear hy hbW hp hj hs hr hl ht
 refine wp_scope_straight ?_
 go_wp2_with fail
 refine HLO.out.mono ?_
 rintro e w1 ⟨tx,rfl,_,hb1⟩
 replace e0:=cell_later hb1 e0
 replace e1:=cell_later hb1 e1
 have HB1:=hidP hb1
 have HR1:=hidP (HR.out.below hb1)
 have HS1:=hidP (HS.out.below hb1)
 have HL1:=hidP (HL.out.below hb1)
 clear hb1 HLO HR HS HL
 obtain ⟨n,hn⟩:∃ n,rs.length=n:=⟨_,rfl⟩
 obtain ⟨m,hm⟩:∃ n,ls.length=n:=⟨_,rfl⟩
 obtain ⟨p,hp⟩:∃ n,js.length=n:=⟨_,rfl⟩
 obtain ⟨q,hq⟩:∃ n,ss.length=n:=⟨_,rfl⟩
 rw [hn] at hrl ⊢
 rw [hm] at hll ⊢
 rw [hp] at hjl e1
 rw [hq] at hsl ⊢
 have HN:=hidP hn
 have HM:=hidP hm
 have HP:=hidP hp
 have HQ:=hidP hq
 clear hn hm hp hq
 by_cases hy0:y=0
 rotate_left
 ·have f0:(y != 0)=true:=by simpa using hy0
  have HE:Hid (O = -1):=by unfold Hid;rw [← HO.out];unfold routeAtF;rw [if_neg (fun e=>hy0 (by rw [← HWY.out];exact e.1))]
  clear hy0
  go_wp2_with fail
  rw [Exit.noGoto_ret]
  go_ret
  exact ⟨by rw [HE.out];rfl,HBW.out.trans (HB1.out.mono HBW.out.size)⟩
 subst hy0
 have HALL:=hidP (HAL.out rfl)
 clear HAL
 by_cases hmp:m=p
 rotate_left
 ·have f0:((m:Int) != (p:Int))=true:=by rw [bne_iff_ne];omega
  have HE:Hid (O = -1):=by unfold Hid;rw [← HO.out];unfold routeAtF;rw [if_neg (fun e=>hmp (by rw [← HM.out,← HP.out];exact e.2))]
  clear hmp
  go_wp2_with fail
  rw [Exit.noGoto_ret]
  go_ret
  exact ⟨by rw [HE.out];rfl,HBW.out.trans (HB1.out.mono HBW.out.size)⟩
 subst hmp
 have f0:((m:Int) != (m:Int))=false:=by simp
 have HI0:Hid (findR ss from_ ls (rs.drop 0) 0=O):=by
  unfold Hid
  rw [← HO.out]
  unfold routeAtF
  rw [if_pos ⟨HWY.out,by rw [HM.out,HP.out]⟩]
  rfl
 go_wp2_with fail
 go_step3
 go_wp2_with fail
 clear f0 e0 e1
 go_loopw [36] (fun c wr => ∃ k:Nat,k≤n∧c = .int .i64 k∧Hid (findR ss from_ ls (rs.drop k) k=O)∧Hid (Below w1.heap.size w1 wr)) (fun c _=>n-(intOf c).toNat)
 case atStart=>exact ⟨0,Nat.zero_le _,rfl,HI0,Below.refl _ _⟩
 case round =>
  obtain ⟨k,hk,rfl,HI,HBr⟩:=hrel
  clear HI0
  by_cases hk':k<n
  ·have hki:(k:Int)<n:=by omega
   have hkl:k<rs.length:=by rw [HN.out];exact hk'
   obtain ⟨b,o,ha,hc⟩:=(HR1.out.below HBr.out).2.resolve_left (fun e=>by rw [e] at hkl;exact absurd hkl (Nat.not_lt_zero _))
   obtain ⟨d,⟨c0,c1,c2,c3,c4,c5,c6,c7⟩,ql⟩:=hc k hkl
   obtain ⟨a0,g0,a1,g1,a2,g2,a3,g3,a4,g4,a5,g5⟩:=d
   dsimp only at c2 c3 c4 c5 c6 c7
   have HST:=hidP (HI.out.symm.trans (findR_on hkl))
   have HLN:=hidP (HALL.out _ (List.getElem_mem hkl))
   generalize rs[k]=r at c0 c1 c2 c3 c4 c5 c6 c7 ql HST HLN
   have HQL:=hidP ql
   subst ha
   clear hc ql HI hkl
   obtain ⟨st,hst,est⟩:=HLN.out.start
   obtain ⟨sb,so,hsa,hsc⟩:=PieceCells.name (HS1.out.below HBr.out) hst
   have HNM:Hid (nmA ss r.start=ss[st].name):=by unfold Hid;rw [est];exact nmA_at hst
   generalize ss[st].name=nm at hsc HNM
   rw [HQ.out] at hst
   have hstI:(st:Int)<q:=by omega
   rw [est] at c0
   obtain ⟨n2,hn2⟩:∃ n2,r.lies.length=n2:=⟨_,rfl⟩
   have hm2:n2≤120:=by rw [← hn2];exact HLN.out.n2
   rw [hn2] at c3
   have HN2:=hidP hn2
   subst hsa
   obtain ⟨wq,hwq⟩:∃ u,u=wr:=⟨_,rfl⟩
   subst hwq
   go_upto_region 7 with fail
   generalize hW2:World.alloc wq _=W2
   have hb2:Below wq.heap.size wq W2:=by rw [← hW2];exact blo
   have y0:W2.cell? ⟨wq.heap.size,0,none⟩=some (.int .i64 st):=by rw [← hW2];simp [go_sem]
   have y3:W2.cell? ⟨wq.heap.size,3,none⟩=some (.slice a1 n2 g1):=by rw [← hW2];simp [go_sem]
   replace hsc:=cell_later hb2 hsc
   have HB2:Hid (Below w1.heap.size w1 W2):=HBr.out.trans (hb2.mono HBr.out.size)
   have HLS2:Hid (EndsAt W2 a1 r.lies):=(HQL.out.below hb2).lies
   generalize wq.heap.size=Y at y0 y3 ⊢
   clear hW2 hb2 c0 c1 c2 c3 c4 c5 c6 c7 HQL
   by_cases hnm:nm=from_
   rotate_left
   ·have k0:(nm.toList==from_.toList)=false:=beqS_ne hnm
    have HNX:Hid (findR ss from_ ls (rs.drop (k+1)) (k+1)=O):=by
     have h:=HST.out
     rw [if_neg (by unfold fitsR;rw [HNM.out];simp [hnm])] at h
     exact h.symm
    go_wp2_with fail
    go_roundw
    case rel=>exact ⟨k+1,by omega,by go_num,HNX,HB2⟩
    case measure=>simp [intOf];omega
   have k0:(nm.toList==from_.toList)=true:=by rw [hnm];simp
   have HFT:Hid (fitsR ss from_ ls r=fitsL ls r.lies):=by unfold Hid fitsR;rw [HNM.out];simp [hnm]
   go_wp2_with fail
   clear k0 y0 y3 hsc hnm
   go_loopw [52] (fun c wx => ∃ j:Nat,j≤n2∧c = .int .i64 j∧Hid (∀ i (hi:i<r.lies.length),i<j→(ls[r.lies[i].piece.toNat]?.getD 0==r.lies[i].side)=true)∧Hid (Below W2.heap.size W2 wx)) (fun c _=>n2-(intOf c).toNat)
   case atStart=>exact ⟨0,Nat.zero_le _,rfl,(fun i _ h=>absurd h (Nat.not_lt_zero i)),Below.refl _ _⟩
   case round =>
    obtain ⟨j,hj,rfl,HJ,HBx⟩:=hrel
    have HB1x:Hid (Below w1.heap.size w1 wr):=HB2.out.trans (HBx.out.mono HB2.out.size)
    by_cases hj':j<n2
    ·have hji:(j:Int)<n2:=by omega
     have hjl:j<r.lies.length:=by rw [HN2.out];exact hj'
     obtain ⟨b2,o2,ha2,hc2⟩:=(HLS2.out.below HBx.out).2.resolve_left (fun e=>by rw [e] at hjl;exact absurd hjl (Nat.not_lt_zero _))
     subst ha2
     have cx:=hc2 j hjl
     obtain ⟨jt,hjt,ejt,hsd⟩:=HLN.out.lies _ (List.getElem_mem hjl)
     clear hsd
     rw [HP.out] at hjt
     have hjm:jt<ls.length:=by rw [HM.out];exact hjt
     obtain ⟨lb,lo,hla,hlc⟩:=(HL1.out.below HB1x.out).2.resolve_left (fun e=>by rw [e] at hjm;exact absurd hjm (Nat.not_lt_zero _))
     subst hla
     have cv:=hlc jt hjm
     have HFF:Hid ((ls[r.lies[j].piece.toNat]?.getD 0==r.lies[j].side)=false→fitsL ls r.lies=false):=fitsL_false hjl
     have HFJ:Hid ((ls[r.lies[j].piece.toNat]?.getD 0==r.lies[j].side)=true→∀ i (hi:i<r.lies.length),i<j+1→(ls[r.lies[i].piece.toNat]?.getD 0==r.lies[i].side)=true):=fun e i hi hij=>by
      by_cases q:i<j
      ·exact HJ.out i hi q
      ·have:i=j:=by omega
       subst this
       exact e
     have HGV:Hid (ls[r.lies[j].piece.toNat]?.getD 0=ls[jt]):=by unfold Hid;rw [ejt,Int.toNat_natCast,List.getElem?_eq_getElem hjm];rfl
     rw [HGV.out] at HFF HFJ
     rw [ejt] at cx
     generalize ls[jt]=v at cv HFF HFJ
     generalize r.lies[j].side=sd at cx HFF HFJ
     obtain ⟨cx0,cx1⟩:=cx
     have hjtI:(jt:Int)<m:=by omega
     clear hc2 hlc HJ hjl hjm ejt HGV
     go_upto_region 11 with fail
     generalize hW3:World.alloc wr _=W3
     have hb3:Below wr.heap.size wr W3:=by rw [← hW3];exact blo
     have z0:W3.cell? ⟨wr.heap.size,0,none⟩=some (.int .i64 jt):=by rw [← hW3];simp [go_sem]
     have z1:W3.cell? ⟨wr.heap.size,1,none⟩=some (.int .i64 sd):=by rw [← hW3];simp [go_sem]
     replace cv:=cell_later hb3 cv
     have HB3:Hid (Below W2.heap.size W2 W3):=HBx.out.trans (hb3.mono HBx.out.size)
     have HB13:Hid (Below w1.heap.size w1 W3):=HB1x.out.trans (hb3.mono HB1x.out.size)
     generalize wr.heap.size=Z at z0 z1 ⊢
     clear hW3 hb3 cx0 cx1
     by_cases hv:v=sd
     ·subst hv
      have k1:(v != v)=false:=by simp
      have HJ2:=hidP (HFJ.out (by simp))
      go_quiet (fail)
      go_wp2_with fail
      go_roundw
      case rel=>exact ⟨j+1,by omega,by go_num,HJ2,bdrewN HB3.out _⟩
      case measure=>simp [intOf];omega
     ·have k1:(v != sd)=true:=by simpa using hv
      have k2:(v==sd)=false:=by simpa using hv
      have HNX:Hid (findR ss from_ ls (rs.drop (k+1)) (k+1)=O):=by
       have h:=HST.out
       rw [HFT.out,HFF.out k2,if_neg (by simp)] at h
       exact h.symm
      clear hv
      go_quiet (fail)
      go_wp2_with fail
      go_roundw
      case rel=>exact ⟨k+1,by omega,by go_num,HNX,bdrewN HB13.out _⟩
      case measure=>simp [intOf];omega
    ·have hji:¬ (j:Int)<n2:=by omega
     have HE:Hid (O=(k:Int)):=by
      unfold Hid
      have h:=HST.out
      rw [HFT.out,fitsL_true (fun i hi=>HJ.out i hi (by have:=HN2.out;omega)),if_pos rfl] at h
      exact h
     go_wp2_with fail
     go_ret
     exact ⟨by rw [HE.out];rfl,HBW.out.trans ((HB1.out.trans (HB1x.out.mono HB1.out.size)).mono HBW.out.size)⟩
  ·have hki:¬ (k:Int)<n:=by omega
   have HE:Hid (O = -1):=by
    unfold Hid
    rw [← HI.out,List.drop_eq_nil_of_le (by rw [HN.out];omega)]
    rfl
   go_wp2_with fail
   go_ret
   exact ⟨by rw [HE.out];rfl,HBW.out.trans ((HB1.out.trans (HBr.out.mono HB1.out.size)).mono HBW.out.size)⟩
def whyB (ps:List MPiece)(js:List MJoint)(ss:List MPiece)(rs:List MRoute)(D : Decidable (∀ r ∈ rs, bare r ∈ routesF ps js ss 0) := Classical.propDecidable _) : Bool := decide (whyF ps js ss rs D =0)
theorem sameF_eq {q r:MRoute}:sameF q r=0↔q=r:=by
 constructor
 ·intro h
  by_cases e:wrongF q r=0
  ·exact wrongF_zero e
  ·exact absurd h (sameF_n e).2.1
 ·rintro rfl
  exact sameF_0 (wrongF_self q)
theorem l4route_any (pa ja sa ra:Option Addr)(pc jc sc rc:Nat)(ps:List MPiece)(js:List MJoint)(ss:List MPiece)(rs:List MRoute)(w:World)(hp:Hid (PiecesAt w pa ps))(hj:Hid (JointsAt w ja js))(hs:Hid (PiecesAt w sa ss))(hr:Hid (RoutesAt w ra rs)):
  Calls Tryz.prog 47 #[.agg #[.slice pa ps.length pc,.slice ja js.length jc],.slice sa ss.length sc,.slice ra rs.length rc] w fun e w'=>e = .returned (.bool (whyB ps js ss rs))∧Below w.heap.size w w':=by
 obtain ⟨O,hO⟩:∃ O,whyB ps js ss rs=O:=⟨_,rfl⟩
 rw [hO]
 have HO:=hidP hO
 clear hO
 have hrl:=hr.out.1
 unfold maxLen at hrl
 go_enter Tryz.func47,Tryz.ntmps47
 go_upto_region 1 with fail
 generalize hW:World.alloc w _=W
 have e0:W.cell? ⟨w.heap.size,0,none⟩=some (.slice pa ps.length pc):=by rw [← hW];simp [go_sem]
 have e1:W.cell? ⟨w.heap.size,1,none⟩=some (.slice ja js.length jc):=by rw [← hW];simp [go_sem]
 have HBW:Hid (Below w.heap.size w W):=by rw [← hW];exact blo
 have HP:=hidQ (hp.out.below HBW.out)
 have HJ:=hidQ (hj.out.below HBW.out)
 have HS:=hidQ (hs.out.below HBW.out)
 have HR:=hidQ (hr.out.below HBW.out)
 clear hW hp hj hs hr
 have HL1:=hidP (l1all_any pa ja sa pc jc sc ps js ss W HP HJ HS)
 obtain ⟨n,hn⟩:∃ n,rs.length=n:=⟨_,rfl⟩
 rw [hn] at hrl ⊢
 have HN:=hidP hn
 clear hn
 cases hc:((sigF ps js ss).1==0)
 ·have HE:Hid (O=false):=by
   unfold Hid
   rw [← HO.out]
   unfold whyB
   rw [whyF_1 (fun e=>by rw [e] at hc;simp at hc)]
   rfl
  rw [hc] at HL1
  clear hc
  go_wp2_with (go_at_call 32;refine HL1.out.mono ?_;rintro e w1 ⟨rfl,hb1⟩)
  go_ret
  exact ⟨by rw [HE.out];rfl,HBW.out.trans (hb1.mono HBW.out.size)⟩
 have HSIG:=hidP (sig_code (ps:=ps) (js:=js) (ss:=ss) (by simpa using hc))
 rw [hc] at HL1
 clear hc
 by_cases h3:300<n
 ·have f0:(300:Int)<n:=by omega
  have f1:decide ((300:Int)<n)=true:=by simp;omega
  have HE:Hid (O=false):=by
   unfold Hid
   rw [← HO.out]
   unfold whyB
   rw [whyF_2 HSIG.out (by rw [HN.out];exact h3)]
   rfl
  go_wp2_with (go_at_call 32;refine HL1.out.mono ?_;rintro e w1 ⟨rfl,hb1⟩)
  go_ret
  exact ⟨by rw [HE.out];rfl,HBW.out.trans (hb1.mono HBW.out.size)⟩
 have f0:¬ (300:Int)<n:=by omega
 have f1:decide ((300:Int)<n)=false:=by simp;omega
 have h3':n≤300:=by omega
 go_upto_region 3 with (go_at_call 32;refine HL1.out.mono ?_;rintro e w1 ⟨rfl,hb1⟩)
 replace e0:=cell_later hb1 e0
 replace e1:=cell_later hb1 e1
 have hze:=cellLt e0
 dsimp only at hze
 have HSR:=hidP (specRoutes_any pa ja sa pc jc sc ps js ss 0 w1 (HP.out.below hb1) (HJ.out.below hb1) (HS.out.below hb1))
 obtain ⟨want,hwant⟩:∃ q,routesF ps js ss 0=q:=⟨_,rfl⟩
 rw [hwant] at HSR
 have HWT:=hidP hwant
 obtain ⟨N,hN⟩:∃ N,want.length=N:=⟨_,rfl⟩
 have HNN:=hidP hN
 rw [hN] at HSR
 have HB1:=hidP hb1
 clear hwant HL1 hN hb1 h3 f0 f1
 go_upto_region 4 with (go_at_call 34;refine HSR.out.mono ?_;rintro e w3 ⟨wa,wc,rfl,hra,_,hb3⟩)
 have HB3:Hid (Below W.heap.size W w3):=HB1.out.trans (hb3.mono HB1.out.size)
 have HQ:=hidP hra
 have HRR:=hidP (HR.out.below HB3.out)
 have hNl:=hra.1
 unfold maxLen at hNl
 rw [HNN.out] at hNl
 clear hra hb3 e0 e1 hze HSR HB1 HR HP HJ HS
 have HW3:Hid (Below w.heap.size w w3):=HBW.out.trans (HB3.out.mono HBW.out.size)
 go_wp2_with fail
 go_loopw [29] (fun c wr => ∃ k:Nat,k≤n∧c = .int .i64 k∧Hid (∀ j (hj:j<rs.length),j<k→bare rs[j] ∈ want)∧Hid (Below w3.heap.size w3 wr)) (fun c _=>n-(intOf c).toNat)
 case atStart=>exact ⟨0,Nat.zero_le _,rfl,(fun j _ h=>absurd h (Nat.not_lt_zero j)),Below.refl _ _⟩
 case round =>
  obtain ⟨k,hk,rfl,HJ,HBr⟩:=hrel
  by_cases hk':k<n
  ·have hki:(k:Int)<n:=by omega
   have hkl:k<rs.length:=by rw [HN.out];exact hk'
   obtain ⟨b,o,ha,hc⟩:=(HRR.out.below HBr.out).2.resolve_left (fun e=>by rw [e] at hkl;exact absurd hkl (Nat.not_lt_zero _))
   obtain ⟨d,⟨c0,c1,c2,c3,c4,c5,c6,c7⟩,ql⟩:=hc k hkl
   have HMEM:=hidP (List.getElem_mem hkl)
   have HJ2:Hid (bare rs[k] ∈ want→∀ j (hj:j<rs.length),j<k+1→bare rs[j] ∈ want):=fun e j hj hjk=>by
    by_cases q:j<k
    ·exact HJ.out j hj q
    ·have:j=k:=by omega
     subst this
     exact e
   generalize rs[k]=r at c0 c1 c2 c3 c4 c5 c6 c7 ql HMEM HJ2
   have HQL:=hidP ql
   subst ha
   clear hc ql HJ hkl
   obtain ⟨wq,hwq⟩:∃ u,u=wr:=⟨_,rfl⟩
   subst hwq
   go_upto_region 7 with fail
   generalize hW2:World.alloc wq _=W2
   have hb2:Below wq.heap.size wq W2:=by rw [← hW2];exact blo
   have HX:Hid (RouteCell W2 wq.heap.size 0 d r):=by rw [← hW2];exact routeCell_box _ _ _ _
   have hzX:wq.heap.size<W2.heap.size:=by rw [← hW2];simp
   clear hW2 c0 c1 c2 c3 c4 c5 c6 c7
   have HB2:Hid (Below w3.heap.size w3 W2):=HBr.out.trans (hb2.mono HBr.out.size)
   have HBL:=hidP (bare_lists (HQL.out.below hb2))
   generalize wq.heap.size=X at HX hzX ⊢
   clear hb2 HQL
   go_wp2_with fail
   go_loopw [10,35] (fun mt c wx => ∃ (j:Nat) (b:Bool),j≤N∧mt = .bool b∧c = .int .i64 j∧Hid (b=true↔∃ i,∃ hi:i<want.length,i<j∧want[i]=bare r)∧Hid (Below W2.heap.size W2 wx)) (fun _ c _=>N-(intOf c).toNat)
   case atStart=>exact ⟨0,false,Nat.zero_le _,rfl,rfl,⟨(fun e=>by cases e),fun ⟨i,_,h,_⟩=>absurd h (Nat.not_lt_zero i)⟩,Below.refl _ _⟩
   case round =>
    obtain ⟨j,mt,hj,rfl,rfl,HMT,HBx⟩:=hrel
    have HB3x:Hid (Below w3.heap.size w3 wr):=HB2.out.trans (HBx.out.mono HB2.out.size)
    by_cases hj':j<N
    ·have hji:(j:Int)<N:=by omega
     have hjl:j<want.length:=by rw [HNN.out];exact hj'
     obtain ⟨b2,o2,ha2,hc2⟩:=(HQ.out.below HB3x.out).2.resolve_left (fun e=>by rw [e] at hjl;exact absurd hjl (Nat.not_lt_zero _))
     obtain ⟨d',⟨c0,c1,c2,c3,c4,c5,c6,c7⟩,ql⟩:=hc2 j hjl
     subst ha2
     have HM2:Hid (∀ b':Bool,(b'=true↔(mt=true∨want[j]=bare r))→(b'=true↔∃ i,∃ hi:i<want.length,i<j+1∧want[i]=bare r)):=fun b' hb'=>by
      rw [hb']
      constructor
      ·rintro (h | h)
       ·obtain ⟨i,hi,h1,h2⟩:=HMT.out.1 h
        exact ⟨i,hi,by omega,h2⟩
       ·exact ⟨j,hjl,by omega,h⟩
      ·rintro ⟨i,hi,h1,h2⟩
       by_cases q:i<j
       ·exact Or.inl (HMT.out.2 ⟨i,hi,q,h2⟩)
       ·have:i=j:=by omega
        subst this
        exact Or.inr h2
     generalize want[j]=q at c0 c1 c2 c3 c4 c5 c6 c7 ql HM2
     have HQL:=hidP ql
     have hx:=HX.out.below HBx.out
     have x0:=hx.k0
     have x1:=hx.k1
     have x2:=hx.k2
     have x3:=hx.k3
     have x4:=hx.k4
     have x5:=hx.k5
     have x6:=hx.k6
     have x7:=hx.k7
     simp only [Nat.zero_add] at x0 x1 x2 x3 x4 x5 x6 x7
     have hzX2:X<wr.heap.size:=Nat.lt_of_lt_of_le hzX HBx.out.size
     clear hc2 ql hx hjl HMT
     go_upto_region 13 with fail
     generalize hW3:World.alloc (World.alloc wr _) _=W3
     have hb3:Below wr.heap.size wr W3:=by rw [← hW3];exact blo
     have HU:Hid (RouteCell W3 wr.heap.size 0 d' q):=by rw [← hW3];exact ⟨by simp [go_sem],by simp [go_sem],by simp [go_sem],by simp [go_sem],by simp [go_sem],by simp [go_sem],by simp [go_sem],by simp [go_sem]⟩
     have HV:Hid (RouteCell W3 (wr.heap.size+1) 0 (bareD d) (bare r)):=by rw [← hW3];exact ⟨by simp [go_sem,bare],by simp [go_sem,bare],by simp [go_sem,bare,bareD],by simp [go_sem,bare,bareD],by simp [go_sem,bare,bareD],by simp [go_sem,bare,bareD],by simp [go_sem,bare,bareD],by simp [go_sem,bare,bareD]⟩
     clear hW3 c0 c1 c2 c3 c4 c5 c6 c7 x0 x1 x2 x3 x4 x5 x6 x7
     have HB3:Hid (Below W2.heap.size W2 W3):=HBx.out.trans (hb3.mono HBx.out.size)
     have HL3:=hidP (l3same_any d' (bareD d) q (bare r) W3 (HQL.out.below hb3) (HBL.out.below HB3.out))
     have u0:=HU.out.k0
     have u1:=HU.out.k1
     have u2:=HU.out.k2
     have u3:=HU.out.k3
     have u4:=HU.out.k4
     have u5:=HU.out.k5
     have u6:=HU.out.k6
     have u7:=HU.out.k7
     have v0:=HV.out.k0
     have v1:=HV.out.k1
     have v2:=HV.out.k2
     have v3:=HV.out.k3
     have v4:=HV.out.k4
     have v5:=HV.out.k5
     have v6:=HV.out.k6
     have v7:=HV.out.k7
     simp only [Nat.zero_add] at u0 u1 u2 u3 u4 u5 u6 u7 v0 v1 v2 v3 v4 v5 v6 v7
     generalize wr.heap.size=Z at u0 u1 u2 u3 u4 u5 u6 u7 v0 v1 v2 v3 v4 v5 v6 v7 ⊢
     clear hb3 HU HV
     have HSE:Hid ((sameF q (bare r)==0)=true↔q=bare r):=by unfold Hid;rw [beq_iff_eq];exact sameF_eq
     obtain ⟨s,hs⟩:∃ s,sameF q (bare r)=s:=⟨_,rfl⟩
     rw [hs] at HL3 HSE
     clear hs
     go_wp2_with fail
     refine HL3.out.mono ?_
     rintro e w6 ⟨rfl,hb6⟩
     have HB6:Hid (Below W2.heap.size W2 w6):=HB3.out.trans (hb6.mono HB3.out.size)
     clear hb6 u0 u1 u2 u3 u4 u5 u6 u7 v0 v1 v2 v3 v4 v5 v6 v7 HL3
     cases mt
     ·have HM3:=hidP (HM2.out (s==0) (by rw [HSE.out];simp))
      go_wp2_with fail
      go_roundw
      case rel=>exact ⟨j+1,(s==0),by omega,rfl,by go_num,HM3,HB6⟩
      case measure=>simp [intOf];omega
     ·have HM3:Hid (true=true↔∃ i,∃ hi:i<want.length,i<j+1∧want[i]=bare r):=HM2.out true (by simp)
      go_wp2_with fail
      go_roundw
      case rel=>exact ⟨j+1,true,by omega,rfl,by go_num,⟨fun _=>HM3.out.1 trivial,fun _=>rfl⟩,HB6⟩
      case measure=>simp [intOf];omega
    ·have hji:¬ (j:Int)<N:=by omega
     have HMM:Hid (mt=true↔bare r ∈ want):=by
      unfold Hid
      rw [HMT.out]
      constructor
      ·rintro ⟨i,hi,_,h2⟩
       rw [← h2]
       exact List.getElem_mem hi
      ·intro hm
       obtain ⟨i,hi,e⟩:=List.getElem_of_mem hm
       exact ⟨i,hi,by have:=HNN.out;omega,e⟩
     cases mt
     ·have HE:Hid (O=false):=by
       unfold Hid
       rw [← HO.out]
       unfold whyB
       rw [whyF_3 HSIG.out (by rw [HN.out];exact h3') ⟨r,HMEM.out,by rw [HWT.out];exact fun h=>by have:=HMM.out.2 h;cases this⟩]
       rfl
      go_wp2_with fail
      go_ret
      exact ⟨by rw [HE.out];rfl,HW3.out.trans (HB3x.out.mono HW3.out.size)⟩
     ·have HJ3:=hidP (HJ2.out (HMM.out.1 rfl))
      go_wp2_with fail
      go_roundw
      case rel=>exact ⟨k+1,by omega,by go_num,HJ3,HB3x⟩
      case measure=>simp [intOf];omega
  ·have hki:¬ (k:Int)<n:=by omega
   have HE:Hid (O=true):=by
    unfold Hid
    rw [← HO.out]
    unfold whyB
    rw [whyF_0 HSIG.out (by rw [HN.out];exact h3') (fun r hr=>by
     obtain ⟨j,hj,e⟩:=List.getElem_of_mem hr
     rw [← e,HWT.out]
     exact HJ.out j hj (by have:=HN.out;omega))]
    rfl
   go_wp2_with fail
   go_ret
   exact ⟨by rw [HE.out];rfl,HW3.out.trans (HBr.out.mono HW3.out.size)⟩
theorem specRouteAt_any (pa ja sa ra la:Option Addr)(pc jc sc rc lc:Nat)(ps:List MPiece)(js:List MJoint)(ss:List MPiece)(rs:List MRoute)(from_:ByteArray)(ls:List Int)(w:World)(hp:Hid (PiecesAt w pa ps))(hj:Hid (JointsAt w ja js))(hs:Hid (PiecesAt w sa ss))(hr:Hid (RoutesAt w ra rs))(hl:Hid (NumsAt w la ls)):
  Calls Tryz.prog 23 #[.agg #[.slice pa ps.length pc,.slice ja js.length jc],.slice sa ss.length sc,.slice ra rs.length rc,.string from_,.slice la ls.length lc] w fun e w'=>e = .returned (.int .i64 (routeAtF ps js ss rs from_ ls))∧Below w.heap.size w w':=by
 obtain ⟨O,hO⟩:∃ O,routeAtF ps js ss rs from_ ls=O:=⟨_,rfl⟩
 rw [hO]
 have HO:=hidP hO
 clear hO
 have hrl:=hr.out.1
 have hll:=hl.out.1
 have hjl:=hj.out.1
 have hsl:=hs.out.1
 unfold maxLen at hrl hll hjl hsl
 go_enter Tryz.func23,Tryz.ntmps23
 go_upto_region 1 with fail
 generalize hW:World.alloc w _=W
 have e0:W.cell? ⟨w.heap.size,0,none⟩=some (.slice pa ps.length pc):=by rw [← hW];simp [go_sem]
 have e1:W.cell? ⟨w.heap.size,1,none⟩=some (.slice ja js.length jc):=by rw [← hW];simp [go_sem]
 have hbW:Below w.heap.size w W:=by rw [← hW];exact blo
 clear hW
 have HLO:=hidP (l4route_any pa ja sa ra pc jc sc rc ps js ss rs W (hp.out.below hbW) (hj.out.below hbW) (hs.out.below hbW) (hr.out.below hbW))
 have HBW:=hidP hbW
 have HR:=hidP (hr.out.below hbW)
 have HS:=hidP (hs.out.below hbW)
 have HL:=hidP (hl.out.below hbW)
 have HWB:Hid (whyB ps js ss rs=decide (whyF ps js ss rs=0)):=rfl
 obtain ⟨y,hy⟩:∃ y,whyB ps js ss rs=y:=⟨_,rfl⟩
 rw [hy] at HLO HWB
 clear hy hbW hp hj hs hr hl
 go_wp2_with fail
 refine HLO.out.mono ?_
 rintro e w1 ⟨rfl,hb1⟩
 replace e0:=cell_later hb1 e0
 replace e1:=cell_later hb1 e1
 have HB1:=hidP hb1
 have HR1:=hidP (HR.out.below hb1)
 have HS1:=hidP (HS.out.below hb1)
 have HL1:=hidP (HL.out.below hb1)
 clear hb1 HLO HR HS HL
 obtain ⟨n,hn⟩:∃ n,rs.length=n:=⟨_,rfl⟩
 obtain ⟨m,hm⟩:∃ n,ls.length=n:=⟨_,rfl⟩
 obtain ⟨p,hp⟩:∃ n,js.length=n:=⟨_,rfl⟩
 obtain ⟨q,hq⟩:∃ n,ss.length=n:=⟨_,rfl⟩
 rw [hn] at hrl ⊢
 rw [hm] at hll ⊢
 rw [hp] at hjl e1
 rw [hq] at hsl ⊢
 have HN:=hidP hn
 have HM:=hidP hm
 have HP:=hidP hp
 have HQ:=hidP hq
 clear hn hm hp hq
 cases y
 ·have HE:Hid (O = -1):=by unfold Hid;rw [← HO.out];unfold routeAtF;rw [if_neg (fun e=>by have h:=HWB.out;rw [e.1] at h;cases h)]
  go_wp2_with fail
  go_ret
  exact ⟨by rw [HE.out];rfl,HBW.out.trans (HB1.out.mono HBW.out.size)⟩
 have HWY:Hid (whyF ps js ss rs=0):=by have h:=HWB.out.symm;unfold Hid;exact of_decide_eq_true h
 have HALL:=hidP (all_line HWY.out)
 clear HWB
 by_cases hmp:m=p
 rotate_left
 ·have f0:((m:Int) != (p:Int))=true:=by rw [bne_iff_ne];omega
  have HE:Hid (O = -1):=by unfold Hid;rw [← HO.out];unfold routeAtF;rw [if_neg (fun e=>hmp (by rw [← HM.out,← HP.out];exact e.2))]
  clear hmp
  go_wp2_with fail
  go_ret
  exact ⟨by rw [HE.out];rfl,HBW.out.trans (HB1.out.mono HBW.out.size)⟩
 subst hmp
 have f0:((m:Int) != (m:Int))=false:=by simp
 have HI0:Hid (findR ss from_ ls (rs.drop 0) 0=O):=by
  unfold Hid
  rw [← HO.out]
  unfold routeAtF
  rw [if_pos ⟨HWY.out,by rw [HM.out,HP.out]⟩]
  rfl
 go_wp2_with fail
 clear f0 e0 e1
 go_loopw [31] (fun c wr => ∃ k:Nat,k≤n∧c = .int .i64 k∧Hid (findR ss from_ ls (rs.drop k) k=O)∧Hid (Below w1.heap.size w1 wr)) (fun c _=>n-(intOf c).toNat)
 case atStart=>exact ⟨0,Nat.zero_le _,rfl,HI0,Below.refl _ _⟩
 case round =>
  obtain ⟨k,hk,rfl,HI,HBr⟩:=hrel
  clear HI0
  by_cases hk':k<n
  ·have hki:(k:Int)<n:=by omega
   have hkl:k<rs.length:=by rw [HN.out];exact hk'
   obtain ⟨b,o,ha,hc⟩:=(HR1.out.below HBr.out).2.resolve_left (fun e=>by rw [e] at hkl;exact absurd hkl (Nat.not_lt_zero _))
   obtain ⟨d,⟨c0,c1,c2,c3,c4,c5,c6,c7⟩,ql⟩:=hc k hkl
   obtain ⟨a0,g0,a1,g1,a2,g2,a3,g3,a4,g4,a5,g5⟩:=d
   dsimp only at c2 c3 c4 c5 c6 c7
   have HST:=hidP (HI.out.symm.trans (findR_on hkl))
   have HLN:=hidP (HALL.out _ (List.getElem_mem hkl))
   generalize rs[k]=r at c0 c1 c2 c3 c4 c5 c6 c7 ql HST HLN
   have HQL:=hidP ql
   subst ha
   clear hc ql HI hkl
   obtain ⟨st,hst,est⟩:=HLN.out.start
   obtain ⟨sb,so,hsa,hsc⟩:=PieceCells.name (HS1.out.below HBr.out) hst
   have HNM:Hid (nmA ss r.start=ss[st].name):=by unfold Hid;rw [est];exact nmA_at hst
   generalize ss[st].name=nm at hsc HNM
   rw [HQ.out] at hst
   have hstI:(st:Int)<q:=by omega
   rw [est] at c0
   obtain ⟨n2,hn2⟩:∃ n2,r.lies.length=n2:=⟨_,rfl⟩
   have hm2:n2≤120:=by rw [← hn2];exact HLN.out.n2
   rw [hn2] at c3
   have HN2:=hidP hn2
   subst hsa
   obtain ⟨wq,hwq⟩:∃ u,u=wr:=⟨_,rfl⟩
   subst hwq
   go_upto_region 6 with fail
   generalize hW2:World.alloc wq _=W2
   have hb2:Below wq.heap.size wq W2:=by rw [← hW2];exact blo
   have y0:W2.cell? ⟨wq.heap.size,0,none⟩=some (.int .i64 st):=by rw [← hW2];simp [go_sem]
   have y3:W2.cell? ⟨wq.heap.size,3,none⟩=some (.slice a1 n2 g1):=by rw [← hW2];simp [go_sem]
   replace hsc:=cell_later hb2 hsc
   have HB2:Hid (Below w1.heap.size w1 W2):=HBr.out.trans (hb2.mono HBr.out.size)
   have HLS2:Hid (EndsAt W2 a1 r.lies):=(HQL.out.below hb2).lies
   generalize wq.heap.size=Y at y0 y3 ⊢
   clear hW2 hb2 c0 c1 c2 c3 c4 c5 c6 c7 HQL
   by_cases hnm:nm=from_
   rotate_left
   ·have k0:(nm.toList==from_.toList)=false:=beqS_ne hnm
    have HNX:Hid (findR ss from_ ls (rs.drop (k+1)) (k+1)=O):=by
     have h:=HST.out
     rw [if_neg (by unfold fitsR;rw [HNM.out];simp [hnm])] at h
     exact h.symm
    go_wp2_with fail
    go_roundw
    case rel=>exact ⟨k+1,by omega,by go_num,HNX,HB2⟩
    case measure=>simp [intOf];omega
   have k0:(nm.toList==from_.toList)=true:=by rw [hnm];simp
   have HFT:Hid (fitsR ss from_ ls r=fitsL ls r.lies):=by unfold Hid fitsR;rw [HNM.out];simp [hnm]
   go_wp2_with fail
   clear k0 y0 y3 hsc hnm
   go_loopw [13,47] (fun ft c wx => ∃ (j:Nat) (b:Bool),j≤n2∧ft = .bool b∧c = .int .i64 j∧Hid (b=true↔∀ i (hi:i<r.lies.length),i<j→(ls[r.lies[i].piece.toNat]?.getD 0==r.lies[i].side)=true)∧Hid (Below W2.heap.size W2 wx)) (fun _ c _=>n2-(intOf c).toNat)
   case atStart=>exact ⟨0,true,Nat.zero_le _,rfl,rfl,⟨(fun _ i _ h=>absurd h (Nat.not_lt_zero i)),fun _=>rfl⟩,Below.refl _ _⟩
   case round =>
    obtain ⟨j,ft,hj,rfl,rfl,HJ,HBx⟩:=hrel
    have HB1x:Hid (Below w1.heap.size w1 wr):=HB2.out.trans (HBx.out.mono HB2.out.size)
    by_cases hj':j<n2
    ·have hji:(j:Int)<n2:=by omega
     have hjl:j<r.lies.length:=by rw [HN2.out];exact hj'
     obtain ⟨b2,o2,ha2,hc2⟩:=(HLS2.out.below HBx.out).2.resolve_left (fun e=>by rw [e] at hjl;exact absurd hjl (Nat.not_lt_zero _))
     subst ha2
     have cx:=hc2 j hjl
     obtain ⟨jt,hjt,ejt,hsd⟩:=HLN.out.lies _ (List.getElem_mem hjl)
     clear hsd
     rw [HP.out] at hjt
     have hjm:jt<ls.length:=by rw [HM.out];exact hjt
     obtain ⟨lb,lo,hla,hlc⟩:=(HL1.out.below HB1x.out).2.resolve_left (fun e=>by rw [e] at hjm;exact absurd hjm (Nat.not_lt_zero _))
     subst hla
     have cv:=hlc jt hjm
     have HFJ:Hid (∀ b':Bool,(b'=true↔(ft=true∧(ls[r.lies[j].piece.toNat]?.getD 0==r.lies[j].side)=true))→(b'=true↔∀ i (hi:i<r.lies.length),i<j+1→(ls[r.lies[i].piece.toNat]?.getD 0==r.lies[i].side)=true)):=fun b' hb'=>by
      rw [hb']
      constructor
      ·rintro ⟨h1,h2⟩ i hi hij
       by_cases q:i<j
       ·exact HJ.out.1 h1 i hi q
       ·have:i=j:=by omega
        subst this
        exact h2
      ·intro h
       exact ⟨HJ.out.2 (fun i hi hij=>h i hi (by omega)),h j hjl (by omega)⟩
     have HGV:Hid (ls[r.lies[j].piece.toNat]?.getD 0=ls[jt]):=by unfold Hid;rw [ejt,Int.toNat_natCast,List.getElem?_eq_getElem hjm];rfl
     rw [HGV.out] at HFJ
     rw [ejt] at cx
     generalize ls[jt]=v at cv HFJ
     generalize r.lies[j].side=sd at cx HFJ
     obtain ⟨cx0,cx1⟩:=cx
     have hjtI:(jt:Int)<m:=by omega
     clear hc2 hlc HJ hjl hjm ejt HGV
     go_upto_region 11 with fail
     generalize hW3:World.alloc wr _=W3
     have hb3:Below wr.heap.size wr W3:=by rw [← hW3];exact blo
     have z0:W3.cell? ⟨wr.heap.size,0,none⟩=some (.int .i64 jt):=by rw [← hW3];simp [go_sem]
     have z1:W3.cell? ⟨wr.heap.size,1,none⟩=some (.int .i64 sd):=by rw [← hW3];simp [go_sem]
     replace cv:=cell_later hb3 cv
     have HB3:Hid (Below W2.heap.size W2 W3):=HBx.out.trans (hb3.mono HBx.out.size)
     generalize wr.heap.size=Z at z0 z1 ⊢
     clear hW3 hb3 cx0 cx1
     cases ft
     ·have HM3:Hid (¬ ∀ i (hi:i<r.lies.length),i<j+1→(ls[r.lies[i].piece.toNat]?.getD 0==r.lies[i].side)=true):=fun h=>by have:=(HFJ.out false (by simp)).2 h;cases this
      go_quiet (fail)
      go_wp2_with fail
      go_roundw
      case rel=>exact ⟨j+1,false,by omega,rfl,by go_num,⟨(fun h=>by cases h),fun h=>absurd h HM3.out⟩,bdrewN HB3.out _⟩
      case measure=>simp [intOf];omega
     ·have HM3:=hidP (HFJ.out (v==sd) (by simp))
      go_quiet (fail)
      go_wp2_with fail
      go_roundw
      case rel=>exact ⟨j+1,(v==sd),by omega,rfl,by go_num,HM3,bdrewN HB3.out _⟩
      case measure=>simp [intOf];omega
    ·have hji:¬ (j:Int)<n2:=by omega
     have HFL:Hid (fitsL ls r.lies=ft):=by
      unfold Hid
      cases ft
      ·have h1:¬ ∀ i (hi:i<r.lies.length),i<j→(ls[r.lies[i].piece.toNat]?.getD 0==r.lies[i].side)=true:=fun h=>by have:=HJ.out.2 h;cases this
       cases hf:fitsL ls r.lies with
       | false=>rfl
       | true =>
        exfalso
        apply h1
        intro i hi _
        unfold fitsL at hf
        rw [List.all_eq_true] at hf
        exact hf _ (List.getElem_mem hi)
      ·exact fitsL_true (fun i hi=>HJ.out.1 rfl i hi (by have:=HN2.out;omega))
     cases ft
     ·have HNX:Hid (findR ss from_ ls (rs.drop (k+1)) (k+1)=O):=by
       have h:=HST.out
       rw [HFT.out,HFL.out,if_neg (by simp)] at h
       exact h.symm
      go_wp2_with fail
      go_roundw
      case rel=>exact ⟨k+1,by omega,by go_num,HNX,HB1x⟩
      case measure=>simp [intOf];omega
     ·have HE:Hid (O=(k:Int)):=by
       unfold Hid
       have h:=HST.out
       rw [HFT.out,HFL.out,if_pos rfl] at h
       exact h
      go_wp2_with fail
      go_ret
      exact ⟨by rw [HE.out];rfl,HBW.out.trans ((HB1.out.trans (HB1x.out.mono HB1.out.size)).mono HBW.out.size)⟩
  ·have hki:¬ (k:Int)<n:=by omega
   have HE:Hid (O = -1):=by
    unfold Hid
    rw [← HI.out,List.drop_eq_nil_of_le (by rw [HN.out];omega)]
    rfl
   go_wp2_with fail
   go_ret
   exact ⟨by rw [HE.out];rfl,HBW.out.trans ((HB1.out.trans (HBr.out.mono HB1.out.size)).mono HBW.out.size)⟩
end Go.Proofs.YtmkdgnmmebldgabGreatDoor
