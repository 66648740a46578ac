import Derived.Test.YtmkdgnmmebldgabGreatDoorPl49
import Derived.WalkMore
import Derived.Scope
import Derived.Test.YtmkdgnmmebldgabGreatDoorPl44
import Derived.Test.YtmkdgnmmebldgabGreatDoorPl34
import Derived.Test.YtmkdgnmmebldgabGreatDoorPl18
set_option maxRecDepth 100000
set_option maxHeartbeats 8000000
namespace Go.Proofs.YtmkdgnmmebldgabGreatDoor
open Go.RowKit Go.Deep
theorem implListing_any (pa ja sa ra:Option Addr)(pc jc sc rc:Nat)(ps:List MPiece)(js:List MJoint)(ss:List MPiece)(rs:List MRoute)(w:World)(hp:Hid (PiecesAt w pa ps))(hj:Hid (JointsAt w ja js))(hs:Hid (PiecesAt w sa ss))(hr:Hid (RoutesAt w ra rs))(ht:Hid (TabU w)):
  Calls Tryz.prog 22 #[.agg #[.slice pa ps.length pc,.slice ja js.length jc],.slice sa ss.length sc,.slice ra rs.length rc] w fun e w' => ∃ t:ByteArray,e = .returned (.string t)∧t.data.toList=textF ps js ss rs∧Below w.heap.size w w':=by
 go_enter Tryz.func22,Tryz.ntmps22
 go_upto_region 1 with fail
 generalize hW:World.alloc w _=W
 have e0:W.cell? ⟨w.heap.size,0,none⟩=some (.slice pa ps.length pc):=by rw [← hW];simp [go_sem]
 have e1:W.cell? ⟨w.heap.size,1,none⟩=some (.slice ja js.length jc):=by rw [← hW];simp [go_sem]
 have hbW:Below w.heap.size w W:=by rw [← hW];exact blo
 clear hW
 have HLO:=hidP (linesOf_any pa ja sa ra pc jc sc rc ps js ss rs W (hp.out.below hbW) (hj.out.below hbW) (hs.out.below hbW) (hr.out.below hbW) (ht.out.below hbW))
 go_wp2_with (go_at_call 50;refine HLO.out.mono ?_;rintro e w1 ⟨t,rfl,ht1,hb1⟩)
 go_ret
 exact ⟨t,rfl,ht1,hbW.trans (hb1.mono hbW.size)⟩
theorem all_line {ps:List MPiece}{js:List MJoint}{ss:List MPiece}{rs:List MRoute}(h:whyF ps js ss rs=0):∀ r ∈ rs,LnOk ps js ss r:=by
 intro r hr
 by_cases h1:sigF ps js ss=(0,0)
 ·by_cases h2:300<rs.length
  ·rw [whyF_2 h1 h2] at h;omega
  ·by_cases h3:∀ r ∈ rs,bare r ∈ routesF ps js ss 0
   ·exact (routes_line ps js ss 0 _ (h3 r hr)).bare
   ·rw [whyF_3 h1 (by omega) (by simpa using h3)] at h;omega
 ·rw [whyF_1 h1] at h;omega
def whyB (ps:List MPiece)(js:List MJoint)(ss:List MPiece)(rs:List MRoute)(D : Decidable (∀ r ∈ rs, bare r ∈ routesF ps js ss 0) := Classical.propDecidable _) : Bool := decide (whyF ps js ss rs D =0)
theorem sameF_eq {q r:MRoute}:sameF q r=0↔q=r:=by
 constructor
 ·intro h
  by_cases e:wrongF q r=0
  ·exact wrongF_zero e
  ·exact absurd h (sameF_n e).2.1
 ·rintro rfl
  exact sameF_0 (wrongF_self q)
theorem l4route_any (pa ja sa ra:Option Addr)(pc jc sc rc:Nat)(ps:List MPiece)(js:List MJoint)(ss:List MPiece)(rs:List MRoute)(w:World)(hp:Hid (PiecesAt w pa ps))(hj:Hid (JointsAt w ja js))(hs:Hid (PiecesAt w sa ss))(hr:Hid (RoutesAt w ra rs)):
  Calls Tryz.prog 47 #[.agg #[.slice pa ps.length pc,.slice ja js.length jc],.slice sa ss.length sc,.slice ra rs.length rc] w fun e w'=>e = .returned (.bool (whyB ps js ss rs))∧Below w.heap.size w w':=by
 obtain ⟨O,hO⟩:∃ O,whyB ps js ss rs=O:=⟨_,rfl⟩
 rw [hO]
 have HO:=hidP hO
 clear hO
 have hrl:=hr.out.1
 unfold maxLen at hrl
 go_enter Tryz.func47,Tryz.ntmps47
 go_upto_region 1 with fail
 generalize hW:World.alloc w _=W
 have e0:W.cell? ⟨w.heap.size,0,none⟩=some (.slice pa ps.length pc):=by rw [← hW];simp [go_sem]
 have e1:W.cell? ⟨w.heap.size,1,none⟩=some (.slice ja js.length jc):=by rw [← hW];simp [go_sem]
 have HBW:Hid (Below w.heap.size w W):=by rw [← hW];exact blo
 have HP:=hidQ (hp.out.below HBW.out)
 have HJ:=hidQ (hj.out.below HBW.out)
 have HS:=hidQ (hs.out.below HBW.out)
 have HR:=hidQ (hr.out.below HBW.out)
 clear hW hp hj hs hr
 have HL1:=hidP (l1all_any pa ja sa pc jc sc ps js ss W HP HJ HS)
 obtain ⟨n,hn⟩:∃ n,rs.length=n:=⟨_,rfl⟩
 rw [hn] at hrl ⊢
 have HN:=hidP hn
 clear hn
 cases hc:((sigF ps js ss).1==0)
 ·have HE:Hid (O=false):=by
   unfold Hid
   rw [← HO.out]
   unfold whyB
   rw [whyF_1 (fun e=>by rw [e] at hc;simp at hc)]
   rfl
  rw [hc] at HL1
  clear hc
  go_wp2_with (go_at_call 32;refine HL1.out.mono ?_;rintro e w1 ⟨rfl,hb1⟩)
  go_ret
  exact ⟨by rw [HE.out];rfl,HBW.out.trans (hb1.mono HBW.out.size)⟩
 have HSIG:=hidP (sig_code (ps:=ps) (js:=js) (ss:=ss) (by simpa using hc))
 rw [hc] at HL1
 clear hc
 by_cases h3:300<n
 ·have f0:(300:Int)<n:=by omega
  have f1:decide ((300:Int)<n)=true:=by simp;omega
  have HE:Hid (O=false):=by
   unfold Hid
   rw [← HO.out]
   unfold whyB
   rw [whyF_2 HSIG.out (by rw [HN.out];exact h3)]
   rfl
  go_wp2_with (go_at_call 32;refine HL1.out.mono ?_;rintro e w1 ⟨rfl,hb1⟩)
  go_ret
  exact ⟨by rw [HE.out];rfl,HBW.out.trans (hb1.mono HBW.out.size)⟩
 have f0:¬ (300:Int)<n:=by omega
 have f1:decide ((300:Int)<n)=false:=by simp;omega
 have h3':n≤300:=by omega
 go_upto_region 3 with (go_at_call 32;refine HL1.out.mono ?_;rintro e w1 ⟨rfl,hb1⟩)
 replace e0:=cell_later hb1 e0
 replace e1:=cell_later hb1 e1
 have hze:=cellLt e0
 dsimp only at hze
 have HSR:=hidP (specRoutes_any pa ja sa pc jc sc ps js ss 0 w1 (HP.out.below hb1) (HJ.out.below hb1) (HS.out.below hb1))
 obtain ⟨want,hwant⟩:∃ q,routesF ps js ss 0=q:=⟨_,rfl⟩
 rw [hwant] at HSR
 have HWT:=hidP hwant
 obtain ⟨N,hN⟩:∃ N,want.length=N:=⟨_,rfl⟩
 have HNN:=hidP hN
 rw [hN] at HSR
 have HB1:=hidP hb1
 clear hwant HL1 hN hb1 h3 f0 f1
 go_upto_region 4 with (go_at_call 34;refine HSR.out.mono ?_;rintro e w3 ⟨wa,wc,rfl,hra,_,hb3⟩)
 have HB3:Hid (Below W.heap.size W w3):=HB1.out.trans (hb3.mono HB1.out.size)
 have HQ:=hidP hra
 have HRR:=hidP (HR.out.below HB3.out)
 have hNl:=hra.1
 unfold maxLen at hNl
 rw [HNN.out] at hNl
 clear hra hb3 e0 e1 hze HSR HB1 HR HP HJ HS
 have HW3:Hid (Below w.heap.size w w3):=HBW.out.trans (HB3.out.mono HBW.out.size)
 go_wp2_with fail
 go_loopw [29] (fun c wr => ∃ k:Nat,k≤n∧c = .int .i64 k∧Hid (∀ j (hj:j<rs.length),j<k→bare rs[j] ∈ want)∧Hid (Below w3.heap.size w3 wr)) (fun c _=>n-(intOf c).toNat)
 case atStart=>exact ⟨0,Nat.zero_le _,rfl,(fun j _ h=>absurd h (Nat.not_lt_zero j)),Below.refl _ _⟩
 case round =>
  obtain ⟨k,hk,rfl,HJ,HBr⟩:=hrel
  by_cases hk':k<n
  ·have hki:(k:Int)<n:=by omega
   have hkl:k<rs.length:=by rw [HN.out];exact hk'
   obtain ⟨b,o,ha,hc⟩:=(HRR.out.below HBr.out).2.resolve_left (fun e=>by rw [e] at hkl;exact absurd hkl (Nat.not_lt_zero _))
   obtain ⟨d,⟨c0,c1,c2,c3,c4,c5,c6,c7⟩,ql⟩:=hc k hkl
   have HMEM:=hidP (List.getElem_mem hkl)
   have HJ2:Hid (bare rs[k] ∈ want→∀ j (hj:j<rs.length),j<k+1→bare rs[j] ∈ want):=fun e j hj hjk=>by
    by_cases q:j<k
    ·exact HJ.out j hj q
    ·have:j=k:=by omega
     subst this
     exact e
   generalize rs[k]=r at c0 c1 c2 c3 c4 c5 c6 c7 ql HMEM HJ2
   have HQL:=hidP ql
   subst ha
   clear hc ql HJ hkl
   obtain ⟨wq,hwq⟩:∃ u,u=wr:=⟨_,rfl⟩
   subst hwq
   go_upto_region 7 with fail
   generalize hW2:World.alloc wq _=W2
   have hb2:Below wq.heap.size wq W2:=by rw [← hW2];exact blo
   have HX:Hid (RouteCell W2 wq.heap.size 0 d r):=by rw [← hW2];exact routeCell_box _ _ _ _
   have hzX:wq.heap.size<W2.heap.size:=by rw [← hW2];simp
   clear hW2 c0 c1 c2 c3 c4 c5 c6 c7
   have HB2:Hid (Below w3.heap.size w3 W2):=HBr.out.trans (hb2.mono HBr.out.size)
   have HBL:=hidP (bare_lists (HQL.out.below hb2))
   generalize wq.heap.size=X at HX hzX ⊢
   clear hb2 HQL
   go_wp2_with fail
   go_loopw [10,35] (fun mt c wx => ∃ (j:Nat) (b:Bool),j≤N∧mt = .bool b∧c = .int .i64 j∧Hid (b=true↔∃ i,∃ hi:i<want.length,i<j∧want[i]=bare r)∧Hid (Below W2.heap.size W2 wx)) (fun _ c _=>N-(intOf c).toNat)
   case atStart=>exact ⟨0,false,Nat.zero_le _,rfl,rfl,⟨(fun e=>by cases e),fun ⟨i,_,h,_⟩=>absurd h (Nat.not_lt_zero i)⟩,Below.refl _ _⟩
   case round =>
    obtain ⟨j,mt,hj,rfl,rfl,HMT,HBx⟩:=hrel
    have HB3x:Hid (Below w3.heap.size w3 wr):=HB2.out.trans (HBx.out.mono HB2.out.size)
    by_cases hj':j<N
    ·have hji:(j:Int)<N:=by omega
     have hjl:j<want.length:=by rw [HNN.out];exact hj'
     obtain ⟨b2,o2,ha2,hc2⟩:=(HQ.out.below HB3x.out).2.resolve_left (fun e=>by rw [e] at hjl;exact absurd hjl (Nat.not_lt_zero _))
     obtain ⟨d',⟨c0,c1,c2,c3,c4,c5,c6,c7⟩,ql⟩:=hc2 j hjl
     subst ha2
     have HM2:Hid (∀ b':Bool,(b'=true↔(mt=true∨want[j]=bare r))→(b'=true↔∃ i,∃ hi:i<want.length,i<j+1∧want[i]=bare r)):=fun b' hb'=>by
      rw [hb']
      constructor
      ·rintro (h | h)
       ·obtain ⟨i,hi,h1,h2⟩:=HMT.out.1 h
        exact ⟨i,hi,by omega,h2⟩
       ·exact ⟨j,hjl,by omega,h⟩
      ·rintro ⟨i,hi,h1,h2⟩
       by_cases q:i<j
       ·exact Or.inl (HMT.out.2 ⟨i,hi,q,h2⟩)
       ·have:i=j:=by omega
        subst this
        exact Or.inr h2
     generalize want[j]=q at c0 c1 c2 c3 c4 c5 c6 c7 ql HM2
     have HQL:=hidP ql
     have hx:=HX.out.below HBx.out
     have x0:=hx.k0
     have x1:=hx.k1
     have x2:=hx.k2
     have x3:=hx.k3
     have x4:=hx.k4
     have x5:=hx.k5
     have x6:=hx.k6
     have x7:=hx.k7
     simp only [Nat.zero_add] at x0 x1 x2 x3 x4 x5 x6 x7
     have hzX2:X<wr.heap.size:=Nat.lt_of_lt_of_le hzX HBx.out.size
     clear hc2 ql hx hjl HMT
     go_upto_region 13 with fail
     generalize hW3:World.alloc (World.alloc wr _) _=W3
     have hb3:Below wr.heap.size wr W3:=by rw [← hW3];exact blo
     have HU:Hid (RouteCell W3 wr.heap.size 0 d' q):=by rw [← hW3];exact ⟨by simp [go_sem],by simp [go_sem],by simp [go_sem],by simp [go_sem],by simp [go_sem],by simp [go_sem],by simp [go_sem],by simp [go_sem]⟩
     have HV:Hid (RouteCell W3 (wr.heap.size+1) 0 (bareD d) (bare r)):=by rw [← hW3];exact ⟨by simp [go_sem,bare],by simp [go_sem,bare],by simp [go_sem,bare,bareD],by simp [go_sem,bare,bareD],by simp [go_sem,bare,bareD],by simp [go_sem,bare,bareD],by simp [go_sem,bare,bareD],by simp [go_sem,bare,bareD]⟩
     clear hW3 c0 c1 c2 c3 c4 c5 c6 c7 x0 x1 x2 x3 x4 x5 x6 x7
     have HB3:Hid (Below W2.heap.size W2 W3):=HBx.out.trans (hb3.mono HBx.out.size)
     have HL3:=hidP (l3same_any d' (bareD d) q (bare r) W3 (HQL.out.below hb3) (HBL.out.below HB3.out))
     have u0:=HU.out.k0
     have u1:=HU.out.k1
     have u2:=HU.out.k2
     have u3:=HU.out.k3
     have u4:=HU.out.k4
     have u5:=HU.out.k5
     have u6:=HU.out.k6
     have u7:=HU.out.k7
     have v0:=HV.out.k0
     have v1:=HV.out.k1
     have v2:=HV.out.k2
     have v3:=HV.out.k3
     have v4:=HV.out.k4
     have v5:=HV.out.k5
     have v6:=HV.out.k6
     have v7:=HV.out.k7
     simp only [Nat.zero_add] at u0 u1 u2 u3 u4 u5 u6 u7 v0 v1 v2 v3 v4 v5 v6 v7
     generalize wr.heap.size=Z at u0 u1 u2 u3 u4 u5 u6 u7 v0 v1 v2 v3 v4 v5 v6 v7 ⊢
     clear hb3 HU HV
     have HSE:Hid ((sameF q (bare r)==0)=true↔q=bare r):=by unfold Hid;rw [beq_iff_eq];exact sameF_eq
     obtain ⟨s,hs⟩:∃ s,sameF q (bare r)=s:=⟨_,rfl⟩
     rw [hs] at HL3 HSE
     clear hs
     go_wp2_with fail
     refine HL3.out.mono ?_
     rintro e w6 ⟨rfl,hb6⟩
     have HB6:Hid (Below W2.heap.size W2 w6):=HB3.out.trans (hb6.mono HB3.out.size)
     clear hb6 u0 u1 u2 u3 u4 u5 u6 u7 v0 v1 v2 v3 v4 v5 v6 v7 HL3
     cases mt
     ·have HM3:=hidP (HM2.out (s==0) (by rw [HSE.out];simp))
      go_wp2_with fail
      go_roundw
      case rel=>exact ⟨j+1,(s==0),by omega,rfl,by go_num,HM3,HB6⟩
      case measure=>simp [intOf];omega
     ·have HM3:Hid (true=true↔∃ i,∃ hi:i<want.length,i<j+1∧want[i]=bare r):=HM2.out true (by simp)
      go_wp2_with fail
      go_roundw
      case rel=>exact ⟨j+1,true,by omega,rfl,by go_num,⟨fun _=>HM3.out.1 trivial,fun _=>rfl⟩,HB6⟩
      case measure=>simp [intOf];omega
    ·have hji:¬ (j:Int)<N:=by omega
     have HMM:Hid (mt=true↔bare r ∈ want):=by
      unfold Hid
      rw [HMT.out]
      constructor
      ·rintro ⟨i,hi,_,h2⟩
       rw [← h2]
       exact List.getElem_mem hi
      ·intro hm
       obtain ⟨i,hi,e⟩:=List.getElem_of_mem hm
       exact ⟨i,hi,by have:=HNN.out;omega,e⟩
     cases mt
     ·have HE:Hid (O=false):=by
       unfold Hid
       rw [← HO.out]
       unfold whyB
       rw [whyF_3 HSIG.out (by rw [HN.out];exact h3') ⟨r,HMEM.out,by rw [HWT.out];exact fun h=>by have:=HMM.out.2 h;cases this⟩]
       rfl
      go_wp2_with fail
      go_ret
      exact ⟨by rw [HE.out];rfl,HW3.out.trans (HB3x.out.mono HW3.out.size)⟩
     ·have HJ3:=hidP (HJ2.out (HMM.out.1 rfl))
      go_wp2_with fail
      go_roundw
      case rel=>exact ⟨k+1,by omega,by go_num,HJ3,HB3x⟩
      case measure=>simp [intOf];omega
  ·have hki:¬ (k:Int)<n:=by omega
   have HE:Hid (O=true):=by
    unfold Hid
    rw [← HO.out]
    unfold whyB
    rw [whyF_0 HSIG.out (by rw [HN.out];exact h3') (fun r hr=>by
     obtain ⟨j,hj,e⟩:=List.getElem_of_mem hr
     rw [← e,HWT.out]
     exact HJ.out j hj (by have:=HN.out;omega))]
    rfl
   go_wp2_with fail
   go_ret
   exact ⟨by rw [HE.out];rfl,HW3.out.trans (HBr.out.mono HW3.out.size)⟩
end Go.Proofs.YtmkdgnmmebldgabGreatDoor
namespace Go.Proofs.YtmkdgnmmebldgabGreatDoor
open Go.RowKit
def loudX (d:Nat)(o:Oper):Bool:=loudB o || (o.dst==some d)
def wpV (d:Nat)(P:Program)(l:List Oper)(C:World→Prop)(n:Nat)(Q:Exit→Act→World→Prop)(f:Nat)(listed:Array Bool)(a:Act)(w:World):Prop:=
 treeB l n=true→HeadInv .any l.toArray n listed→C w →
  wpAnyM P .any l.toArray C (loudX d) n (fun listed' a' w'=>Region.seqB .any l.toArray (l.length-n) n listed'=true∧wpList P l.toArray Q (l.drop n) a' w') f listed a w
section
variable {d:Nat} {P:Program} {l:List Oper} {C:World→Prop} {n:Nat} {Q:Exit→Act→World→Prop}
theorem wpV_see (i:Nat){o:Oper}{rest:List Oper}{f:Nat}{listed:Array Bool}{a:Act}{w:World}(hi:l.drop i=o::rest)(hw:Region.wanted o (yielded l.toArray a.tmps)=true)
  (hB:((readB o && !(o.dst==some d))&&(decide (i<n)&&((Region.ready .any l.toArray listed).contains i&&Region.free .any l.toArray listed i)))=true)
  (h:∀ K:Act→Prop,(∀ a,wpV d P l C n Q f (listed.setIfInBounds i true) a w→K a)→o.quiet P a C K):wpV d P l C n Q (f+1) listed a w:=by
 intro hT inv hC
 have hT':=hT
 simp only [treeB,Bool.and_eq_true,decide_eq_true_eq] at hT'
 obtain ⟨⟨⟨hsel,hn⟩,hs⟩,hc⟩:=hT'
 simp only [Bool.and_eq_true,decide_eq_true_eq] at hB
 obtain ⟨⟨hr,hd⟩,hin,hrd,hf⟩:=hB
 have h0:=at_drop hi
 have hr':i ∈ Region.ready .any l.toArray listed:=by simpa using hrd
 have hlo:loudX d o=false:=by
  unfold loudX
  have h1:loudB o=false:=by unfold readB at hr;rw [Bool.and_eq_true,Bool.not_eq_true'] at hr;exact hr.1
  rw [h1,Bool.false_or]
  simpa using hd
 have hm:=wpMix_read (P:=P) (ops:=l.toArray) (C:=C) (lo:=loudX d) (T:=fun a w=>wpV d P l C n Q f (listed.setIfInBounds i true) a w) (rest:=[]) hw hlo (fun w f args w'=>not_enter hr _ w f args w') (fun K hK=>h K hK)
 obtain ⟨v,hy,hk⟩:=yieldsM_of (Or.inl hlo) (show mixO P l.toArray C (loudX d) o (fun a w=>wpV d P l C n Q f (listed.setIfInBounds i true) a w) a w from hm)
 exact wpAnyM_first h0 (Region.noSelect_spec hsel) hs hc (by simpa using hn) hin (fun listed' a' w' hL=>seqB_ready hL.1) f listed a w hC inv (Region.free_spec h0 hf) hr' (Or.inl hlo) hy (hk hT (inv.set hr' hin) hC)
theorem wpV_loud (i:Nat){o:Oper}{rest:List Oper}{f:Nat}{listed:Array Bool}{a:Act}{w:World}(hi:l.drop i=o::rest)(hw:Region.wanted o (yielded l.toArray a.tmps)=true)
  (hB:(loudX d o&&(decide (i<n)&&decide (Region.ready .any l.toArray listed=[i])))=true)
  (h:∀ K:Act→World→Prop,(∀ a w,C w→wpV d P l C n Q f (listed.setIfInBounds i true) a w→K a w)→wpList P l.toArray (fun e a w=>e = .normal∧K a w) [o] a w):wpV d P l C n Q (f+1) listed a w:=by
 intro hT inv hC
 simp only [Bool.and_eq_true,decide_eq_true_eq] at hB
 obtain ⟨hlo,hin,hrd⟩:=hB
 refine ⟨by rw [hrd];simp,fun j hj=>?_⟩
 have hj':j=i:=by rw [hrd] at hj;simpa using hj
 subst hj'
 refine ⟨hin,?_⟩
 unfold mixOp
 simp only [at_drop hi]
 exact mixO_mono hC (fun a w hC' hk=>hk hT (inv.set hj hin) hC') (wpMix_loud (rest:=[]) hw hlo h)
theorem wpV_done {listed:Array Bool}{a:Act}{w:World}(hB:Region.seqB .any l.toArray (l.length-n) n listed=true)(h:wpList P l.toArray Q (l.drop n) a w):wpV d P l C n Q 0 listed a w:=
 fun _ _ _=>⟨hB,h⟩
theorem wp_region_treeV {id:Nat}{a:Act}{w:World}(d:Nat)(C:World→Prop)(n:Nat)(hm:P.follows .mixedOrders=true)(hB:treeB l n=true)(hC:C w.drew)
  (h:wpV d P l C n Q n (Array.replicate l.length false) a w.drew):(Code.region id l.toArray true).wp P Q a w:=by
 have hB':=hB
 simp only [treeB,Bool.and_eq_true,decide_eq_true_eq] at hB'
 obtain ⟨⟨⟨hsel,hn⟩,hs⟩,hc⟩:=hB'
 have hdl:(l.drop n).length=l.length-n:=by simp
 have inv0:HeadInv .any l.toArray n (Array.replicate l.length false):=
  ⟨by simp,fun j oj _ hl=>(by rw [getD_replicate_false] at hl;cases hl),fun t _ ht=>getD_in (by simpa using ht) (getD_replicate_false _ _)⟩
 have H:=h hB inv0 hC
 refine wp_region_any hm ?_
 have:=wpAny_of_mix (Q:=Q) (g:=l.length-n) (fun listed a' w' hL=>by
  have:=wpAny_of_seq (md:=.any) (Q':=Q) (l.drop n) n listed a' w' (fun j=>by simp [List.getElem?_drop]) (by rw [hdl];exact hL.1) hL.2
  rwa [hdl] at this) _ _ _ _ hC H
 rw [show n+(l.length-n)=l.toArray.size by simp;omega] at this
 simpa using this
end
end Go.Proofs.YtmkdgnmmebldgabGreatDoor
