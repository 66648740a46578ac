import Derived.Test.YtmkdgnmmebldgaaGreatDoorPw44
import Derived.Test.YtmkdgnmmebldgaaGreatDoorPw45
import Derived.Test.YtmkdgnmmebldgaaGreatDoorPw47
import Derived.Test.YtmkdgnmmebldgaaGreatDoorPw42
set_option maxRecDepth 100000
set_option maxHeartbeats 8000000
namespace Go.Proofs.YtmkdgnmmebldgaaGreatDoor
open Go.RowKit Go.Deep
def bare (r:MRoute):MRoute:=⟨r.start,r.stop,r.steps,r.lies,r.crosses,r.parts,[],r.flanks⟩
def bareD (d:RAddr):RAddr:=⟨d.a0,d.c0,d.a1,d.c1,d.a2,d.c2,d.a3,d.c3,none,0,d.a5,d.c5⟩
theorem bare_lists {w:World}{d:RAddr}{r:MRoute}(h:RListsAt w d r):RListsAt w (bareD d) (bare r):=⟨h.steps,h.lies,h.crosses,h.parts,⟨Nat.zero_le _,Or.inl rfl⟩,h.flanks,h.nil1⟩
theorem wrongF_self (r:MRoute):wrongF r r=0:=by
 unfold wrongF;rw [if_pos ⟨rfl,rfl,eqL_t rfl⟩,if_pos ⟨eqL_t rfl,eqL_t rfl⟩,if_pos ⟨eqL_t rfl,eqL_t rfl⟩,if_pos (eqL_t rfl)]
theorem known_any (A:LAd)(L:Nat)(bs:List UInt8)(d:RAddr)(r:MRoute)(rights:List MRoute)(w:World)(h:Hid (LS A L w bs))(hr:Hid (RListsAt w d r))(hR:Hid (RoutesAt w A.ra rights))(hn:A.rn=rights.length):
  Calls Tryz.prog 127 #[.pointer (some ⟨L,0,none⟩),routeV d r] w fun e w'=>((bare r ∈ rights/\e = .returned (.tuple #[]))\/(bare r ∉ rights/\e=leaves 3))/\Below w.heap.size w w':=by
 have hlt:=h.out.lt;have hl:=hR.out.1;unfold maxLen at hl;unfold routeV
 go_enter Tryz.func127,Tryz.ntmps127
 go_upto_region 2 with fail
 generalize hW:World.alloc w _=W;have hbW:Below w.heap.size w W:=by rw [<-hW];exact blo
 have HX:Hid (RouteCell W w.heap.size 0 (bareD d) (bare r)):=by rw [<-hW];exact ⟨by simp [go_sem,bare],by simp [go_sem,bare],by simp [go_sem,bare,bareD],by simp [go_sem,bare,bareD],by simp [go_sem,bare,bareD],by simp [go_sem,bare,bareD],by simp [go_sem,bare,bareD],by simp [go_sem,bare,bareD]⟩
 have HBW:=hidP hbW;have HRW:=hidP (bare_lists (hr.out.below hbW));have HQ:=hidP (hR.out.below hbW);have e3:=(h.out.below hbW).cell.2.2.2;rw [hn] at e3;obtain ⟨X,hXe⟩:∃ X,w.heap.size=X:=⟨_,rfl⟩;have HXE:=hidP hXe;rw [hXe] at HX hlt ⊢;have hzX:X<W.heap.size:=HX.out.k0 |> cellLt
 clear hW hbW hXe h hr hR;obtain ⟨n,hn0⟩:∃ n,rights.length=n:=⟨_,rfl⟩;rw [hn0] at e3 hl;have HN:=hidP hn0;clear hn0 hn;have hLX:L≠X:=by omega
 obtain ⟨r0,hr0⟩:∃ r0,bare r=r0:=⟨_,rfl⟩;have HR0:=hidP hr0;rw [hr0] at HX HRW;clear hr0;generalize bareD d=d0 at HX HRW
 go_wp2_with fail
 clear e3
 go_loopw [12] (fun c wr => ∃ k:Nat,k<=n/\c = .int .i64 k/\Hid (∀ j (hj:j<rights.length),j<k->r0≠rights[j])/\Hid (Below W.heap.size W wr)) (fun c _=>n-(intOf c).toNat)
 case atStart=>exact ⟨0,Nat.zero_le _,rfl,(fun j _ h=>absurd h (Nat.not_lt_zero j)),Below.refl _ _⟩
 case round =>
  obtain ⟨k,hk,rfl,HJ,HBr⟩:=hrel
  by_cases hk':k<n
  ·have hki:(k:Int)<n:=by omega
   have hkl:k<rights.length:=by rw [HN.out];exact hk'
   obtain ⟨b,o,ha,hc⟩:=(HQ.out.below HBr.out).2.resolve_left (fun e=>by rw [e] at hkl;exact absurd hkl (Nat.not_lt_zero _))
   obtain ⟨d',⟨c0,c1,c2,c3,c4,c5,c6,c7⟩,ql⟩:=hc k hkl;have HMEM:Hid (r0=rights[k]->r0 ∈ rights):=fun e=>by rw [e];exact List.getElem_mem hkl
   have HJ2:Hid (r0≠rights[k]->∀ j (hj:j<rights.length),j<k+1->r0≠rights[j]):=fun e j hj hjk=>by
    by_cases q:j<k
    ·exact HJ.out j hj q
    ·have:j=k:=by omega
     subst this;exact e
   generalize rights[k]=q at c0 c1 c2 c3 c4 c5 c6 c7 ql HMEM HJ2;have HQL:=hidP ql;rw [ha];clear hc ql HJ hkl ha
   go_upto_region 5 with fail
   generalize hW2:World.alloc wr _=W2;have hb2:Below wr.heap.size wr W2:=by rw [<-hW2];exact blo
   have HY:Hid (RouteCell W2 wr.heap.size 0 d' q):=by rw [<-hW2];exact routeCell_box _ _ _ _
   have hzY:wr.heap.size<W2.heap.size:=by rw [<-hW2];simp
   clear hW2 c0 c1 c2 c3 c4 c5 c6 c7;have HB2:Hid (Below W.heap.size W W2):=HBr.out.trans (hb2.mono HBr.out.size);have HQL2:=hidP (HQL.out.below hb2);have HX2:=hidP (HX.out.below HB2.out);have HRW2:=hidP (HRW.out.below HB2.out);have x0:=HX2.out.k0;have x1:=HX2.out.k1;have x2:=HX2.out.k2;have x3:=HX2.out.k3;have x4:=HX2.out.k4;have x5:=HX2.out.k5;have x6:=HX2.out.k6;have x7:=HX2.out.k7;have y0:=HY.out.k0;have y1:=HY.out.k1;have y2:=HY.out.k2;have y3:=HY.out.k3;have y4:=HY.out.k4;have y5:=HY.out.k5;have y6:=HY.out.k6;have y7:=HY.out.k7;simp only [Nat.zero_add] at x0 x1 x2 x3 x4 x5 x6 x7 y0 y1 y2 y3 y4 y5 y6 y7;generalize wr.heap.size=Y at y0 y1 y2 y3 y4 y5 y6 y7 hzY ⊢;clear hb2 HX2 HY
   go_wp2_with fail
   refine (routeWrong_any d0 d' r0 q W2 HRW2 HQL2).mono ?_;rintro e w3 ⟨rfl,hb3⟩;have HB3:Hid (Below W.heap.size W w3):=HB2.out.trans (hb3.mono HB2.out.size);clear hb3 x0 x1 x2 x3 x4 x5 x6 x7 y0 y1 y2 y3 y4 y5 y6 y7
   by_cases hv:wrongF r0 q=0
   ·have HE:=hidP (HMEM.out (wrongF_zero hv));have f0:(wrongF r0 q==0)=true:=by simpa using hv
    generalize wrongF r0 q=v at f0 ⊢;clear hv
    go_wp2_with fail
    refine bodyPost_ret (results_none rfl _ _ _) rfl ?_;exact ⟨Or.inl ⟨by rw [HR0.out];exact HE.out,rfl⟩,HBW.out.trans (HB3.out.mono HBW.out.size)⟩
   ·have HJ3:=hidP (HJ2.out (fun e=>hv (by rw [e];exact wrongF_self q)))
    have f0:(wrongF r0 q==0)=false:=by simpa using hv
    generalize wrongF r0 q=v at f0 ⊢;clear hv
    go_wp2_with fail
    go_roundw
    case rel=>exact ⟨k+1,by omega,by go_num,HJ3,HB3⟩
    case measure=>simp [intOf];omega
  ·have hki:¬ (k:Int)<n:=by omega
   have HNO:Hid (r0 ∉ rights):=fun hm=>by
    obtain ⟨j,hj,e⟩:=List.getElem_of_mem hm;exact HJ.out j hj (by have:=HN.out;omega) e.symm
   go_wp2_with fail
   exact ⟨rfl,Or.inr ⟨by rw [HR0.out];exact HNO.out,rfl⟩,HBW.out.trans (HBr.out.mono HBW.out.size)⟩
def linesT (ps:List MPiece)(js:List MJoint)(ss:List MPiece):Nat->List MRoute->List UInt8
 | _,[]=>[]
 | i,r::t=>lineT ps js ss i r++linesT ps js ss (i+1) t
theorem linesT_snoc (ps:List MPiece)(js:List MJoint)(ss:List MPiece):∀ (xs:List MRoute) (i:Nat) (y:MRoute),linesT ps js ss i (xs++[y])=linesT ps js ss i xs++lineT ps js ss ((i+xs.length:Nat):Int) y
 | [],i,y=>by simp [linesT]
 | x::t,i,y=>by
  rw [List.cons_append];simp only [linesT];rw [linesT_snoc ps js ss t (i+1) y,List.append_assoc];have e:i+1+t.length=i+(x::t).length:=by simp only [List.length_cons];omega
  rw [e]
theorem linesT_on {ps:List MPiece}{js:List MJoint}{ss:List MPiece}{rs:List MRoute}{k:Nat}(h:k<rs.length):linesT ps js ss 0 (rs.take (k+1))=linesT ps js ss 0 (rs.take k)++lineT ps js ss (k:Int) rs[k]:=by
 rw [List.take_succ_eq_append_getElem h,linesT_snoc,List.length_take,Nat.zero_add,Nat.min_eq_left (by omega)]
theorem linesT_le {ps:List MPiece}{js:List MJoint}{ss:List MPiece}(N:Short20 ps js ss):∀ (xs:List MRoute) (i:Nat),(∀ r ∈ xs,LnOk ps js ss r)->i+xs.length<=1000->(linesT ps js ss i xs).length<=xs.length*1000000
 | [],i,_,_=>by simp [linesT]
 | x::t,i,h,hi=>by
  have h1:=lineT_le N (h x (by simp)) (i:=(i:Int)) (by omega) (by simp only [List.length_cons] at hi;omega)
  have h2:=linesT_le N t (i+1) (fun r hr=>h r (by simp [hr])) (by simp only [List.length_cons] at hi;omega)
  simp only [linesT,List.length_append,List.length_cons];omega
theorem LnOk.bare {ps:List MPiece}{js:List MJoint}{ss:List MPiece}{r:MRoute}(h:LnOk ps js ss (bare r)):LnOk ps js ss r:=⟨h.start,h.stop,h.steps,h.lies,h.flanks,h.n1,h.n2,h.n3⟩
structure Und (w0:World)(A:LAd)(ps:List MPiece)(js:List MJoint)(ss:List MPiece)(a:Option Addr)(rs rights:List MRoute):Prop where
 net:NetL w0 A ps js ss
 rs:RoutesAt w0 a rs
 rts:RoutesAt w0 A.ra rights
 rn:A.rn=rights.length
 tab:TabU w0
theorem lines_any (A:LAd)(w0:World)(ps:List MPiece)(js:List MJoint)(ss:List MPiece)(a:Option Addr)(cap:Nat)(rs rights:List MRoute)(w:World)(U:Hid (Und w0 A ps js ss a rs rights))(N:Hid (Short20 ps js ss))(hok:Hid (∀ r ∈ rights,LnOk ps js ss r))(hb0:Hid (Below w0.heap.size w0 w))(h:Hid (LS A w0.heap.size w [])):
  Calls Tryz.prog 97 #[.pointer (some ⟨w0.heap.size,0,none⟩),.slice a rs.length cap] w fun e w'=>((300<rs.length/\e=leaves 2)\/(rs.length<=300/\(∃ r ∈ rs,bare r ∉ rights)/\e=leaves 3)\/(rs.length<=300/\(∀ r ∈ rs,bare r ∈ rights)/\e = .returned (.tuple #[])/\LS A w0.heap.size w' (linesT ps js ss 0 rs)))/\Below w0.heap.size w0 w':=by
 have hl:=U.out.rs.1;unfold maxLen at hl;obtain ⟨n,hn⟩:∃ n,rs.length=n:=⟨_,rfl⟩;obtain ⟨L,hL⟩:∃ L,w0.heap.size=L:=⟨_,rfl⟩;rw [hn] at hl ⊢;rw [hL] at hb0 h ⊢;have HN:=hidP hn;have HL:=hidP hL;clear hn hL
 go_enter Tryz.func97,Tryz.ntmps97
 by_cases h3:300<n
 ·have f0:(300:Int)<n:=by omega
  have H3:=hidP h3;clear h3
  go_wp2_with fail
  exact ⟨rfl,Or.inl ⟨H3.out,rfl⟩,hb0.out⟩
 have f0:¬ (300:Int)<n:=by omega
 have h3':n<=300:=by omega
 go_wp2_with fail
 clear f0
 go_loopw [12] (fun c wr => ∃ k:Nat,k<=n/\c = .int .i64 k/\Hid (∀ j (hj:j<rs.length),j<k->bare rs[j] ∈ rights)/\Hid (LS A L wr (linesT ps js ss 0 (rs.take k)))/\Hid (Below L w0 wr)) (fun c _=>n-(intOf c).toNat)
 case atStart=>exact ⟨0,Nat.zero_le _,rfl,(fun j _ h=>absurd h (Nat.not_lt_zero j)),by unfold Hid;rw [List.take_zero];exact h.out,hb0⟩
 case round =>
  obtain ⟨k,hk,rfl,HJ,HLS,HBr⟩:=hrel;clear h hb0
  by_cases hk':k<n
  ·have hki:(k:Int)<n:=by omega
   have hkl:k<rs.length:=by rw [HN.out];exact hk'
   obtain ⟨b,o,ha,hc⟩:=U.out.rs.2.resolve_left (fun e=>by rw [e] at hkl;exact absurd hkl (Nat.not_lt_zero _))
   obtain ⟨d,qc,ql⟩:=hc k hkl;have hB:Below w0.heap.size w0 wr:=by rw [HL.out];exact HBr.out
   obtain ⟨c0,c1,c2,c3,c4,c5,c6,c7⟩:=qc.below hB;have HQL:=hidP ql;have HON:=hidP (linesT_on (ps:=ps) (js:=js) (ss:=ss) hkl);have HMEM:=hidP (List.getElem_mem hkl);have HJ2:Hid (bare rs[k] ∈ rights->∀ j (hj:j<rs.length),j<k+1->bare rs[j] ∈ rights):=fun e j hj hjk=>by
    by_cases q:j<k
    ·exact HJ.out j hj q
    ·have:j=k:=by omega
     subst this;exact e
   have HLE:Hid ((linesT ps js ss 0 (rs.take k)).length<=1000000000):=by
    have q:=linesT_le N.out (rs.take k) 0 (fun r hr=>by
     obtain ⟨j,hj,e⟩:=List.getElem_of_mem hr;rw [List.getElem_take] at e;rw [<-e];rw [List.length_take] at hj;exact (hok.out _ (HJ.out j (by omega) (by omega))).bare) (by rw [List.length_take];omega)
    rw [List.length_take] at q;unfold Hid;have:=HN.out;omega
   generalize rs[k]=r at c0 c1 c2 c3 c4 c5 c6 c7 HQL HON HMEM HJ2;have hLr:=HLS.out.lt;rw [ha];clear hc ql qc HJ hkl hB ha
   go_upto_region 5 with fail
   generalize hW2:World.alloc wr _=W2;have hb2:Below wr.heap.size wr W2:=by rw [<-hW2];exact blo
   have HY:Hid (RouteCell W2 wr.heap.size 0 d r):=by rw [<-hW2];exact routeCell_box _ _ _ _
   have hzY:wr.heap.size<W2.heap.size:=by rw [<-hW2];simp
   clear hW2 c0 c1 c2 c3 c4 c5 c6 c7;have HB2:Hid (Below L w0 W2):=HBr.out.trans (hb2.mono (Nat.le_of_lt hLr));have HLS2:=hidP (HLS.out.below hb2);have y0:=HY.out.k0;have y1:=HY.out.k1;have y2:=HY.out.k2;have y3:=HY.out.k3;have y4:=HY.out.k4;have y5:=HY.out.k5;have y6:=HY.out.k6;have y7:=HY.out.k7;simp only [Nat.zero_add] at y0 y1 y2 y3 y4 y5 y6 y7;have HKN:=hidP (known_any A L _ d r rights W2 HLS2 (HQL.out.below (by rw [HL.out];exact HB2.out)) (U.out.rts.below (by rw [HL.out];exact HB2.out)) U.out.rn)
   generalize wr.heap.size=Y at y0 y1 y2 y3 y4 y5 y6 y7 hzY HY ⊢;clear hb2 HLS HBr hLr
   go_wp2_with fail
   refine HKN.out.mono ?_;rintro e w3 ⟨hor,hb3⟩;rcases hor with ⟨hm,rfl⟩ | ⟨hm,rfl⟩
   rotate_left
   ·have HE:Hid (∃ r ∈ rs,bare r ∉ rights):=⟨r,HMEM.out,hm⟩;have HB3:Hid (Below L w0 w3):=HB2.out.trans (hb3.mono (Nat.le_of_lt HLS2.out.lt));clear hb3 hm y0 y1 y2 y3 y4 y5 y6 y7;unfold leaves
    go_wp2_with fail
    exact ⟨rfl,Or.inr (Or.inl ⟨h3',HE.out,rfl⟩),HB3.out⟩
   have HJ3:=hidP (HJ2.out hm);have HLO:=hidP (hok.out _ hm).bare;have HB3:Hid (Below L w0 w3):=HB2.out.trans (hb3.mono (Nat.le_of_lt HLS2.out.lt));have HLS3:=hidP (HLS2.out.below hb3);replace y0:=cell_later hb3 y0;replace y1:=cell_later hb3 y1;replace y2:=cell_later hb3 y2;replace y3:=cell_later hb3 y3;replace y4:=cell_later hb3 y4;replace y5:=cell_later hb3 y5;replace y6:=cell_later hb3 y6;replace y7:=cell_later hb3 y7;have HU:Hid (AllU A L w3 ps js ss d r):=fun u hu=>by
    have q:Below w0.heap.size w0 u:=by rw [HL.out];exact HB3.out.trans hu
    exact ⟨U.out.net.below q,HQL.out.below q,U.out.tab.below q⟩
   have HLA:=hidP (line_any A L _ k d r w3 HLS3 HU N HLO (by omega) HLE.out)
   clear hb3 hm HKN HLS2 HB2 HY
   go_wp2_with fail
   refine HLA.out.mono ?_;rintro e w4 ⟨rfl,hl4,hk4⟩;have HLS4:Hid (LS A L w4 (linesT ps js ss 0 (rs.take (k+1)))):=by unfold Hid;rw [HON.out];exact hl4
   have HB4:Hid (Below L w0 w4):=HB3.out.trans hk4.bel;clear hl4 hk4 y0 y1 y2 y3 y4 y5 y6 y7 HLA HU HLS3 HB3
   go_wp2_with fail
   go_roundw
   case rel=>exact ⟨k+1,by omega,by go_num,HJ3,HLS4,HB4⟩
   case measure=>simp [intOf];omega
  ·have hki:¬ (k:Int)<n:=by omega
   have HALL:Hid (∀ r ∈ rs,bare r ∈ rights):=fun r hr=>by
    obtain ⟨j,hj,e⟩:=List.getElem_of_mem hr;rw [<-e];exact HJ.out j hj (by have:=HN.out;omega)
   have HLF:Hid (LS A L wr (linesT ps js ss 0 rs)):=by
    have q:=HLS.out;rw [List.take_of_length_le (by rw [HN.out];omega)] at q
    exact q
   go_wp2_with fail
   go_end0
   first | exact ⟨Or.inr ⟨HALL.out,rfl,HLF.out⟩,HBr.out⟩ | exact ⟨Or.inr (Or.inr ⟨h3',HALL.out,rfl,HLF.out⟩),HBr.out⟩
end Go.Proofs.YtmkdgnmmebldgaaGreatDoor
