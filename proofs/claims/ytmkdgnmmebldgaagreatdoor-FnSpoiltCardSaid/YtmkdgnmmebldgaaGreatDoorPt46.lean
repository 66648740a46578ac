import Derived.Test.YtmkdgnmmebldgaaGreatDoorPt2
import Derived.Test.YtmkdgnmmebldgaaGreatDoorPt35
import Derived.BigQuiet
import Derived.Deep.DeepCutAuto
import Derived.Test.YtmkdgnmmebldgaaGreatDoorPt18
import Derived.Test.YtmkdgnmmebldgaaGreatDoorPt14
set_option maxRecDepth 100000
set_option maxHeartbeats 8000000
namespace Go.Proofs.YtmkdgnmmebldgaaGreatDoor
open Go.RowKit Go.Deep
theorem wSteps_any (a a':Option Addr)(c c':Nat)(xs:List MEnd)(w:World)(hx:Hid (EndsAt w a xs))(hy:Hid (EndsAt w a' xs)):
  Calls Tryz.prog 18 #[.slice a xs.length c,.slice a' xs.length c'] w fun e w'=>e = .returned (.bool true)∧Below w.heap.size w w':=by
 have hl1:=hx.out.1
 unfold maxLen at hl1
 obtain ⟨n,hn⟩:∃ n,xs.length=n:=⟨_,rfl⟩
 rw [hn] at hl1 ⊢
 have HN:=hidP hn
 clear hn
 have f0:((n:Int) != (n:Int))=false:=by simp
 go_enter Tryz.func18,Tryz.ntmps18
 go_wp2_with fail
 go_loopw [13] (fun i wr => ∃ k:Nat,k≤n∧i = .int .i64 k∧Below w.heap.size w wr) (fun i _=>n-(intOf i).toNat)
 case atStart=>exact ⟨0,Nat.zero_le _,rfl,Below.refl _ _⟩
 case round =>
  obtain ⟨k,hk,rfl,hbr⟩:=hrel
  by_cases hk':k<n
  ·have hki:(k:Int)<n:=by omega
   have hkx:k<xs.length:=by rw [HN.out];exact hk'
   obtain ⟨b,o,ha,hc⟩:=(hx.out.below hbr).2.resolve_left (nz hkx)
   obtain ⟨b',o',ha',hc'⟩:=(hy.out.below hbr).2.resolve_left (nz hkx)
   subst ha ha'
   have cx:=hc k hkx
   have cy:=hc' k hkx
   generalize xs[k]=x at cx cy
   obtain ⟨x0,x1⟩:=x
   obtain ⟨cx0,cx1⟩:=cx
   obtain ⟨cy0,cy1⟩:=cy
   dsimp only at cx0 cy0 cx1 cy1
   have HBr:=hidP hbr
   clear hc hc' hbr hkx
   go_upto_region 6 with fail
   have b0:(x0 != x0)=false:=by simp
   have b1:(x1 != x1)=false:=by simp
   go_quiet (fail)
   go_wp2_with fail
   go_roundw
   case rel=>exact ⟨k+1,by omega,by go_num,bdrewN HBr.out _⟩
   case measure=>simp [intOf];omega
  ·have hki:¬ (k:Int)<n:=by omega
   go_wp2_with fail
   go_ret
   exact ⟨rfl,hbr⟩
theorem wParts_any (a a':Option Addr)(c c':Nat)(xs:List MPart)(w:World)(hx:Hid (PartsAt w a xs))(hy:Hid (PartsAt w a' xs)):
  Calls Tryz.prog 44 #[.slice a xs.length c,.slice a' xs.length c'] w fun e w'=>e = .returned (.bool true)∧Below w.heap.size w w':=by
 have hl1:=hx.out.1
 unfold maxLen at hl1
 obtain ⟨n,hn⟩:∃ n,xs.length=n:=⟨_,rfl⟩
 rw [hn] at hl1 ⊢
 have HN:=hidP hn
 clear hn
 have f0:((n:Int) != (n:Int))=false:=by simp
 go_enter Tryz.func44,Tryz.ntmps44
 go_wp2_with fail
 go_loopw [13] (fun i wr => ∃ k:Nat,k≤n∧i = .int .i64 k∧Below w.heap.size w wr) (fun i _=>n-(intOf i).toNat)
 case atStart=>exact ⟨0,Nat.zero_le _,rfl,Below.refl _ _⟩
 case round =>
  obtain ⟨k,hk,rfl,hbr⟩:=hrel
  by_cases hk':k<n
  ·have hki:(k:Int)<n:=by omega
   have hkx:k<xs.length:=by rw [HN.out];exact hk'
   obtain ⟨b,o,ha,hc⟩:=(hx.out.below hbr).2.resolve_left (nz hkx)
   obtain ⟨b',o',ha',hc'⟩:=(hy.out.below hbr).2.resolve_left (nz hkx)
   subst ha ha'
   have cx:=hc k hkx
   have cy:=hc' k hkx
   generalize xs[k]=x at cx cy
   obtain ⟨x0,x1,x2⟩:=x
   obtain ⟨cx0,cx1,cx2⟩:=cx
   obtain ⟨cy0,cy1,cy2⟩:=cy
   dsimp only at cx0 cy0 cx1 cy1 cx2 cy2
   have HBr:=hidP hbr
   clear hc hc' hbr hkx
   go_upto_region 6 with fail
   have b0:(x0 != x0)=false:=by simp
   have b1:(x1 != x1)=false:=by simp
   have b2:(x2 != x2)=false:=by simp
   go_quiet (fail)
   go_wp2_with fail
   go_roundw
   case rel=>exact ⟨k+1,by omega,by go_num,bdrewN HBr.out _⟩
   case measure=>simp [intOf];omega
  ·have hki:¬ (k:Int)<n:=by omega
   go_wp2_with fail
   go_ret
   exact ⟨rfl,hbr⟩
theorem wRoute_any (d d':RAddr)(r:MRoute)(w:World)(hx:Hid (RListsAt w d r))(hy:Hid (RListsAt w d' r)):
  Calls Tryz.prog 14 #[routeV d r,routeV d' r] w fun e w'=>e = .returned (.bool true)∧Below w.heap.size w w':=by
 obtain ⟨a0,g0,a1,g1,a2,g2,a3,g3,a4,g4,a5,g5⟩:=d
 obtain ⟨a0',g0',a1',g1',a2',g2',a3',g3',a4',g4',a5',g5'⟩:=d'
 unfold routeV
 dsimp only
 have hl1:=hx.out.lies.1
 have hl2:=hx.out.crosses.1
 have hl3:=hx.out.flanks.1
 unfold maxLen at hl1 hl2 hl3
 go_enter Tryz.func14,Tryz.ntmps14
 go_upto_region 1 with fail
 generalize hW:World.alloc (World.alloc w _) _=W
 have hbW:Below w.heap.size w W:=by rw [← hW];exact blo
 have x0:W.cell? ⟨w.heap.size,0,none⟩=some (.int .i64 r.start):=by rw [← hW];simp [go_sem]
 have y0:W.cell? ⟨w.heap.size+1,0,none⟩=some (.int .i64 r.start):=by rw [← hW];simp [go_sem]
 have x1:W.cell? ⟨w.heap.size,1,none⟩=some (.int .i64 r.stop):=by rw [← hW];simp [go_sem]
 have y1:W.cell? ⟨w.heap.size+1,1,none⟩=some (.int .i64 r.stop):=by rw [← hW];simp [go_sem]
 have x2:W.cell? ⟨w.heap.size,2,none⟩=some (.slice a0 r.steps.length g0):=by rw [← hW];simp [go_sem]
 have y2:W.cell? ⟨w.heap.size+1,2,none⟩=some (.slice a0' r.steps.length g0'):=by rw [← hW];simp [go_sem]
 have x3:W.cell? ⟨w.heap.size,3,none⟩=some (.slice a1 r.lies.length g1):=by rw [← hW];simp [go_sem]
 have y3:W.cell? ⟨w.heap.size+1,3,none⟩=some (.slice a1' r.lies.length g1'):=by rw [← hW];simp [go_sem]
 have x4:W.cell? ⟨w.heap.size,4,none⟩=some (.slice a2 r.crosses.length g2):=by rw [← hW];simp [go_sem]
 have y4:W.cell? ⟨w.heap.size+1,4,none⟩=some (.slice a2' r.crosses.length g2'):=by rw [← hW];simp [go_sem]
 have x5:W.cell? ⟨w.heap.size,5,none⟩=some (.slice a3 r.parts.length g3):=by rw [← hW];simp [go_sem]
 have y5:W.cell? ⟨w.heap.size+1,5,none⟩=some (.slice a3' r.parts.length g3'):=by rw [← hW];simp [go_sem]
 have x6:W.cell? ⟨w.heap.size,6,none⟩=some (.slice a4 r.over.length g4):=by rw [← hW];simp [go_sem]
 have y6:W.cell? ⟨w.heap.size+1,6,none⟩=some (.slice a4' r.over.length g4'):=by rw [← hW];simp [go_sem]
 have x7:W.cell? ⟨w.heap.size,7,none⟩=some (.slice a5 r.flanks.length g5):=by rw [← hW];simp [go_sem]
 have y7:W.cell? ⟨w.heap.size+1,7,none⟩=some (.slice a5' r.flanks.length g5'):=by rw [← hW];simp [go_sem]
 have HX:=hidP (hx.out.below hbW)
 have HY:=hidP (hy.out.below hbW)
 have HB:=hidP hbW
 clear hW hbW hx hy
 generalize w.heap.size=X at x0 x1 x2 x3 x4 x5 x6 x7 y0 y1 y2 y3 y4 y5 y6 y7 ⊢
 have X2:=hidP x2
 have Y2:=hidP y2
 have X3:=hidP x3
 have Y3:=hidP y3
 have X4:=hidP x4
 have Y4:=hidP y4
 have X5:=hidP x5
 have Y5:=hidP y5
 have X6:=hidP x6
 have Y6:=hidP y6
 have X7:=hidP x7
 have Y7:=hidP y7
 have f0:(r.start != r.start)=false:=by simp
 have f1:(r.stop != r.stop)=false:=by simp
 have HS:=hidP (fun u (hu:Below W.heap.size W u)=>wSteps_any a0 a0' g0 g0' r.steps u (hidQ (HX.out.below hu).steps) (hidQ (HY.out.below hu).steps))
 have HPA:=hidP (fun u (hu:Below W.heap.size W u)=>wParts_any a3 a3' g3 g3' r.parts u (hidQ (HX.out.below hu).parts) (hidQ (HY.out.below hu).parts))
 have HOV:=hidP (fun u (hu:Below W.heap.size W u)=>wParts_any a4 a4' g4 g4' r.over u (hidQ (HX.out.below hu).over) (hidQ (HY.out.below hu).over))
 go_wp2_with fail
 refine (HS.out W (Below.refl _ _)).mono ?_
 rintro e u1 ⟨rfl,hu1⟩
 have x5:=cell_later hu1 X5.out
 have y5:=cell_later hu1 Y5.out
 have HU1:=hidP hu1
 clear hu1 x0 x1 x2 x3 x4 x6 x7 y0 y1 y2 y3 y4 y6 y7 f0 f1 HS
 go_wp2_with fail
 refine (HPA.out u1 HU1.out).mono ?_
 rintro e u2 ⟨rfl,hu2⟩
 have HU2:Hid (Below W.heap.size W u2):=HU1.out.trans (hu2.mono HU1.out.size)
 have x6:=cell_later HU2.out X6.out
 have y6:=cell_later HU2.out Y6.out
 clear hu2 x5 y5 HU1 HPA
 go_wp2_with fail
 refine (HOV.out u2 HU2.out).mono ?_
 rintro e u3 ⟨rfl,hu3⟩
 have HU3:Hid (Below W.heap.size W u3):=HU2.out.trans (hu3.mono HU2.out.size)
 have x3:=cell_later HU3.out X3.out
 have y3:=cell_later HU3.out Y3.out
 have x4:=cell_later HU3.out X4.out
 have y4:=cell_later HU3.out Y4.out
 have x7:=cell_later HU3.out X7.out
 have y7:=cell_later HU3.out Y7.out
 clear hu3 x6 y6 HU2 HOV
 obtain ⟨n1,hn1⟩:∃ n,r.lies.length=n:=⟨_,rfl⟩
 obtain ⟨n2,hn2⟩:∃ n,r.crosses.length=n:=⟨_,rfl⟩
 obtain ⟨n3,hn3⟩:∃ n,r.flanks.length=n:=⟨_,rfl⟩
 rw [hn1] at x3 y3 X3 Y3 hl1
 rw [hn2] at x4 y4 X4 Y4 hl2
 rw [hn3] at x7 y7 X7 Y7 hl3
 have HN1:=hidP hn1
 have HN2:=hidP hn2
 have HN3:=hidP hn3
 clear hn1 hn2 hn3
 have f1:((n1:Int) != (n1:Int))=false:=by simp
 have f2:((n2:Int) != (n2:Int))=false:=by simp
 have f3:((n3:Int) != (n3:Int))=false:=by simp
 go_wp2_with fail
 clear x3 y3 x4 y4 x7 y7 f1 f2 f3
 go_loopw [72] (fun i wr => ∃ k:Nat,k≤n1∧i = .int .i64 k∧Below W.heap.size W wr) (fun i _=>n1-(intOf i).toNat)
 case atStart=>exact ⟨0,Nat.zero_le _,rfl,HU3.out⟩
 case round =>
  obtain ⟨k,hk,rfl,hbr⟩:=hrel
  by_cases hk':k<n1
  ·have hki:(k:Int)<n1:=by omega
   have hkx:k<r.lies.length:=by rw [HN1.out];exact hk'
   obtain ⟨b,o,ha,hc⟩:=(HX.out.below hbr).lies.2.resolve_left (nz hkx)
   obtain ⟨b',o',ha',hc'⟩:=(HY.out.below hbr).lies.2.resolve_left (nz hkx)
   simp only at ha ha'
   subst ha ha'
   have cx:=hc k hkx
   have cy:=hc' k hkx
   generalize r.lies[k]=x at cx cy
   obtain ⟨p0,p1⟩:=x
   obtain ⟨cx0,cx1⟩:=cx
   obtain ⟨cy0,cy1⟩:=cy
   dsimp only at cx0 cy0 cx1 cy1
   have b0:(p0 != p0)=false:=by simp
   have b1:(p1 != p1)=false:=by simp
   have HBr:=hidP hbr
   have x3:=cell_later hbr X3.out
   have y3:=cell_later hbr Y3.out
   clear hc hc' hbr hkx
   go_upto_region 8 with fail
   go_quiet (fail)
   go_wp2_with fail
   go_roundw
   case rel=>exact ⟨k+1,by omega,by go_num,bdrewN HBr.out _⟩
   case measure=>simp [intOf];omega
  ·have hki:¬ (k:Int)<n1:=by omega
   have HBr:=hidP hbr
   have x4:=cell_later hbr X4.out
   have y4:=cell_later hbr Y4.out
   clear hbr
   go_wp2_with fail
   clear x4 y4 hk hki
   go_loopw [90] (fun i wr => ∃ k:Nat,k≤n2∧i = .int .i64 k∧Below W.heap.size W wr) (fun i _=>n2-(intOf i).toNat)
   case atStart=>exact ⟨0,Nat.zero_le _,rfl,HBr.out⟩
   case round =>
    obtain ⟨k,hk,rfl,hbr⟩:=hrel
    by_cases hk':k<n2
    ·have hki:(k:Int)<n2:=by omega
     have hkx:k<r.crosses.length:=by rw [HN2.out];exact hk'
     obtain ⟨b,o,ha,hc⟩:=(HX.out.below hbr).crosses.2.resolve_left (nz hkx)
     obtain ⟨b',o',ha',hc'⟩:=(HY.out.below hbr).crosses.2.resolve_left (nz hkx)
     simp only at ha ha'
     subst ha ha'
     have cx:=hc k hkx
     have cy:=hc' k hkx
     generalize r.crosses[k]=x at cx cy
     have b0:(x != x)=false:=by simp
     have HBr:=hidP hbr
     have x4:=cell_later hbr X4.out
     have y4:=cell_later hbr Y4.out
     clear hc hc' hbr hkx
     go_upto_region 14 with fail
     go_quiet (fail)
     go_wp2_with fail
     go_roundw
     case rel=>exact ⟨k+1,by omega,by go_num,bdrewN HBr.out _⟩
     case measure=>simp [intOf];omega
    ·have hki:¬ (k:Int)<n2:=by omega
     have HBr:=hidP hbr
     have x7:=cell_later hbr X7.out
     have y7:=cell_later hbr Y7.out
     clear hbr
     go_wp2_with fail
     clear x7 y7 hk hki
     go_loopw [108] (fun i wr => ∃ k:Nat,k≤n3∧i = .int .i64 k∧Below W.heap.size W wr) (fun i _=>n3-(intOf i).toNat)
     case atStart=>exact ⟨0,Nat.zero_le _,rfl,HBr.out⟩
     case round =>
      obtain ⟨k,hk,rfl,hbr⟩:=hrel
      by_cases hk':k<n3
      ·have hki:(k:Int)<n3:=by omega
       have hkx:k<r.flanks.length:=by rw [HN3.out];exact hk'
       obtain ⟨b,o,ha,hc⟩:=(HX.out.below hbr).flanks.2.resolve_left (nz hkx)
       obtain ⟨b',o',ha',hc'⟩:=(HY.out.below hbr).flanks.2.resolve_left (nz hkx)
       simp only at ha ha'
       subst ha ha'
       have cx:=hc k hkx
       have cy:=hc' k hkx
       generalize r.flanks[k]=x at cx cy
       obtain ⟨p0,p1,p2,p3⟩:=x
       obtain ⟨cx0,cx1,cx2,cx3⟩:=cx
       obtain ⟨cy0,cy1,cy2,cy3⟩:=cy
       dsimp only at cx0 cy0 cx1 cy1 cx2 cy2 cx3 cy3
       have b0:(p0 != p0)=false:=by simp
       have b1:(p1 != p1)=false:=by simp
       have b2:(p2 != p2)=false:=by simp
       have b3:(p3 != p3)=false:=by simp
       have HBr:=hidP hbr
       have x7:=cell_later hbr X7.out
       have y7:=cell_later hbr Y7.out
       clear hc hc' hbr hkx
       go_upto_region 20 with fail
       go_quiet (fail)
       go_wp2_with fail
       go_roundw
       case rel=>exact ⟨k+1,by omega,by go_num,bdrewN HBr.out _⟩
       case measure=>simp [intOf];omega
      ·have hki:¬ (k:Int)<n3:=by omega
       have HBr:=hidP hbr
       clear hbr
       go_wp2_with fail
       go_ret
       exact ⟨rfl,HB.out.trans (HBr.out.mono HB.out.size)⟩
theorem wRoutes_any (a a':Option Addr)(c c':Nat)(rs:List MRoute)(w:World)(hx:Hid (RoutesAt w a rs))(hy:Hid (RoutesAt w a' rs)):
  Calls Tryz.prog 11 #[.slice a rs.length c,.slice a' rs.length c'] w fun e w'=>e = .returned (.bool true)∧Below w.heap.size w w':=by
 have hl1:=hx.out.1
 unfold maxLen at hl1
 obtain ⟨n,hn⟩:∃ n,rs.length=n:=⟨_,rfl⟩
 rw [hn] at hl1 ⊢
 have HN:=hidP hn
 clear hn
 have f0:((n:Int) != (n:Int))=false:=by simp
 go_enter Tryz.func11,Tryz.ntmps11
 go_wp2_with fail
 go_loopw [13] (fun i wr => ∃ k:Nat,k≤n∧i = .int .i64 k∧Hid (Below w.heap.size w wr)) (fun i _=>n-(intOf i).toNat)
 case atStart=>exact ⟨0,Nat.zero_le _,rfl,Below.refl _ _⟩
 case round =>
  obtain ⟨k,hk,rfl,HBr⟩:=hrel
  by_cases hk':k<n
  ·have hki:(k:Int)<n:=by omega
   have hkx:k<rs.length:=by rw [HN.out];exact hk'
   obtain ⟨b,o,ha,hc⟩:=(hx.out.below HBr.out).2.resolve_left (nz hkx)
   obtain ⟨b',o',ha',hc'⟩:=(hy.out.below HBr.out).2.resolve_left (nz hkx)
   subst ha ha'
   obtain ⟨d,dc,ql⟩:=hc k hkx
   obtain ⟨d',dc',ql'⟩:=hc' k hkx
   generalize rs[k]=r at dc ql dc' ql'
   have HWR:=hidP (fun u (hu:Below wr.heap.size wr u)=>wRoute_any d d' r u (hidQ (ql.below hu)) (hidQ (ql'.below hu)))
   clear hc hc' hkx ql ql'
   go_upto_region 6 with fail
   obtain ⟨S,hS⟩:∃ S:World→Prop,∀ u,S u↔Below wr.heap.size wr u:=⟨_,fun _=>Iff.rfl⟩
   have HS0:=hidP hS
   have yr:∀ u:Held S,RouteCell u.val b (o+k*8) d r:=fun u=>dc.below ((hS u.val).1 u.2)
   have zr:∀ u:Held S,RouteCell u.val b' (o'+k*8) d' r:=fun u=>dc'.below ((hS u.val).1 u.2)
   have v0:=fun u=>(yr u).k0
   have v1:=fun u=>(yr u).k1
   have v2:=fun u=>(yr u).k2
   have v3:=fun u=>(yr u).k3
   have v4:=fun u=>(yr u).k4
   have v5:=fun u=>(yr u).k5
   have v6:=fun u=>(yr u).k6
   have v7:=fun u=>(yr u).k7
   have z0:=fun u=>(zr u).k0
   have z1:=fun u=>(zr u).k1
   have z2:=fun u=>(zr u).k2
   have z3:=fun u=>(zr u).k3
   have z4:=fun u=>(zr u).k4
   have z5:=fun u=>(zr u).k5
   have z6:=fun u=>(zr u).k6
   have z7:=fun u=>(zr u).k7
   have hS1:S wr.drew:=(hS _).2 ((Below.refl _ _).drew)
   have hne:=held_ne hS1
   clear hS yr zr dc dc'
   refine wp_region_tree (fun w' => ∃ u:Held S,w'=u.val) 9 (by kernel_rfl) (by kernel_rfl) (held_some hS1) ?_
   (refine wpT_sea 0 ?_;intro K hK;go_big_quiet_op;go_big_quiet_on);(refine wpT_sea 1 ?_;intro K hK;go_big_quiet_op;go_big_quiet_on);(refine wpT_sea 2 ?_;intro K hK;go_big_quiet_op;go_big_quiet_on);(refine wpT_sea 3 ?_;intro K hK;go_big_quiet_op;go_big_quiet_on);(refine wpT_sea 4 ?_;intro K hK;go_big_quiet_op;go_big_quiet_on);(refine wpT_sea 5 ?_;intro K hK;go_big_quiet_op;go_big_quiet_on);(refine wpT_sea 6 ?_;intro K hK;go_big_quiet_op;go_big_quiet_on);(refine wpT_sea 7 ?_;intro K hK;go_big_quiet_op;go_big_quiet_on)
   refine wpT_loud 8 (by rfl) (by kernel_rfl) (by kernel_rfl) ?_
   intro KK hK
   go_wp2_with (go_at_call 14;refine (HWR.out _ ((Below.refl _ _).drew)).mono ?_;rintro e w5 ⟨rfl,hb5'⟩)
   have hb5:Below wr.heap.size wr w5:=(Below.refl _ _).drew.trans hb5'
   refine hK _ _ (held_some ((HS0.out _).2 hb5)) ?_
   have HB5:Hid (Below w.heap.size w w5):=HBr.out.trans (hb5.mono HBr.out.size)
   clear hK KK hb5' hb5 v0 v1 v2 v3 v4 v5 v6 v7 z0 z1 z2 z3 z4 z5 z6 z7 hS1 hne HWR
   refine wpT_done (by kernel_rfl) ?_
   go_wp2_with fail
   go_roundw
   case rel=>exact ⟨k+1,by omega,by go_num,HB5⟩
   case measure=>simp [intOf];omega
  ·have hki:¬ (k:Int)<n:=by omega
   go_wp2_with fail
   go_ret
   exact ⟨rfl,HBr.out⟩
end Go.Proofs.YtmkdgnmmebldgaaGreatDoor
