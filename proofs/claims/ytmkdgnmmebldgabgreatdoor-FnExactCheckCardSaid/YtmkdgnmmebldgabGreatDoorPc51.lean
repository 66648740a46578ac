import Derived.Test.YtmkdgnmmebldgabGreatDoorPc42
import Derived.Test.YtmkdgnmmebldgabGreatDoorPc34
import Derived.Test.YtmkdgnmmebldgabGreatDoorPc35
import Derived.Test.YtmkdgnmmebldgabGreatDoorPc36
import Derived.Deep.DeepCutAuto
set_option maxRecDepth 100000
set_option maxHeartbeats 8000000
namespace Go.Proofs.YtmkdgnmmebldgabGreatDoor
open Go.RowKit Go.Deep
theorem l3steps_any (a a':Option Addr)(c c':Nat)(xs ys:List MEnd)(w:World)(hx:Hid (EndsAt w a xs))(hy:Hid (EndsAt w a' ys)):
  Calls Tryz.prog 60 #[.slice a xs.length c,.slice a' ys.length c'] w fun e w'=>e = .returned (.bool (eqL xs ys))∧Below w.heap.size w w':=by
 have hl1:=hx.out.1
 have hl2:=hy.out.1
 unfold maxLen at hl1 hl2
 obtain ⟨n,hn⟩:∃ n,xs.length=n:=⟨_,rfl⟩
 obtain ⟨m,hm⟩:∃ m,ys.length=m:=⟨_,rfl⟩
 rw [hn] at hl1 ⊢
 rw [hm] at hl2 ⊢
 have HN:=hidP hn
 have HM:=hidP hm
 clear hn hm
 go_enter Tryz.func60,Tryz.ntmps60
 by_cases hnm:n=m
 rotate_left
 ·have hb:((n:Int) != (m:Int))=true:=by rw [bne_iff_ne];omega
  have HF:Hid (eqL xs ys=false):=eqL_len (by rw [HN.out,HM.out];exact hnm)
  clear hnm
  go_wp2_with fail
  go_ret
  exact ⟨by rw [HF.out];rfl,Below.refl _ _⟩
 subst hnm
 go_wp2_with fail
 go_loopw [13] (fun i wr => ∃ k:Nat,k≤n∧i = .int .i64 k∧Hid (xs.take k=ys.take k)∧Below w.heap.size w wr) (fun i _=>n-(intOf i).toNat)
 case atStart=>exact ⟨0,Nat.zero_le _,rfl,by unfold Hid;rw [List.take_zero,List.take_zero],Below.refl _ _⟩
 case round =>
  obtain ⟨k,hk,rfl,HT,hbr⟩:=hrel
  by_cases hk':k<n
  ·have hki:(k:Int)<n:=by omega
   have hkx:k<xs.length:=by rw [HN.out];exact hk'
   have hky:k<ys.length:=by rw [HM.out];exact hk'
   obtain ⟨b,o,ha,hc⟩:=(hx.out.below hbr).2.resolve_left (nz hkx)
   obtain ⟨b',o',ha',hc'⟩:=(hy.out.below hbr).2.resolve_left (nz hky)
   subst ha ha'
   have HTS:Hid (xs[k]=ys[k]→xs.take (k+1)=ys.take (k+1)):=fun e=>by rw [List.take_succ_eq_append_getElem hkx,List.take_succ_eq_append_getElem hky,HT.out,e]
   have HNE:Hid (xs[k]≠ys[k]→eqL xs ys=false):=eqL_at hkx hky
   have cx:=hc k hkx
   have cy:=hc' k hky
   generalize xs[k]=x at cx HTS HNE
   generalize ys[k]=y at cy HTS HNE
   obtain ⟨x0,x1⟩:=x
   obtain ⟨y0,y1⟩:=y
   obtain ⟨cx0,cx1⟩:=cx
   obtain ⟨cy0,cy1⟩:=cy
   dsimp only at cx0 cx1 cy0 cy1
   have HBr:=hidP hbr
   clear hc hc' hbr HT hkx hky
   go_upto_region 6 with fail
   by_cases h0:x0=y0
   rotate_left
   ·have HF:=hidP (HNE.out (fun e=>h0 (by injection e)))
    have f0:(x0==y0)=false:=by simpa using h0
    have f1:(x0 != y0)=true:=by simpa using h0
    clear h0
    go_quiet (fail)
    go_wp2_with fail
    go_ret
    exact ⟨by rw [HF.out];rfl,bdrewN HBr.out _⟩
   subst h0
   by_cases h1:x1=y1
   rotate_left
   ·have HF:=hidP (HNE.out (fun e=>h1 (by injection e)))
    have f0:(x1==y1)=false:=by simpa using h1
    have f1:(x1 != y1)=true:=by simpa using h1
    have b0:(x0==x0)=true:=by simp
    clear h1
    go_quiet (fail)
    go_wp2_with fail
    go_ret
    exact ⟨by rw [HF.out];rfl,bdrewN HBr.out _⟩
   subst h1
   have v:Hid (xs.take (k+1)=ys.take (k+1)):=HTS.out rfl
   have b0:(x0 != x0)=false:=by simp
   have b1:(x1 != x1)=false:=by simp
   go_quiet (fail)
   go_wp2_with fail
   go_roundw
   case rel=>exact ⟨k+1,by omega,by go_num,v,bdrewN HBr.out _⟩
   case measure=>simp [intOf];omega
  ·have hki:¬ (k:Int)<n:=by omega
   have HE:Hid (eqL xs ys=true):=eqL_t (by have h:=HT.out;rw [List.take_of_length_le (by rw [HN.out];omega),List.take_of_length_le (by rw [HM.out];omega)] at h;exact h)
   go_wp2_with fail
   go_ret
   exact ⟨by rw [HE.out];rfl,hbr⟩
theorem l3parts_any (a a':Option Addr)(c c':Nat)(xs ys:List MPart)(w:World)(hx:Hid (PartsAt w a xs))(hy:Hid (PartsAt w a' ys)):
  Calls Tryz.prog 61 #[.slice a xs.length c,.slice a' ys.length c'] w fun e w'=>e = .returned (.bool (eqL xs ys))∧Below w.heap.size w w':=by
 have hl1:=hx.out.1
 have hl2:=hy.out.1
 unfold maxLen at hl1 hl2
 obtain ⟨n,hn⟩:∃ n,xs.length=n:=⟨_,rfl⟩
 obtain ⟨m,hm⟩:∃ m,ys.length=m:=⟨_,rfl⟩
 rw [hn] at hl1 ⊢
 rw [hm] at hl2 ⊢
 have HN:=hidP hn
 have HM:=hidP hm
 clear hn hm
 go_enter Tryz.func61,Tryz.ntmps61
 by_cases hnm:n=m
 rotate_left
 ·have hb:((n:Int) != (m:Int))=true:=by rw [bne_iff_ne];omega
  have HF:Hid (eqL xs ys=false):=eqL_len (by rw [HN.out,HM.out];exact hnm)
  clear hnm
  go_wp2_with fail
  go_ret
  exact ⟨by rw [HF.out];rfl,Below.refl _ _⟩
 subst hnm
 go_wp2_with fail
 go_loopw [13] (fun i wr => ∃ k:Nat,k≤n∧i = .int .i64 k∧Hid (xs.take k=ys.take k)∧Below w.heap.size w wr) (fun i _=>n-(intOf i).toNat)
 case atStart=>exact ⟨0,Nat.zero_le _,rfl,by unfold Hid;rw [List.take_zero,List.take_zero],Below.refl _ _⟩
 case round =>
  obtain ⟨k,hk,rfl,HT,hbr⟩:=hrel
  by_cases hk':k<n
  ·have hki:(k:Int)<n:=by omega
   have hkx:k<xs.length:=by rw [HN.out];exact hk'
   have hky:k<ys.length:=by rw [HM.out];exact hk'
   obtain ⟨b,o,ha,hc⟩:=(hx.out.below hbr).2.resolve_left (nz hkx)
   obtain ⟨b',o',ha',hc'⟩:=(hy.out.below hbr).2.resolve_left (nz hky)
   subst ha ha'
   have HTS:Hid (xs[k]=ys[k]→xs.take (k+1)=ys.take (k+1)):=fun e=>by rw [List.take_succ_eq_append_getElem hkx,List.take_succ_eq_append_getElem hky,HT.out,e]
   have HNE:Hid (xs[k]≠ys[k]→eqL xs ys=false):=eqL_at hkx hky
   have cx:=hc k hkx
   have cy:=hc' k hky
   generalize xs[k]=x at cx HTS HNE
   generalize ys[k]=y at cy HTS HNE
   obtain ⟨x0,x1,x2⟩:=x
   obtain ⟨y0,y1,y2⟩:=y
   obtain ⟨cx0,cx1,cx2⟩:=cx
   obtain ⟨cy0,cy1,cy2⟩:=cy
   dsimp only at cx0 cx1 cx2 cy0 cy1 cy2
   have HBr:=hidP hbr
   clear hc hc' hbr HT hkx hky
   go_upto_region 6 with fail
   by_cases h0:x0=y0
   rotate_left
   ·have HF:=hidP (HNE.out (fun e=>h0 (by injection e)))
    have f0:(x0==y0)=false:=by simpa using h0
    have f1:(x0 != y0)=true:=by simpa using h0
    clear h0
    go_quiet (fail)
    go_wp2_with fail
    go_ret
    exact ⟨by rw [HF.out];rfl,bdrewN HBr.out _⟩
   subst h0
   by_cases h1:x1=y1
   rotate_left
   ·have HF:=hidP (HNE.out (fun e=>h1 (by injection e)))
    have f0:(x1==y1)=false:=by simpa using h1
    have f1:(x1 != y1)=true:=by simpa using h1
    have b0:(x0==x0)=true:=by simp
    clear h1
    go_quiet (fail)
    go_wp2_with fail
    go_ret
    exact ⟨by rw [HF.out];rfl,bdrewN HBr.out _⟩
   subst h1
   by_cases h2:x2=y2
   rotate_left
   ·have HF:=hidP (HNE.out (fun e=>h2 (by injection e)))
    have f0:(x2==y2)=false:=by simpa using h2
    have f1:(x2 != y2)=true:=by simpa using h2
    have b0:(x0==x0)=true:=by simp
    have b1:(x1==x1)=true:=by simp
    clear h2
    go_quiet (fail)
    go_wp2_with fail
    go_ret
    exact ⟨by rw [HF.out];rfl,bdrewN HBr.out _⟩
   subst h2
   have v:Hid (xs.take (k+1)=ys.take (k+1)):=HTS.out rfl
   have b0:(x0 != x0)=false:=by simp
   have b1:(x1 != x1)=false:=by simp
   have b2:(x2 != x2)=false:=by simp
   go_quiet (fail)
   go_wp2_with fail
   go_roundw
   case rel=>exact ⟨k+1,by omega,by go_num,v,bdrewN HBr.out _⟩
   case measure=>simp [intOf];omega
  ·have hki:¬ (k:Int)<n:=by omega
   have HE:Hid (eqL xs ys=true):=eqL_t (by have h:=HT.out;rw [List.take_of_length_le (by rw [HN.out];omega),List.take_of_length_le (by rw [HM.out];omega)] at h;exact h)
   go_wp2_with fail
   go_ret
   exact ⟨by rw [HE.out];rfl,hbr⟩
def sameF (r q : MRoute) (D : Prop → Bool := fun p => @decide p (Classical.propDecidable p)) : Int :=
 if r.start=q.start∧r.stop=q.stop∧eqL r.steps q.steps D = true then
  if eqL r.lies q.lies D = true∧eqL r.crosses q.crosses D = true then
   if eqL r.parts q.parts D = true∧eqL r.over q.over D = true then
    if eqL r.flanks q.flanks D = true then 0 else 4
   else 3
  else 2
 else 1
theorem sameF_0 {r q:MRoute}(h:wrongF r q=0):sameF r q=0:=by
 unfold wrongF at h
 unfold sameF
 repeat' split at h
 all_goals first | (exfalso;omega) | skip
 rename_i h1 h2 h3 h4
 rw [if_pos h1,if_pos h2,if_pos h3,if_pos h4]
theorem sameF_n {r q:MRoute}(h:wrongF r q≠0):2+sameF r q=wrongF r q∧sameF r q≠0∧0≤sameF r q∧sameF r q≤4:=by
 unfold wrongF at h ⊢
 unfold sameF
 by_cases h1:r.start=q.start∧r.stop=q.stop∧eqL r.steps q.steps=true
 ·rw [if_pos h1] at h ⊢
  rw [if_pos h1]
  by_cases h2:eqL r.lies q.lies=true∧eqL r.crosses q.crosses=true
  ·rw [if_pos h2] at h ⊢
   rw [if_pos h2]
   by_cases h3:eqL r.parts q.parts=true∧eqL r.over q.over=true
   ·rw [if_pos h3] at h ⊢
    rw [if_pos h3]
    by_cases h4:eqL r.flanks q.flanks=true
    ·rw [if_pos h4] at h
     exact absurd rfl h
    ·rw [if_neg h4,if_neg h4]
     omega
   ·rw [if_neg h3,if_neg h3]
    omega
  ·rw [if_neg h2,if_neg h2]
   omega
 ·rw [if_neg h1,if_neg h1]
  omega
theorem l3same_any (d d':RAddr)(r q:MRoute)(w:World)(hr:Hid (RListsAt w d r))(hq:Hid (RListsAt w d' q)):
  Calls Tryz.prog 35 #[routeV d r,routeV d' q] w fun e w'=>e = .returned (.int .i64 (sameF r q))∧Below w.heap.size w w':=by
 unfold routeV
 go_enter Tryz.func35,Tryz.ntmps35
 have HW:Hid (sameF r q=if r.start=q.start∧r.stop=q.stop∧eqL r.steps q.steps=true then
  if eqL r.lies q.lies=true∧eqL r.crosses q.crosses=true then
   if eqL r.parts q.parts=true∧eqL r.over q.over=true then
    if eqL r.flanks q.flanks=true then 0 else 4
   else 3
  else 2
 else 1):=rfl
 obtain ⟨v,hv⟩:∃ v,sameF r q=v:=⟨_,rfl⟩
 rw [hv]
 rw [hv] at HW
 clear hv
 go_upto_region 1 with fail
 generalize hW:World.alloc (World.alloc w _) _=W
 have hbW:Below w.heap.size w W:=by rw [← hW];exact blo
 have HX:Hid (RouteCell W w.heap.size 0 d r):=by rw [← hW];exact ⟨by simp [go_sem],by simp [go_sem],by simp [go_sem],by simp [go_sem],by simp [go_sem],by simp [go_sem],by simp [go_sem],by simp [go_sem]⟩
 have HY:Hid (RouteCell W (w.heap.size+1) 0 d' q):=by rw [← hW];exact ⟨by simp [go_sem],by simp [go_sem],by simp [go_sem],by simp [go_sem],by simp [go_sem],by simp [go_sem],by simp [go_sem],by simp [go_sem]⟩
 have HBW:=hidP hbW
 have HR:=hidP (hr.out.below hbW)
 have HQ:=hidP (hq.out.below hbW)
 obtain ⟨X,hX⟩:∃ X,w.heap.size=X:=⟨_,rfl⟩
 obtain ⟨Y,hY⟩:∃ Y,X+1=Y:=⟨_,rfl⟩
 have HXw:Hid (w.heap.size=X):=hX
 rw [hX] at HX HY ⊢
 rw [hY] at HY ⊢
 clear hW hbW hX hY hr hq
 obtain ⟨n1,hn1⟩:∃ n,r.lies.length=n:=⟨_,rfl⟩
 obtain ⟨m1,hm1⟩:∃ n,q.lies.length=n:=⟨_,rfl⟩
 obtain ⟨n2,hn2⟩:∃ n,r.crosses.length=n:=⟨_,rfl⟩
 obtain ⟨m2,hm2⟩:∃ n,q.crosses.length=n:=⟨_,rfl⟩
 obtain ⟨n3,hn3⟩:∃ n,r.flanks.length=n:=⟨_,rfl⟩
 obtain ⟨m3,hm3⟩:∃ n,q.flanks.length=n:=⟨_,rfl⟩
 have HN1:=hidP hn1
 have HM1:=hidP hm1
 have HN2:=hidP hn2
 have HM2:=hidP hm2
 have HN3:=hidP hn3
 have HM3:=hidP hm3
 have hl1:=HR.out.lies.1
 have hl2:=HR.out.crosses.1
 have hl3:=HR.out.flanks.1
 unfold maxLen at hl1 hl2 hl3
 rw [hn1] at hl1
 rw [hn2] at hl2
 rw [hn3] at hl3
 have HC:Hid (∀ u:World,Below W.heap.size W u→(u.cell? ⟨X,3,none⟩=some (.slice d.a1 n1 d.c1)∧u.cell? ⟨Y,3,none⟩=some (.slice d'.a1 m1 d'.c1))∧(u.cell? ⟨X,4,none⟩=some (.slice d.a2 n2 d.c2)∧u.cell? ⟨Y,4,none⟩=some (.slice d'.a2 m2 d'.c2))∧(u.cell? ⟨X,7,none⟩=some (.slice d.a5 n3 d.c5)∧u.cell? ⟨Y,7,none⟩=some (.slice d'.a5 m3 d'.c5))∧(u.cell? ⟨X,5,none⟩=some (.slice d.a3 r.parts.length d.c3)∧u.cell? ⟨Y,5,none⟩=some (.slice d'.a3 q.parts.length d'.c3))∧(u.cell? ⟨X,6,none⟩=some (.slice d.a4 r.over.length d.c4)∧u.cell? ⟨Y,6,none⟩=some (.slice d'.a4 q.over.length d'.c4))):=fun u hu=>by
  have x:=HX.out.below hu
  have y:=HY.out.below hu
  rw [← hn1,← hm1,← hn2,← hm2,← hn3,← hm3]
  exact ⟨⟨by simpa using x.k3,by simpa using y.k3⟩,⟨by simpa using x.k4,by simpa using y.k4⟩,⟨by simpa using x.k7,by simpa using y.k7⟩,⟨by simpa using x.k5,by simpa using y.k5⟩,⟨by simpa using x.k6,by simpa using y.k6⟩⟩
 clear hn1 hm1 hn2 hm2 hn3 hm3
 have x0:=HX.out.k0
 have x1:=HX.out.k1
 have x2:=HX.out.k2
 have y0:=HY.out.k0
 have y1:=HY.out.k1
 have y2:=HY.out.k2
 simp only [Nat.zero_add] at x0 x1 x2 y0 y1 y2
 by_cases h0:r.start=q.start
 rotate_left
 ·have f0:(r.start != q.start)=true:=by simpa using h0
  have HV:Hid (v=1):=by unfold Hid;rw [HW.out,if_neg (fun h=>h0 h.1)]
  clear h0
  go_wp2_with fail
  go_ret
  exact ⟨by rw [HV.out];rfl,HBW.out⟩
 have f0:(r.start != q.start)=false:=by simpa using h0
 have H0:=hidP h0
 clear h0
 by_cases h1:r.stop=q.stop
 rotate_left
 ·have f1:(r.stop != q.stop)=true:=by simpa using h1
  have HV:Hid (v=1):=by unfold Hid;rw [HW.out,if_neg (fun h=>h1 h.2.1)]
  clear h1
  go_wp2_with fail
  go_ret
  exact ⟨by rw [HV.out];rfl,HBW.out⟩
 have f1:(r.stop != q.stop)=false:=by simpa using h1
 have H1:=hidP h1
 clear h1
 go_wp2_with fail
 refine (l3steps_any d.a0 d'.a0 d.c0 d'.c0 r.steps q.steps W HR.out.steps HQ.out.steps).mono ?_
 rintro e w1 ⟨rfl,hb1⟩
 have HB1:=hidP hb1
 clear hb1 x0 x1 x2 y0 y1 y2 f0 f1 HX HY
 cases hs:eqL r.steps q.steps
 ·have HV:Hid (v=1):=by unfold Hid;rw [HW.out,if_neg (fun h=>by rw [hs] at h;simp at h)]
  go_wp2_with fail
  go_ret
  exact ⟨by rw [HV.out];rfl,HBW.out.trans (HB1.out.mono HBW.out.size)⟩
 have HW2:Hid (v=if eqL r.lies q.lies=true∧eqL r.crosses q.crosses=true then
   if eqL r.parts q.parts=true∧eqL r.over q.over=true then
    if eqL r.flanks q.flanks=true then 0 else 4
   else 3
  else 2):=by unfold Hid;rw [HW.out,if_pos ⟨H0.out,H1.out,hs⟩]
 clear hs HW H0 H1
 obtain ⟨⟨x3,y3⟩,⟨x4,y4⟩,_⟩:=HC.out _ HB1.out
 by_cases hnm1:n1=m1
 rotate_left
 ·have f0:((n1:Int) != (m1:Int))=true:=by rw [bne_iff_ne];omega
  have HV:Hid (v=2):=by unfold Hid;rw [HW2.out,if_neg (fun h=>by rw [eqL_len (by rw [HN1.out,HM1.out];exact hnm1)] at h;simp at h)]
  clear hnm1
  go_wp2_with fail
  go_ret
  exact ⟨by rw [HV.out];rfl,HBW.out.trans (HB1.out.mono HBW.out.size)⟩
 by_cases hnm2:n2=m2
 rotate_left
 ·have f0:((n1:Int) != (m1:Int))=false:=by rw [hnm1];simp
  have f1:((n2:Int) != (m2:Int))=true:=by rw [bne_iff_ne];omega
  have HV:Hid (v=2):=by unfold Hid;rw [HW2.out,if_neg (fun h=>by rw [eqL_len (xs:=r.crosses) (by rw [HN2.out,HM2.out];exact hnm2)] at h;simp at h)]
  clear hnm1 hnm2
  go_wp2_with fail
  go_ret
  exact ⟨by rw [HV.out];rfl,HBW.out.trans (HB1.out.mono HBW.out.size)⟩
 subst hnm1 hnm2
 have f0:((n1:Int) != (n1:Int))=false:=by simp
 have f1:((n2:Int) != (n2:Int))=false:=by simp
 go_wp2_with fail
 clear f0 f1 x3 x4 y3 y4
 go_loopw [47] (fun i wr => ∃ k:Nat,k≤n1∧i = .int .i64 k∧Hid (r.lies.take k=q.lies.take k)∧Below W.heap.size W wr) (fun i _=>n1-(intOf i).toNat)
 case atStart=>exact ⟨0,Nat.zero_le _,rfl,by unfold Hid;rw [List.take_zero,List.take_zero],HB1.out⟩
 case round =>
  obtain ⟨k,hk,rfl,HT,hbr⟩:=hrel
  by_cases hk':k<n1
  ·have hki:(k:Int)<n1:=by omega
   have hkx:k<r.lies.length:=by rw [HN1.out];exact hk'
   have hky:k<q.lies.length:=by rw [HM1.out];exact hk'
   obtain ⟨zx,zy⟩:=(HC.out _ hbr).1
   obtain ⟨b,o,ha,hc⟩:=(HR.out.lies.below hbr).2.resolve_left (nz hkx)
   obtain ⟨b',o',ha',hc'⟩:=(HQ.out.lies.below hbr).2.resolve_left (nz hky)
   rw [ha] at zx
   rw [ha'] at zy
   have HTS:Hid (r.lies[k]=q.lies[k]→r.lies.take (k+1)=q.lies.take (k+1)):=fun e=>by rw [List.take_succ_eq_append_getElem hkx,List.take_succ_eq_append_getElem hky,HT.out,e]
   have HNE:Hid (r.lies[k]≠q.lies[k]→v=2):=fun e=>by rw [HW2.out,if_neg (fun h=>by rw [eqL_at hkx hky e] at h;simp at h)]
   have cx:=hc k hkx
   have cy:=hc' k hky
   generalize r.lies[k]=x at cx HTS HNE
   generalize q.lies[k]=y at cy HTS HNE
   obtain ⟨x0,x1⟩:=x
   obtain ⟨y0,y1⟩:=y
   obtain ⟨cx0,cx1⟩:=cx
   obtain ⟨cy0,cy1⟩:=cy
   dsimp only at cx0 cx1 cy0 cy1
   have HBr:=hidP hbr
   clear hc hc' hbr HT hkx hky ha ha'
   go_upto_region 8 with fail
   by_cases h0:x0=y0
   rotate_left
   ·have HV:=hidP (HNE.out (fun e=>h0 (by injection e)))
    have f0:(x0==y0)=false:=by simpa using h0
    have f1:(x0 != y0)=true:=by simpa using h0
    clear h0
    go_quiet (fail)
    go_wp2_with fail
    go_ret
    exact ⟨by rw [HV.out];rfl,bdrewN (HBW.out.trans (HBr.out.mono HBW.out.size)) _⟩
   subst h0
   by_cases h1:x1=y1
   rotate_left
   ·have HV:=hidP (HNE.out (fun e=>h1 (by injection e)))
    have f0:(x1==y1)=false:=by simpa using h1
    have f1:(x1 != y1)=true:=by simpa using h1
    have b0:(x0==x0)=true:=by simp
    clear h1
    go_quiet (fail)
    go_wp2_with fail
    go_ret
    exact ⟨by rw [HV.out];rfl,bdrewN (HBW.out.trans (HBr.out.mono HBW.out.size)) _⟩
   subst h1
   have v2:Hid (r.lies.take (k+1)=q.lies.take (k+1)):=HTS.out rfl
   have b0:(x0 != x0)=false:=by simp
   have b1:(x1 != x1)=false:=by simp
   go_quiet (fail)
   go_wp2_with fail
   go_roundw
   case rel=>exact ⟨k+1,by omega,by go_num,v2,bdrewN HBr.out _⟩
   case measure=>simp [intOf];omega
  ·have hki:¬ (k:Int)<n1:=by omega
   have HE:Hid (eqL r.lies q.lies=true):=eqL_t (by have h:=HT.out;rw [List.take_of_length_le (by rw [HN1.out];omega),List.take_of_length_le (by rw [HM1.out];omega)] at h;exact h)
   obtain ⟨_,⟨x4,y4⟩,_⟩:=HC.out _ hbr
   have HB2:=hidP hbr
   have HE1:=hidP HE.out
   clear hbr HT HE
   go_wp2_with fail
   clear x4 y4
   go_loopw [65] (fun i ws => ∃ k:Nat,k≤n2∧i = .int .i64 k∧Hid (r.crosses.take k=q.crosses.take k)∧Below W.heap.size W ws) (fun i _=>n2-(intOf i).toNat)
   case atStart=>exact ⟨0,Nat.zero_le _,rfl,by unfold Hid;rw [List.take_zero,List.take_zero],HB2.out⟩
   case round =>
    obtain ⟨k,hk,rfl,HT,hbr⟩:=hrel
    by_cases hk':k<n2
    ·have hki:(k:Int)<n2:=by omega
     have hkx:k<r.crosses.length:=by rw [HN2.out];exact hk'
     have hky:k<q.crosses.length:=by rw [HM2.out];exact hk'
     obtain ⟨zx,zy⟩:=(HC.out _ hbr).2.1
     obtain ⟨b,o,ha,hc⟩:=(HR.out.crosses.below hbr).2.resolve_left (nz hkx)
     obtain ⟨b',o',ha',hc'⟩:=(HQ.out.crosses.below hbr).2.resolve_left (nz hky)
     rw [ha] at zx
     rw [ha'] at zy
     have HTS:Hid (r.crosses[k]=q.crosses[k]→r.crosses.take (k+1)=q.crosses.take (k+1)):=fun e=>by rw [List.take_succ_eq_append_getElem hkx,List.take_succ_eq_append_getElem hky,HT.out,e]
     have HNE:Hid (r.crosses[k]≠q.crosses[k]→v=2):=fun e=>by rw [HW2.out,if_neg (fun h=>by rw [eqL_at (xs:=r.crosses) hkx hky e] at h;simp at h)]
     have cx:=hc k hkx
     have cy:=hc' k hky
     generalize r.crosses[k]=x at cx HTS HNE
     generalize q.crosses[k]=y at cy HTS HNE
     have HBr:=hidP hbr
     clear hc hc' hbr HT hkx hky ha ha'
     go_upto_region 14 with fail
     by_cases h0:x=y
     rotate_left
     ·have HV:=hidP (HNE.out (fun e=>h0 (by exact e)))
      have f0:(x==y)=false:=by simpa using h0
      have f1:(x != y)=true:=by simpa using h0
      clear h0
      go_quiet (fail)
      go_wp2_with fail
      go_ret
      exact ⟨by rw [HV.out];rfl,bdrewN (HBW.out.trans (HBr.out.mono HBW.out.size)) _⟩
     subst h0
     have v2:Hid (r.crosses.take (k+1)=q.crosses.take (k+1)):=HTS.out rfl
     have b0:(x != x)=false:=by simp
     go_quiet (fail)
     go_wp2_with fail
     go_roundw
     case rel=>exact ⟨k+1,by omega,by go_num,v2,bdrewN HBr.out _⟩
     case measure=>simp [intOf];omega
    ·have hki:¬ (k:Int)<n2:=by omega
     have HE:Hid (eqL r.crosses q.crosses=true):=eqL_t (by have h:=HT.out;rw [List.take_of_length_le (by rw [HN2.out];omega),List.take_of_length_le (by rw [HM2.out];omega)] at h;exact h)
     obtain ⟨_,_,_,⟨x5,y5⟩,⟨x6,y6⟩⟩:=HC.out _ hbr
     have HBs:=hidP hbr
     have HW3:Hid (v=if eqL r.parts q.parts=true∧eqL r.over q.over=true then
       if eqL r.flanks q.flanks=true then 0 else 4
      else 3):=by unfold Hid;rw [HW2.out,if_pos ⟨HE1.out,HE.out⟩]
     have HRs:=hidP (HR.out.below hbr)
     have HQs:=hidP (HQ.out.below hbr)
     clear hbr HT HE HW2
     go_wp2_with fail
     refine (l3parts_any d.a3 d'.a3 d.c3 d'.c3 r.parts q.parts _ HRs.out.parts HQs.out.parts).mono ?_
     rintro e w4 ⟨rfl,hb4⟩
     have HB4:Hid (Below W.heap.size W w4):=HBs.out.trans (hb4.mono HBs.out.size)
     replace x6:=cell_later hb4 x6
     replace y6:=cell_later hb4 y6
     have HR4:=hidP (HRs.out.below hb4)
     have HQ4:=hidP (HQs.out.below hb4)
     clear hb4 x5 y5
     cases hs:eqL r.parts q.parts
     ·have HV:Hid (v=3):=by unfold Hid;rw [HW3.out,if_neg (fun h=>by rw [hs] at h;simp at h)]
      go_wp2_with fail
      go_ret
      exact ⟨by rw [HV.out];rfl,HBW.out.trans (HB4.out.mono HBW.out.size)⟩
     have HS4:=hidP hs
     clear hs
     go_wp2_with fail
     refine (l3parts_any d.a4 d'.a4 d.c4 d'.c4 r.over q.over _ HR4.out.over HQ4.out.over).mono ?_
     rintro e w5 ⟨rfl,hb5⟩
     have HB5:Hid (Below W.heap.size W w5):=HB4.out.trans (hb5.mono HB4.out.size)
     clear hb5 x6 y6
     cases hs:eqL r.over q.over
     ·have HV:Hid (v=3):=by unfold Hid;rw [HW3.out,if_neg (fun h=>by rw [hs] at h;simp at h)]
      go_wp2_with fail
      go_ret
      exact ⟨by rw [HV.out];rfl,HBW.out.trans (HB5.out.mono HBW.out.size)⟩
     have HW4:Hid (v=if eqL r.flanks q.flanks=true then 0 else 4):=by unfold Hid;rw [HW3.out,if_pos ⟨HS4.out,hs⟩]
     clear hs HS4 HW3
     obtain ⟨_,_,⟨x7,y7⟩,_⟩:=HC.out _ HB5.out
     by_cases hnm3:n3=m3
     rotate_left
     ·have f0:((n3:Int) != (m3:Int))=true:=by rw [bne_iff_ne];omega
      have HV:Hid (v=4):=by unfold Hid;rw [HW4.out,if_neg (fun h=>by rw [eqL_len (by rw [HN3.out,HM3.out];exact hnm3)] at h;simp at h)]
      clear hnm3
      go_wp2_with fail
      go_ret
      exact ⟨by rw [HV.out];rfl,HBW.out.trans (HB5.out.mono HBW.out.size)⟩
     subst hnm3
     have f0:((n3:Int) != (n3:Int))=false:=by simp
     go_wp2_with fail
     clear f0 x7 y7
     go_loopw [104] (fun i wt => ∃ k:Nat,k≤n3∧i = .int .i64 k∧Hid (r.flanks.take k=q.flanks.take k)∧Below W.heap.size W wt) (fun i _=>n3-(intOf i).toNat)
     case atStart=>exact ⟨0,Nat.zero_le _,rfl,by unfold Hid;rw [List.take_zero,List.take_zero],HB5.out⟩
     case round =>
      obtain ⟨k,hk,rfl,HT,hbr⟩:=hrel
      by_cases hk':k<n3
      ·have hki:(k:Int)<n3:=by omega
       have hkx:k<r.flanks.length:=by rw [HN3.out];exact hk'
       have hky:k<q.flanks.length:=by rw [HM3.out];exact hk'
       obtain ⟨zx,zy⟩:=(HC.out _ hbr).2.2.1
       obtain ⟨b,o,ha,hc⟩:=(HR.out.flanks.below hbr).2.resolve_left (nz hkx)
       obtain ⟨b',o',ha',hc'⟩:=(HQ.out.flanks.below hbr).2.resolve_left (nz hky)
       rw [ha] at zx
       rw [ha'] at zy
       have HTS:Hid (r.flanks[k]=q.flanks[k]→r.flanks.take (k+1)=q.flanks.take (k+1)):=fun e=>by rw [List.take_succ_eq_append_getElem hkx,List.take_succ_eq_append_getElem hky,HT.out,e]
       have HNE:Hid (r.flanks[k]≠q.flanks[k]→v=4):=fun e=>by rw [HW4.out,if_neg (fun h=>by rw [eqL_at hkx hky e] at h;simp at h)]
       have cx:=hc k hkx
       have cy:=hc' k hky
       generalize r.flanks[k]=x at cx HTS HNE
       generalize q.flanks[k]=y at cy HTS HNE
       obtain ⟨x0,x1,x2,x3⟩:=x
       obtain ⟨y0,y1,y2,y3⟩:=y
       obtain ⟨cx0,cx1,cx2,cx3⟩:=cx
       obtain ⟨cy0,cy1,cy2,cy3⟩:=cy
       dsimp only at cx0 cx1 cx2 cx3 cy0 cy1 cy2 cy3
       have HBr:=hidP hbr
       clear hc hc' hbr HT hkx hky ha ha'
       go_upto_region 24 with fail
       by_cases h0:x0=y0
       rotate_left
       ·have HV:=hidP (HNE.out (fun e=>h0 (by injection e)))
        have f0:(x0==y0)=false:=by simpa using h0
        have f1:(x0 != y0)=true:=by simpa using h0
        clear h0
        go_quiet (fail)
        go_wp2_with fail
        go_ret
        exact ⟨by rw [HV.out];rfl,bdrewN (HBW.out.trans (HBr.out.mono HBW.out.size)) _⟩
       subst h0
       by_cases h1:x1=y1
       rotate_left
       ·have HV:=hidP (HNE.out (fun e=>h1 (by injection e)))
        have f0:(x1==y1)=false:=by simpa using h1
        have f1:(x1 != y1)=true:=by simpa using h1
        have b0:(x0==x0)=true:=by simp
        clear h1
        go_quiet (fail)
        go_wp2_with fail
        go_ret
        exact ⟨by rw [HV.out];rfl,bdrewN (HBW.out.trans (HBr.out.mono HBW.out.size)) _⟩
       subst h1
       by_cases h2:x2=y2
       rotate_left
       ·have HV:=hidP (HNE.out (fun e=>h2 (by injection e)))
        have f0:(x2==y2)=false:=by simpa using h2
        have f1:(x2 != y2)=true:=by simpa using h2
        have b0:(x0==x0)=true:=by simp
        have b1:(x1==x1)=true:=by simp
        clear h2
        go_quiet (fail)
        go_wp2_with fail
        go_ret
        exact ⟨by rw [HV.out];rfl,bdrewN (HBW.out.trans (HBr.out.mono HBW.out.size)) _⟩
       subst h2
       by_cases h3:x3=y3
       rotate_left
       ·have HV:=hidP (HNE.out (fun e=>h3 (by injection e)))
        have f0:(x3==y3)=false:=by simpa using h3
        have f1:(x3 != y3)=true:=by simpa using h3
        have b0:(x0==x0)=true:=by simp
        have b1:(x1==x1)=true:=by simp
        have b2:(x2==x2)=true:=by simp
        clear h3
        go_quiet (fail)
        go_wp2_with fail
        go_ret
        exact ⟨by rw [HV.out];rfl,bdrewN (HBW.out.trans (HBr.out.mono HBW.out.size)) _⟩
       subst h3
       have v2:Hid (r.flanks.take (k+1)=q.flanks.take (k+1)):=HTS.out rfl
       have b0:(x0 != x0)=false:=by simp
       have b1:(x1 != x1)=false:=by simp
       have b2:(x2 != x2)=false:=by simp
       have b3:(x3 != x3)=false:=by simp
       go_quiet (fail)
       go_wp2_with fail
       go_roundw
       case rel=>exact ⟨k+1,by omega,by go_num,v2,bdrewN HBr.out _⟩
       case measure=>simp [intOf];omega
      ·have hki:¬ (k:Int)<n3:=by omega
       have HE:Hid (eqL r.flanks q.flanks=true):=eqL_t (by have h:=HT.out;rw [List.take_of_length_le (by rw [HN3.out];omega),List.take_of_length_le (by rw [HM3.out];omega)] at h;exact h)
       have HV:Hid (v=0):=by unfold Hid;rw [HW4.out,if_pos HE.out]
       go_wp2_with fail
       go_ret
       exact ⟨by rw [HV.out];rfl,HBW.out.trans (hbr.mono HBW.out.size)⟩
theorem bodyWrong {a b c:Int}{o:Option (Int × Option (Int × Int))}(h:wrongV o = .agg #[.int .i64 a,.int .i64 b,.int .i64 c]):Ending.returned (.agg #[.int .i64 a,.int .i64 b,.int .i64 c])=Ending.returned (wrongV o):=by rw [h]
theorem tableF_at {rs:List MRoute}(h:rs.length≤300):tableF rs=rs.map fun a=>rs.map (exclF a):=by unfold tableF;rw [if_neg (by omega)]
theorem specCheck_any (pa ja sa ra ta:Option Addr)(pc jc sc rc tc:Nat)(ps:List MPiece)(js:List MJoint)(ss:List MPiece)(over:Int)(rs:List MRoute)(tt:List (List Int))(w:World)(hp:Hid (PiecesAt w pa ps))(hj:Hid (JointsAt w ja js))(hs:Hid (PiecesAt w sa ss))(hr:Hid (RoutesAt w ra rs))(ht:Hid (TabAt w ta tt)):
  Calls Tryz.prog 10 #[.agg #[.slice pa ps.length pc,.slice ja js.length jc],.slice sa ss.length sc,.int .i64 over,.slice ra rs.length rc,.slice ta tt.length tc] w fun e w'=>e = .returned (wrongV (allF ps js ss over rs tt))∧Below w.heap.size w w':=by
 have hrl:=hr.out.1
 have htl:=ht.out.1
 unfold maxLen at hrl htl
 obtain ⟨O,hO⟩:∃ O,allF ps js ss over rs tt=O:=⟨_,rfl⟩
 obtain ⟨n,hn⟩:∃ n,rs.length=n:=⟨_,rfl⟩
 obtain ⟨m,hm⟩:∃ m,tt.length=m:=⟨_,rfl⟩
 rw [hO]
 rw [hn] at hrl ⊢
 rw [hm] at htl ⊢
 have HO:=hidP hO
 have HN:=hidP hn
 have HM:=hidP hm
 clear hO hn hm
 go_enter Tryz.func10,Tryz.ntmps10
 go_upto_region 1 with fail
 generalize hW:World.alloc (World.alloc w _) _=W
 have e0:W.cell? ⟨w.heap.size,0,none⟩=some (.slice pa ps.length pc):=by rw [← hW];simp [go_sem]
 have e1:W.cell? ⟨w.heap.size,1,none⟩=some (.slice ja js.length jc):=by rw [← hW];simp [go_sem]
 have r0:W.cell? ⟨w.heap.size+1,0,none⟩=some (.int .i64 0):=by rw [← hW];simp [go_sem]
 have r1:W.cell? ⟨w.heap.size+1,1,none⟩=some (.int .i64 0):=by rw [← hW];simp [go_sem]
 have r2:W.cell? ⟨w.heap.size+1,2,none⟩=some (.int .i64 0):=by rw [← hW];simp [go_sem]
 have z:∀ o,W.frozen? ⟨w.heap.size+1,o,none⟩=false:=by intro o;rw [← hW];simp [go_sem]
 have hzW:w.heap.size+1<W.heap.size:=by rw [← hW];simp
 have hbW:Below w.heap.size w W:=by rw [← hW];exact blo
 clear hW
 have HP:=hidQ (hp.out.below hbW)
 have HJ:=hidQ (hj.out.below hbW)
 have HS:=hidQ (hs.out.below hbW)
 have HR:=hidQ (hr.out.below hbW)
 have HT:=hidQ (ht.out.below hbW)
 obtain ⟨R,hR⟩:∃ R,w.heap.size+1=R:=⟨_,rfl⟩
 have hwR:w.heap.size≤R:=by omega
 rw [hR] at r0 r1 r2 z hzW ⊢
 have HK:Hid (∀ u:World,Below W.heap.size W u→(u.cell? ⟨R,0,none⟩=some (.int .i64 0)∧u.cell? ⟨R,1,none⟩=some (.int .i64 0)∧u.cell? ⟨R,2,none⟩=some (.int .i64 0))∧(u.frozen? ⟨R,0,none⟩=false∧u.frozen? ⟨R,1,none⟩=false∧u.frozen? ⟨R,2,none⟩=false)∧R<u.heap.size∧Below w.heap.size w u):=fun u hu=>⟨⟨cell_later hu r0,cell_later hu r1,cell_later hu r2⟩,⟨(hu.frozen (p:=⟨R,0,none⟩) hzW).trans (z 0),(hu.frozen (p:=⟨R,1,none⟩) hzW).trans (z 1),(hu.frozen (p:=⟨R,2,none⟩) hzW).trans (z 2)⟩,Nat.lt_of_lt_of_le hzW hu.size,hbW.trans (hu.mono hbW.size)⟩
 clear hp hj hs hr ht hR r0 r1 r2 z hzW hbW
 have HL1:=hidP (l1all_any pa ja sa pc jc sc ps js ss W HP HJ HS)
 cases hc:((sigF ps js ss).1==0)
 ·have HE:Hid (wrongV O = .agg #[.int .i64 1,.int .i64 0,.int .i64 0]):=by
   unfold Hid
   rw [← HO.out,allF_no (fun e=>by rw [e.1] at hc;simp at hc)]
   rfl
  rw [hc] at HL1
  clear hc
  go_upto_region 2 with (go_at_call 32;refine HL1.out.mono ?_;rintro e w1 ⟨rfl,hb1⟩)
  obtain ⟨⟨r0,r1,r2⟩,⟨z0,z1,z2⟩,hzR,hbx⟩:=HK.out _ hb1
  clear hb1
  go_wp2_with fail
  exact bodyPost_ret (v:=.agg #[.int .i64 1,.int .i64 0,.int .i64 0]) (by simp [results,Tryz.results10,go_sem,r0,r1,r2]) rfl ⟨bodyWrong HE.out,blo⟩
 have HSIG:=hidP (sig_code (ps:=ps) (js:=js) (ss:=ss) (by simpa using hc))
 rw [hc] at HL1
 clear hc
 by_cases hov:0≤over∧over≤100000
 rotate_left
 ·have hi:inB over 0 100000=false:=by
   by_cases h:0≤over
   ·exact inB_f2 (fun h2=>hov ⟨h,h2⟩)
   ·exact inB_f1 h
  have HE:Hid (wrongV O = .agg #[.int .i64 1,.int .i64 0,.int .i64 0]):=by
   unfold Hid
   rw [← HO.out,allF_no (fun e=>hov e.2)]
   rfl
  have HL2:Hid (∀ u:World,Calls Tryz.prog 33 #[.int .i64 over,.int .i64 0,.int .i64 100000] u fun e w'=>e = .returned (.bool false)∧w'=u):=fun u=>by
   have h:=l1in_any over 0 100000 u
   rw [hi] at h
   exact h
  clear hi hov
  go_upto_region 2 with (first
   | (go_at_call 32;refine HL1.out.mono ?_;rintro e w1 ⟨rfl,hb1⟩)
   | (go_at_call 33;refine (HL2.out _).mono ?_;rintro e w2 ⟨rfl,rfl⟩))
  obtain ⟨⟨r0,r1,r2⟩,⟨z0,z1,z2⟩,hzR,hbx⟩:=HK.out _ hb1
  clear hb1
  go_wp2_with fail
  exact bodyPost_ret (v:=.agg #[.int .i64 1,.int .i64 0,.int .i64 0]) (by simp [results,Tryz.results10,go_sem,r0,r1,r2]) rfl ⟨bodyWrong HE.out,blo⟩
 have HG:Hid (sigF ps js ss=(0,0)∧0≤over∧over≤100000):=⟨HSIG.out,hov⟩
 have HL2:Hid (∀ u:World,Calls Tryz.prog 33 #[.int .i64 over,.int .i64 0,.int .i64 100000] u fun e w'=>e = .returned (.bool true)∧w'=u):=fun u=>by
  have h:=l1in_any over 0 100000 u
  rw [inB_t hov.1 hov.2] at h
  exact h
 clear hov
 go_upto_region 3 with (first
  | (go_at_call 32;refine HL1.out.mono ?_;rintro e w1 ⟨rfl,hb1⟩)
  | (go_at_call 33;refine (HL2.out _).mono ?_;rintro e w2 ⟨rfl,rfl⟩))
 replace e0:=cell_later hb1 e0
 replace e1:=cell_later hb1 e1
 have hze:=cellLt e0
 dsimp only at hze
 have HSR:=hidP (specRoutes_any pa ja sa pc jc sc ps js ss over _ (HP.out.below hb1) (HJ.out.below hb1) (HS.out.below hb1))
 have HRF:=hidP (routesF_ok ps js ss over)
 obtain ⟨want,hwant⟩:∃ q,routesF ps js ss over=q:=⟨_,rfl⟩
 rw [hwant] at HSR HRF
 have HWT:=hidP hwant
 obtain ⟨N,hN⟩:∃ N,want.length=N:=⟨_,rfl⟩
 have HNN:=hidP hN
 have hN3:N≤300:=by rw [← hN];exact HRF.out.1
 rw [hN] at HSR
 have HB1:=hidP hb1
 clear hwant HL1 HL2 hN hb1
 go_upto_region 4 with (go_at_call 34;refine HSR.out.mono ?_;rintro e w3 ⟨wa,wc,rfl,hra,_,hb3⟩)
 have HB3:Hid (Below W.heap.size W w3):=HB1.out.trans (hb3.mono HB1.out.size)
 have HQ:=hidP hra
 have HRR:=hidP (HR.out.below HB3.out)
 have HTT:=hidP (HT.out.below HB3.out)
 clear hra hb3 e0 e1 hze HSR HB1 HR HT HP HJ HS
 obtain ⟨O1,hO1⟩:∃ q,chkR rs want 0=q:=⟨_,rfl⟩
 have HO1:=hidP hO1
 have HI1:Hid (chkR (rs.drop 0) (want.drop 0) 0=O1):=hO1
 clear hO1
 have HRES:Hid (∀ c i,O1=some (c,i)→wrongV O = .agg #[.int .i64 c,.int .i64 (i:Int),.int .i64 0]):=fun c i h=>by
  rw [← HO.out,allF_r HG.out (by rw [HWT.out,HO1.out];exact h)]
  rfl
 go_wp2_with fail
 go_loopw [34] (fun c wr => ∃ k:Nat,k≤N∧k≤n∧c = .int .i64 k∧Hid (chkR (rs.drop k) (want.drop k) k=O1)∧Below w3.heap.size w3 wr) (fun c _=>N-(intOf c).toNat)
 case atStart=>exact ⟨0,Nat.zero_le _,Nat.zero_le _,rfl,HI1,Below.refl _ _⟩
 case round =>
  obtain ⟨k,hk,hkn,rfl,HI,hbr⟩:=hrel
  have HBr:Hid (Below W.heap.size W wr):=HB3.out.trans (hbr.mono HB3.out.size)
  have HBq:=hidP hbr
  clear hbr
  by_cases hk':k<N
  ·have hki:(k:Int)<N:=by omega
   by_cases hkn':k<n
   rotate_left
   ·have f0:(n:Int)≤k:=by omega
    have HE:=hidP (HRES.out 2 k (by rw [← HI.out];exact chkR_one (Or.inl ⟨by rw [HN.out];omega,by rw [HNN.out];exact hk'⟩)))
    obtain ⟨⟨r0,r1,r2⟩,⟨z0,z1,z2⟩,hzR,hbx⟩:=HK.out _ HBr.out
    go_wp2_with fail
    exact bodyPost_ret (v:=.agg #[.int .i64 2,.int .i64 k,.int .i64 0]) (by simp [results,Tryz.results10,go_sem,r0,r1,r2]) rfl ⟨bodyWrong HE.out,blo⟩
   have f0:¬ (n:Int)≤k:=by omega
   have hknI:(k:Int)<n:=by omega
   have hkr:k<rs.length:=by rw [HN.out];exact hkn'
   have hkq:k<want.length:=by rw [HNN.out];exact hk'
   obtain ⟨b,o,ha,hcc⟩:=(HRR.out.below HBq.out).2.resolve_left (nz hkr)
   obtain ⟨b',o',ha',hcc'⟩:=(HQ.out.below HBq.out).2.resolve_left (nz hkq)
   obtain ⟨d,rc',rl⟩:=hcc k hkr
   obtain ⟨d',qc,ql⟩:=hcc' k hkq
   have HST:Hid (O1=if wrongF rs[k] want[k]=0 then chkR (rs.drop (k+1)) (want.drop (k+1)) (k+1) else some (wrongF rs[k] want[k],k)):=by unfold Hid;rw [← HI.out,chkR_on hkr hkq]
   generalize rs[k]=r at rc' rl HST
   generalize want[k]=q at qc ql HST
   have HRL:=hidP rl
   have HQL:=hidP ql
   have HRC:=hidP rc'
   have HQC:=hidP qc
   have HA:=hidP ha
   have HA':=hidP ha'
   clear hcc hcc' rl ql HI rc' qc hkr hkq
   subst ha ha'
   go_upto_region 9 with fail
   go_cut [13] (fun v wx=>v = .int .i64 (sameF r q)∧Below wr.heap.size wr wx)
   case first =>
    obtain ⟨S,hS⟩:∃ S:World→Prop,∀ u,S u↔(RouteCell u b (o+k*8) d r∧RouteCell u b' (o'+k*8) d' q):=⟨_,fun _=>Iff.rfl⟩
    have x0:∀ u:Held S,World.cell? u.val ⟨b,o+k*8,none⟩=some (.int .i64 r.start):=fun u=>((hS u.val).1 u.2).1.k0
    have x1:∀ u:Held S,World.cell? u.val ⟨b,o+k*8+1,none⟩=some (.int .i64 r.stop):=fun u=>((hS u.val).1 u.2).1.k1
    have x2:∀ u:Held S,World.cell? u.val ⟨b,o+k*8+2,none⟩=some (.slice d.a0 r.steps.length d.c0):=fun u=>((hS u.val).1 u.2).1.k2
    have x3:∀ u:Held S,World.cell? u.val ⟨b,o+k*8+3,none⟩=some (.slice d.a1 r.lies.length d.c1):=fun u=>((hS u.val).1 u.2).1.k3
    have x4:∀ u:Held S,World.cell? u.val ⟨b,o+k*8+4,none⟩=some (.slice d.a2 r.crosses.length d.c2):=fun u=>((hS u.val).1 u.2).1.k4
    have x5:∀ u:Held S,World.cell? u.val ⟨b,o+k*8+5,none⟩=some (.slice d.a3 r.parts.length d.c3):=fun u=>((hS u.val).1 u.2).1.k5
    have x6:∀ u:Held S,World.cell? u.val ⟨b,o+k*8+6,none⟩=some (.slice d.a4 r.over.length d.c4):=fun u=>((hS u.val).1 u.2).1.k6
    have x7:∀ u:Held S,World.cell? u.val ⟨b,o+k*8+7,none⟩=some (.slice d.a5 r.flanks.length d.c5):=fun u=>((hS u.val).1 u.2).1.k7
    have y0:∀ u:Held S,World.cell? u.val ⟨b',o'+k*8,none⟩=some (.int .i64 q.start):=fun u=>((hS u.val).1 u.2).2.k0
    have y1:∀ u:Held S,World.cell? u.val ⟨b',o'+k*8+1,none⟩=some (.int .i64 q.stop):=fun u=>((hS u.val).1 u.2).2.k1
    have y2:∀ u:Held S,World.cell? u.val ⟨b',o'+k*8+2,none⟩=some (.slice d'.a0 q.steps.length d'.c0):=fun u=>((hS u.val).1 u.2).2.k2
    have y3:∀ u:Held S,World.cell? u.val ⟨b',o'+k*8+3,none⟩=some (.slice d'.a1 q.lies.length d'.c1):=fun u=>((hS u.val).1 u.2).2.k3
    have y4:∀ u:Held S,World.cell? u.val ⟨b',o'+k*8+4,none⟩=some (.slice d'.a2 q.crosses.length d'.c2):=fun u=>((hS u.val).1 u.2).2.k4
    have y5:∀ u:Held S,World.cell? u.val ⟨b',o'+k*8+5,none⟩=some (.slice d'.a3 q.parts.length d'.c3):=fun u=>((hS u.val).1 u.2).2.k5
    have y6:∀ u:Held S,World.cell? u.val ⟨b',o'+k*8+6,none⟩=some (.slice d'.a4 q.over.length d'.c4):=fun u=>((hS u.val).1 u.2).2.k6
    have y7:∀ u:Held S,World.cell? u.val ⟨b',o'+k*8+7,none⟩=some (.slice d'.a5 q.flanks.length d'.c5):=fun u=>((hS u.val).1 u.2).2.k7
    have hS1:S wr.drew:=(hS _).2 ⟨HRC.out.kept rfl,HQC.out.kept rfl⟩
    have hne:=held_ne hS1
    clear hS
    refine wp_region_tree (fun w' => ∃ u:Held S,w'=u.val) 8 (by kernel_rfl) (by kernel_rfl) (held_some hS1) ?_
    (refine wpT_sea 0 ?_;intro K hK;go_big_quiet_op;go_big_quiet_on);(refine wpT_sea 1 ?_;intro K hK;go_big_quiet_op;go_big_quiet_on);(refine wpT_sea 2 ?_;intro K hK;go_big_quiet_op;go_big_quiet_on);(refine wpT_sea 3 ?_;intro K hK;go_big_quiet_op;go_big_quiet_on);(refine wpT_sea 4 ?_;intro K hK;go_big_quiet_op;go_big_quiet_on);(refine wpT_sea 5 ?_;intro K hK;go_big_quiet_op;go_big_quiet_on);(refine wpT_sea 6 ?_;intro K hK;go_big_quiet_op;go_big_quiet_on);(refine wpT_sea 7 ?_;intro K hK;go_big_quiet_op;go_big_quiet_on)
    refine wpT_done (by kernel_rfl) ?_
    simp only [List.drop_succ_cons,List.drop_zero]
    clear hne hS1 x0 x1 x2 x3 x4 x5 x6 x7 y0 y1 y2 y3 y4 y5 y6 y7
    go_wp2_with fail
    refine (l3same_any d d' r q _ (HRL.out.below ((Below.refl _ _).drew)) (HQL.out.below ((Below.refl _ _).drew))).mono ?_
    rintro e w4 ⟨rfl,hb4⟩
    have HB4:Hid (Below wr.heap.size wr w4):=(Below.refl _ _).drew.trans hb4
    clear hb4
    go_wp2_with fail
    go_meet
    exact ⟨rfl,HB4.out⟩
   case rest =>
    obtain ⟨rfl,hb2⟩:=hcut
    have HB2:Hid (Below w3.heap.size w3 wc):=HBq.out.trans (hb2.mono HBq.out.size)
    have HBw2:Hid (Below W.heap.size W wc):=HBr.out.trans (hb2.mono HBr.out.size)
    clear hb2
    by_cases hv0:wrongF r q=0
    ·have g0:(sameF r q != 0)=false:=by rw [sameF_0 hv0];rfl
     have HK2:Hid (chkR (rs.drop (k+1)) (want.drop (k+1)) (k+1)=O1):=by have h:=HST.out;rw [if_pos hv0] at h;exact h.symm
     clear hv0 HST
     generalize sameF r q=v at g0 ⊢
     go_wp2_with fail
     go_roundw
     case rel=>exact ⟨k+1,by omega,by omega,by go_num,HK2,HB2.out⟩
     case measure=>simp [intOf];omega
    ·obtain ⟨hs1,hs2,hs3,hs4⟩:=sameF_n hv0
     have HE:=hidP (HRES.out (wrongF r q) k (by have h:=HST.out;rw [if_neg hv0] at h;exact h))
     rw [← hs1] at HE
     have g0:(sameF r q != 0)=true:=by simpa using hs2
     clear hv0 hs1 hs2 HST
     generalize sameF r q=v at g0 hs3 hs4 HE ⊢
     obtain ⟨⟨r0,r1,r2⟩,⟨z0,z1,z2⟩,hzR,hbx⟩:=HK.out _ HBw2.out
     go_wp2_with fail
     exact bodyPost_ret (v:=.agg #[.int .i64 (2+v),.int .i64 k,.int .i64 0]) (by simp [results,Tryz.results10,go_sem,r0,r1,r2]) rfl ⟨bodyWrong HE.out,blo⟩
  ·have hki:¬ (k:Int)<N:=by omega
   have hkN:k=N:=by omega
   subst hkN
   by_cases hgt:k<n
   ·have f0:(k:Int)<n:=by omega
    have HE:=hidP (HRES.out 2 k (by rw [← HI.out];exact chkR_one (Or.inr ⟨by rw [HNN.out];omega,by rw [HN.out];exact hgt⟩)))
    obtain ⟨⟨r0,r1,r2⟩,⟨z0,z1,z2⟩,hzR,hbx⟩:=HK.out _ HBr.out
    go_wp2_with fail
    exact bodyPost_ret (v:=.agg #[.int .i64 2,.int .i64 k,.int .i64 0]) (by simp [results,Tryz.results10,go_sem,r0,r1,r2]) rfl ⟨bodyWrong HE.out,blo⟩
   have hnk:n=k:=by omega
   subst hnk
   have HON:Hid (chkR rs want 0=none):=by unfold Hid;rw [HO1.out,← HI.out];exact chkR_end (by rw [HN.out];omega) (by rw [HNN.out];omega)
   have HEQ:=hidP (chkR_none rs want 0 HON.out)
   have HCK:Hid (chkR rs (routesF ps js ss over) 0=none):=by unfold Hid;rw [HWT.out];exact HON.out
   have HUU:Hid (tableF rs=want.map fun a=>want.map (exclF a)):=by unfold Hid;rw [HEQ.out];exact tableF_at (by rw [HNN.out];exact hN3)
   obtain ⟨uu,huu⟩:∃ q,(want.map fun a=>want.map (exclF a))=q:=⟨_,rfl⟩
   rw [huu] at HUU
   have HU:=hidP huu
   have HUL:Hid (uu.length=n):=by unfold Hid;rw [← huu,List.length_map];exact HNN.out
   clear huu
   obtain ⟨O2,hO2⟩:∃ q,chkT tt uu=q:=⟨_,rfl⟩
   have HRT:Hid (∀ i k,O2=some (i,k)→wrongV O = .agg #[.int .i64 7,.int .i64 (i:Int),.int .i64 (k:Int)]):=fun i k h=>by
    rw [← HO.out,allF_t HG.out HCK.out (by rw [HUU.out,hO2];exact h)]
    rfl
   have HRN:Hid (O2=none→wrongV O = .agg #[.int .i64 0,.int .i64 0,.int .i64 0]):=fun h=>by
    rw [← HO.out,allF_ok HG.out HCK.out (by rw [HUU.out,hO2];exact h)]
    rfl
   have HO2:=hidP hO2
   clear hO2 HI HRES
   have f0:¬ (n:Int)<n:=by omega
   by_cases hmn:m=n
   rotate_left
   ·have f1:((m:Int) != (n:Int))=true:=by rw [bne_iff_ne];omega
    have HE:=hidP (HRT.out m 0 (by rw [← HO2.out];unfold chkT;rw [if_neg (by rw [HM.out,HUL.out];exact hmn),HM.out]))
    obtain ⟨⟨r0,r1,r2⟩,⟨z0,z1,z2⟩,hzR,hbx⟩:=HK.out _ HBr.out
    clear hmn
    go_wp2_with fail
    exact bodyPost_ret (v:=.agg #[.int .i64 7,.int .i64 m,.int .i64 0]) (by simp [results,Tryz.results10,go_sem,r0,r1,r2]) rfl ⟨bodyWrong HE.out,blo⟩
   subst hmn
   have f1:((m:Int) != (m:Int))=false:=by simp
   have HI2:Hid (tabT (tt.drop 0) (uu.drop 0) 0=O2):=by
    have h:=HO2.out
    unfold chkT at h
    rw [if_pos (by rw [HM.out,HUL.out])] at h
    exact h
   clear HO2
   go_wp2_with fail
   clear f0 f1 hki hk' hgt hk hkn
   obtain ⟨wq,hwq⟩:∃ u,u=wr:=⟨_,rfl⟩
   subst hwq
   go_loopw [77] (fun c ws => ∃ i:Nat,i≤m∧c = .int .i64 i∧Hid (tabT (tt.drop i) (uu.drop i) i=O2)∧Below wq.heap.size wq ws) (fun c _=>m-(intOf c).toNat)
   case atStart=>exact ⟨0,Nat.zero_le _,rfl,HI2,Below.refl _ _⟩
   case round =>
    obtain ⟨ws,hws⟩:∃ u,u=wr:=⟨_,rfl⟩
    subst hws
    obtain ⟨i,hi,rfl,HI,hbs⟩:=hrel
    have HBs:Hid (Below W.heap.size W ws):=HBr.out.trans (hbs.mono HBr.out.size)
    have HBt:Hid (Below w3.heap.size w3 ws):=HBq.out.trans (hbs.mono HBq.out.size)
    have HBu:=hidP hbs
    clear hbs
    by_cases hi':i<m
    ·have hii:(i:Int)<m:=by omega
     have hit:i<tt.length:=by rw [HM.out];exact hi'
     have hiu:i<uu.length:=by rw [HUL.out];exact hi'
     have hiw:i<want.length:=by rw [HNN.out];exact hi'
     obtain ⟨b,o,ha,hcc⟩:=(HQ.out.below HBt.out).2.resolve_left (nz hiw)
     obtain ⟨tb,to',hta,htc⟩:=(HTT.out.below HBt.out).2.resolve_left (nz hit)
     obtain ⟨d,⟨c0,c1,c2,c3,c4,c5,c6,c7⟩,ql⟩:=hcc i hiw
     obtain ⟨xa,xc,x0,xn⟩:=htc i hit
     have HST:=hidP (HI.out.symm.trans (tabT_on hit hiu))
     have HUI:Hid (uu[i]=want.map (exclF want[i])):=by
      unfold Hid
      have h:uu[i]? = some (want.map (exclF want[i])):=by rw [← HU.out,List.getElem?_map,List.getElem?_eq_getElem hiw];rfl
      rw [List.getElem?_eq_getElem hiu] at h
      exact Option.some.inj h
     have HSI:=hidP (HRF.out.2 _ (List.getElem_mem hiw)).short
     generalize tt[i]=X at x0 xn HST
     generalize uu[i]=Y at HST HUI
     generalize want[i]=r at c0 c1 c2 c3 c4 c5 c6 c7 ql HUI HSI
     obtain ⟨p,hp⟩:∃ p,X.length=p:=⟨_,rfl⟩
     have HYL:Hid (Y.length=m):=by unfold Hid;rw [HUI.out,List.length_map];exact HNN.out
     rw [hp] at x0 HST
     rw [HYL.out] at HST
     have HPL:=hidP hp
     have HXN:=hidP xn
     have HRL:=hidP ql
     have hlp:=xn.1
     unfold maxLen at hlp
     rw [hp] at hlp
     rw [ha,hta]
     clear hcc htc ql xn HI hp hit hiu hiw
     go_upto_region 20 with fail
     generalize hW2:World.alloc ws _=W2
     have hb2:Below ws.heap.size ws W2:=by rw [← hW2];exact blo
     have HX:Hid (RouteCell W2 ws.heap.size 0 d r):=by rw [← hW2];exact routeCell_box _ _ _ _
     have hz2:ws.heap.size<W2.heap.size:=by rw [← hW2];simp
     clear hW2 c0 c1 c2 c3 c4 c5 c6 c7
     have HB2:Hid (Below W.heap.size W W2):=HBs.out.trans (hb2.mono HBs.out.size)
     have HT2:Hid (Below w3.heap.size w3 W2):=HBt.out.trans (hb2.mono HBt.out.size)
     have HU2:Hid (Below wq.heap.size wq W2):=HBu.out.trans (hb2.mono HBu.out.size)
     replace x0:=cell_later hb2 x0
     have HX0:=hidP x0
     have HXN2:=hidP (HXN.out.below hb2)
     have HRL2:=hidP (HRL.out.below hb2)
     generalize ws.heap.size=D at HX hz2 ⊢
     clear hb2 HXN HRL HBs HBt HBu
     by_cases hpm:p=m
     rotate_left
     ·have f0:((p:Int) != (m:Int))=true:=by rw [bne_iff_ne];omega
      have HE:=hidP (HRT.out i p (by have h:=HST.out;rw [if_neg hpm] at h;exact h))
      obtain ⟨⟨r0,r1,r2⟩,⟨z0,z1,z2⟩,hzR,hbx⟩:=HK.out _ HB2.out
      clear hpm
      go_wp2_with fail
      exact bodyPost_ret (v:=.agg #[.int .i64 7,.int .i64 i,.int .i64 p]) (by simp [results,Tryz.results10,go_sem,r0,r1,r2]) rfl ⟨bodyWrong HE.out,blo⟩
     subst hpm
     have HST2:Hid (O2=(match rowT (X.drop 0) (Y.drop 0) 0 with
      | none=>tabT (tt.drop (i+1)) (uu.drop (i+1)) (i+1)
      | some k=>some (i,k))):=by have h:=HST.out;rw [if_pos rfl] at h;exact h
     have f0:((p:Int) != (p:Int))=false:=by simp
     have hp0:0<X.length:=by rw [HPL.out];omega
     obtain ⟨rb,ro,hrx,hrc⟩:=HXN2.out.2.resolve_left (nz hp0)
     subst hrx
     have HRC:=hidP hrc
     clear HST hp0 hrc HXN2
     go_wp2_with fail
     clear f0 x0
     go_loopw [99] (fun c wt => ∃ k:Nat,k≤p∧c = .int .i64 k∧Hid (rowT (X.drop k) (Y.drop k) k=rowT (X.drop 0) (Y.drop 0) 0)∧Below W2.heap.size W2 wt) (fun c _=>p-(intOf c).toNat)
     case atStart=>exact ⟨0,Nat.zero_le _,rfl,rfl,Below.refl _ _⟩
     case round =>
      obtain ⟨k,hk,rfl,HKK,hbt⟩:=hrel
      obtain ⟨wt,hwt⟩:∃ u,u=wr:=⟨_,rfl⟩
      subst hwt
      have HBt:Hid (Below W2.heap.size W2 wt):=hbt
      have HBw:Hid (Below w3.heap.size w3 wt):=HT2.out.trans (hbt.mono HT2.out.size)
      clear hbt
      by_cases hk':k<p
      ·have hki:(k:Int)<p:=by omega
       have hkw:k<want.length:=by rw [HNN.out];exact hk'
       have hkx:k<X.length:=by rw [HPL.out];exact hk'
       have hky:k<Y.length:=by rw [HYL.out];exact hk'
       obtain ⟨b',o',ha',hcc⟩:=(HQ.out.below HBw.out).2.resolve_left (nz hkw)
       obtain ⟨d',⟨c0,c1,c2,c3,c4,c5,c6,c7⟩,ql⟩:=hcc k hkw
       have xk:=cell_later HBt.out (HRC.out k hkx)
       have HST3:=hidP (HKK.out.symm.trans (rowT_on hkx hky))
       have HYK:Hid (Y[k]=exclF r want[k]):=by
        unfold Hid
        have h:Y[k]? = some (exclF r want[k]):=by rw [HUI.out,List.getElem?_map,List.getElem?_eq_getElem hkw];rfl
        rw [List.getElem?_eq_getElem hky] at h
        exact Option.some.inj h
       have HSK:=hidP (HRF.out.2 _ (List.getElem_mem hkw)).short
       generalize X[k]=xv at xk HST3
       generalize Y[k]=yv at HST3 HYK
       generalize want[k]=q at c0 c1 c2 c3 c4 c5 c6 c7 ql HYK HSK
       have x0:=cell_later HBt.out HX0.out
       have HQL:=hidP ql
       obtain ⟨rfl,rfl⟩:b'=b∧o'=o:=by rw [ha'] at ha;simpa using ha
       clear hcc ql ha'
       go_upto_region 25 with fail
       generalize hW3:World.alloc wt _=W3
       have hb3:Below wt.heap.size wt W3:=by rw [← hW3];exact blo
       have HY:Hid (RouteCell W3 wt.heap.size 0 d' q):=by rw [← hW3];exact routeCell_box _ _ _ _
       have hz3:wt.heap.size<W3.heap.size:=by rw [← hW3];simp
       clear hW3 c0 c1 c2 c3 c4 c5 c6 c7
       have HB3w:Hid (Below W2.heap.size W2 W3):=HBt.out.trans (hb3.mono HBt.out.size)
       have HX3:=hidP (HX.out.below HB3w.out)
       replace x0:=cell_later hb3 x0
       replace xk:=cell_later hb3 xk
       have HRL3:=hidP (HRL2.out.below HB3w.out)
       have HQL3:=hidP (HQL.out.below hb3)
       have hzD:D<W3.heap.size:=Nat.lt_of_lt_of_le hz2 HB3w.out.size
       generalize wt.heap.size=E at HY hz3 ⊢
       clear hb3 HQL hkw hkx hky
       have HEX:Hid (∀ u:World,Below W3.heap.size W3 u→Calls Tryz.prog 36 #[routeV d r,routeV d' q] u fun e w'=>e = .returned (.int .i64 yv)∧Below u.heap.size u w'):=fun u hu=>by
        rw [HYK.out]
        exact specExclude_any d d' r q u (HRL3.out.below hu) (HQL3.out.below hu) HSI HSK
       obtain ⟨S,hS⟩:∃ S:World→Prop,∀ u,S u↔Below W3.heap.size W3 u:=⟨_,fun _=>Iff.rfl⟩
       have HS0:=hidP hS
       have x0h:∀ u:Held S,World.cell? u.val _=some _:=fun u=>cell_later ((hS u.val).1 u.2) x0
       have xkh:∀ u:Held S,World.cell? u.val _=some _:=fun u=>cell_later ((hS u.val).1 u.2) xk
       have xr:∀ u:Held S,RouteCell u.val D 0 d r:=fun u=>HX3.out.below ((hS u.val).1 u.2)
       have yr:∀ u:Held S,RouteCell u.val E 0 d' q:=fun u=>HY.out.below ((hS u.val).1 u.2)
       have u0:∀ u:Held S,World.cell? u.val ⟨D,0,none⟩=some (.int .i64 r.start):=fun u=>(xr u).k0
       have u1:∀ u:Held S,World.cell? u.val ⟨D,1,none⟩=some (.int .i64 r.stop):=fun u=>by simpa using (xr u).k1
       have u2:∀ u:Held S,World.cell? u.val ⟨D,2,none⟩=some (.slice d.a0 r.steps.length d.c0):=fun u=>by simpa using (xr u).k2
       have u3:∀ u:Held S,World.cell? u.val ⟨D,3,none⟩=some (.slice d.a1 r.lies.length d.c1):=fun u=>by simpa using (xr u).k3
       have u4:∀ u:Held S,World.cell? u.val ⟨D,4,none⟩=some (.slice d.a2 r.crosses.length d.c2):=fun u=>by simpa using (xr u).k4
       have u5:∀ u:Held S,World.cell? u.val ⟨D,5,none⟩=some (.slice d.a3 r.parts.length d.c3):=fun u=>by simpa using (xr u).k5
       have u6:∀ u:Held S,World.cell? u.val ⟨D,6,none⟩=some (.slice d.a4 r.over.length d.c4):=fun u=>by simpa using (xr u).k6
       have u7:∀ u:Held S,World.cell? u.val ⟨D,7,none⟩=some (.slice d.a5 r.flanks.length d.c5):=fun u=>by simpa using (xr u).k7
       have v0:∀ u:Held S,World.cell? u.val ⟨E,0,none⟩=some (.int .i64 q.start):=fun u=>(yr u).k0
       have v1:∀ u:Held S,World.cell? u.val ⟨E,1,none⟩=some (.int .i64 q.stop):=fun u=>by simpa using (yr u).k1
       have v2:∀ u:Held S,World.cell? u.val ⟨E,2,none⟩=some (.slice d'.a0 q.steps.length d'.c0):=fun u=>by simpa using (yr u).k2
       have v3:∀ u:Held S,World.cell? u.val ⟨E,3,none⟩=some (.slice d'.a1 q.lies.length d'.c1):=fun u=>by simpa using (yr u).k3
       have v4:∀ u:Held S,World.cell? u.val ⟨E,4,none⟩=some (.slice d'.a2 q.crosses.length d'.c2):=fun u=>by simpa using (yr u).k4
       have v5:∀ u:Held S,World.cell? u.val ⟨E,5,none⟩=some (.slice d'.a3 q.parts.length d'.c3):=fun u=>by simpa using (yr u).k5
       have v6:∀ u:Held S,World.cell? u.val ⟨E,6,none⟩=some (.slice d'.a4 q.over.length d'.c4):=fun u=>by simpa using (yr u).k6
       have v7:∀ u:Held S,World.cell? u.val ⟨E,7,none⟩=some (.slice d'.a5 q.flanks.length d'.c5):=fun u=>by simpa using (yr u).k7
       have hS1:S W3.drew:=(hS _).2 ((Below.refl _ _).drew)
       have hne:=held_ne hS1
       clear hS xr yr x0 xk HX3 HY
       refine wp_region_tree (fun w' => ∃ u:Held S,w'=u.val) 10 (by kernel_rfl) (by kernel_rfl) (held_some hS1) ?_
       (refine wpT_sea 0 ?_;intro K hK;go_big_quiet_op;go_big_quiet_on);(refine wpT_sea 1 ?_;intro K hK;go_big_quiet_op;go_big_quiet_on);(refine wpT_sea 2 ?_;intro K hK;go_big_quiet_op;go_big_quiet_on);(refine wpT_sea 3 ?_;intro K hK;go_big_quiet_op;go_big_quiet_on);(refine wpT_sea 4 ?_;intro K hK;go_big_quiet_op;go_big_quiet_on);(refine wpT_sea 5 ?_;intro K hK;go_big_quiet_op;go_big_quiet_on);(refine wpT_sea 6 ?_;intro K hK;go_big_quiet_op;go_big_quiet_on);(refine wpT_sea 7 ?_;intro K hK;go_big_quiet_op;go_big_quiet_on);(refine wpT_sea 8 ?_;intro K hK;go_big_quiet_op;go_big_quiet_on)
       refine wpT_loud 9 (by rfl) (by kernel_rfl) (by kernel_rfl) ?_
       intro KK hK
       go_wp2_with (go_at_call 36;refine (HEX.out _ ((Below.refl _ _).drew)).mono ?_;rintro e w5 ⟨rfl,hb5'⟩)
       have hb5:Below W3.heap.size W3 w5:=(Below.refl _ _).drew.trans hb5'
       refine hK _ _ (held_some ((HS0.out _).2 hb5)) ?_
       clear hK KK hb5' x0h xkh u0 u1 u2 u3 u4 u5 u6 u7 v0 v1 v2 v3 v4 v5 v6 v7 hS1 hne
       refine wpT_done (by kernel_rfl) ?_
       have HB5:Hid (Below W2.heap.size W2 w5):=HB3w.out.trans (hb5.mono HB3w.out.size)
       clear hb5
       by_cases hxy:xv=yv
       ·have f0:(xv != yv)=false:=by simpa using hxy
        have HK2:Hid (rowT (X.drop (k+1)) (Y.drop (k+1)) (k+1)=rowT (X.drop 0) (Y.drop 0) 0):=by have h:=HST3.out;rw [if_pos hxy] at h;exact h.symm
        clear hxy
        go_wp2_with fail
        go_roundw
        case rel=>exact ⟨k+1,by omega,by go_num,HK2,HB5.out⟩
        case measure=>simp [intOf];omega
       ·have f0:(xv != yv)=true:=by simpa using hxy
        have HE:=hidP (HRT.out i k (by rw [HST2.out,HST3.out,if_neg hxy]))
        obtain ⟨⟨r0,r1,r2⟩,⟨z0,z1,z2⟩,hzR,hbx⟩:=HK.out _ (HB2.out.trans (HB5.out.mono HB2.out.size))
        clear hxy
        go_wp2_with fail
        exact bodyPost_ret (v:=.agg #[.int .i64 7,.int .i64 i,.int .i64 k]) (by simp [results,Tryz.results10,go_sem,r0,r1,r2]) rfl ⟨bodyWrong HE.out,blo⟩
      ·have hki:¬ (k:Int)<p:=by omega
       have HI3:Hid (tabT (tt.drop (i+1)) (uu.drop (i+1)) (i+1)=O2):=by
        unfold Hid
        rw [HST2.out,← HKK.out,rowT_end (by rw [HPL.out];omega)]
       have HBz:Hid (Below wq.heap.size wq wt):=HU2.out.trans (HBt.out.mono HU2.out.size)
       go_wp2_with fail
       go_roundw
       case rel=>exact ⟨i+1,by omega,by go_num,HI3,HBz.out⟩
       case measure=>simp [intOf];omega
    ·have hii:¬ (i:Int)<m:=by omega
     have HE:=hidP (HRN.out (by rw [← HI.out];exact tabT_end (by rw [HM.out];omega)))
     obtain ⟨⟨r0,r1,r2⟩,⟨z0,z1,z2⟩,hzR,hbx⟩:=HK.out _ HBs.out
     go_wp2_with fail
     exact bodyPost_ret (v:=.agg #[.int .i64 0,.int .i64 0,.int .i64 0]) (by simp [results,Tryz.results10,go_sem,r0,r1,r2]) rfl ⟨bodyWrong HE.out,blo⟩
end Go.Proofs.YtmkdgnmmebldgabGreatDoor
