import Derived.Test.YtmkdgnmmebldgabGreatDoorPr43
set_option maxRecDepth 100000
set_option maxHeartbeats 8000000
namespace Go.Proofs.YtmkdgnmmebldgabGreatDoor
open Go.RowKit Go.Deep
theorem l3steps_any (a a':Option Addr)(c c':Nat)(xs ys:List MEnd)(w:World)(hx:Hid (EndsAt w a xs))(hy:Hid (EndsAt w a' ys)):
  Calls Tryz.prog 60 #[.slice a xs.length c,.slice a' ys.length c'] w fun e w'=>e = .returned (.bool (eqL xs ys))∧Below w.heap.size w w':=by
 have hl1:=hx.out.1
 have hl2:=hy.out.1
 unfold maxLen at hl1 hl2
 obtain ⟨n,hn⟩:∃ n,xs.length=n:=⟨_,rfl⟩
 obtain ⟨m,hm⟩:∃ m,ys.length=m:=⟨_,rfl⟩
 rw [hn] at hl1 ⊢
 rw [hm] at hl2 ⊢
 have HN:=hidP hn
 have HM:=hidP hm
 clear hn hm
 go_enter Tryz.func60,Tryz.ntmps60
 by_cases hnm:n=m
 rotate_left
 ·have hb:((n:Int) != (m:Int))=true:=by rw [bne_iff_ne];omega
  have HF:Hid (eqL xs ys=false):=eqL_len (by rw [HN.out,HM.out];exact hnm)
  clear hnm
  go_wp2_with fail
  go_ret
  exact ⟨by rw [HF.out];rfl,Below.refl _ _⟩
 subst hnm
 go_wp2_with fail
 go_loopw [13] (fun i wr => ∃ k:Nat,k≤n∧i = .int .i64 k∧Hid (xs.take k=ys.take k)∧Below w.heap.size w wr) (fun i _=>n-(intOf i).toNat)
 case atStart=>exact ⟨0,Nat.zero_le _,rfl,by unfold Hid;rw [List.take_zero,List.take_zero],Below.refl _ _⟩
 case round =>
  obtain ⟨k,hk,rfl,HT,hbr⟩:=hrel
  by_cases hk':k<n
  ·have hki:(k:Int)<n:=by omega
   have hkx:k<xs.length:=by rw [HN.out];exact hk'
   have hky:k<ys.length:=by rw [HM.out];exact hk'
   obtain ⟨b,o,ha,hc⟩:=(hx.out.below hbr).2.resolve_left (nz hkx)
   obtain ⟨b',o',ha',hc'⟩:=(hy.out.below hbr).2.resolve_left (nz hky)
   subst ha ha'
   have HTS:Hid (xs[k]=ys[k]→xs.take (k+1)=ys.take (k+1)):=fun e=>by rw [List.take_succ_eq_append_getElem hkx,List.take_succ_eq_append_getElem hky,HT.out,e]
   have HNE:Hid (xs[k]≠ys[k]→eqL xs ys=false):=eqL_at hkx hky
   have cx:=hc k hkx
   have cy:=hc' k hky
   generalize xs[k]=x at cx HTS HNE
   generalize ys[k]=y at cy HTS HNE
   obtain ⟨x0,x1⟩:=x
   obtain ⟨y0,y1⟩:=y
   obtain ⟨cx0,cx1⟩:=cx
   obtain ⟨cy0,cy1⟩:=cy
   dsimp only at cx0 cx1 cy0 cy1
   have HBr:=hidP hbr
   clear hc hc' hbr HT hkx hky
   go_upto_region 6 with fail
   by_cases h0:x0=y0
   rotate_left
   ·have HF:=hidP (HNE.out (fun e=>h0 (by injection e)))
    have f0:(x0==y0)=false:=by simpa using h0
    have f1:(x0 != y0)=true:=by simpa using h0
    clear h0
    go_quiet (fail)
    go_wp2_with fail
    go_ret
    exact ⟨by rw [HF.out];rfl,bdrewN HBr.out _⟩
   subst h0
   by_cases h1:x1=y1
   rotate_left
   ·have HF:=hidP (HNE.out (fun e=>h1 (by injection e)))
    have f0:(x1==y1)=false:=by simpa using h1
    have f1:(x1 != y1)=true:=by simpa using h1
    have b0:(x0==x0)=true:=by simp
    clear h1
    go_quiet (fail)
    go_wp2_with fail
    go_ret
    exact ⟨by rw [HF.out];rfl,bdrewN HBr.out _⟩
   subst h1
   have v:Hid (xs.take (k+1)=ys.take (k+1)):=HTS.out rfl
   have b0:(x0 != x0)=false:=by simp
   have b1:(x1 != x1)=false:=by simp
   go_quiet (fail)
   go_wp2_with fail
   go_roundw
   case rel=>exact ⟨k+1,by omega,by go_num,v,bdrewN HBr.out _⟩
   case measure=>simp [intOf];omega
  ·have hki:¬ (k:Int)<n:=by omega
   have HE:Hid (eqL xs ys=true):=eqL_t (by have h:=HT.out;rw [List.take_of_length_le (by rw [HN.out];omega),List.take_of_length_le (by rw [HM.out];omega)] at h;exact h)
   go_wp2_with fail
   go_ret
   exact ⟨by rw [HE.out];rfl,hbr⟩
theorem l3parts_any (a a':Option Addr)(c c':Nat)(xs ys:List MPart)(w:World)(hx:Hid (PartsAt w a xs))(hy:Hid (PartsAt w a' ys)):
  Calls Tryz.prog 61 #[.slice a xs.length c,.slice a' ys.length c'] w fun e w'=>e = .returned (.bool (eqL xs ys))∧Below w.heap.size w w':=by
 have hl1:=hx.out.1
 have hl2:=hy.out.1
 unfold maxLen at hl1 hl2
 obtain ⟨n,hn⟩:∃ n,xs.length=n:=⟨_,rfl⟩
 obtain ⟨m,hm⟩:∃ m,ys.length=m:=⟨_,rfl⟩
 rw [hn] at hl1 ⊢
 rw [hm] at hl2 ⊢
 have HN:=hidP hn
 have HM:=hidP hm
 clear hn hm
 go_enter Tryz.func61,Tryz.ntmps61
 by_cases hnm:n=m
 rotate_left
 ·have hb:((n:Int) != (m:Int))=true:=by rw [bne_iff_ne];omega
  have HF:Hid (eqL xs ys=false):=eqL_len (by rw [HN.out,HM.out];exact hnm)
  clear hnm
  go_wp2_with fail
  go_ret
  exact ⟨by rw [HF.out];rfl,Below.refl _ _⟩
 subst hnm
 go_wp2_with fail
 go_loopw [13] (fun i wr => ∃ k:Nat,k≤n∧i = .int .i64 k∧Hid (xs.take k=ys.take k)∧Below w.heap.size w wr) (fun i _=>n-(intOf i).toNat)
 case atStart=>exact ⟨0,Nat.zero_le _,rfl,by unfold Hid;rw [List.take_zero,List.take_zero],Below.refl _ _⟩
 case round =>
  obtain ⟨k,hk,rfl,HT,hbr⟩:=hrel
  by_cases hk':k<n
  ·have hki:(k:Int)<n:=by omega
   have hkx:k<xs.length:=by rw [HN.out];exact hk'
   have hky:k<ys.length:=by rw [HM.out];exact hk'
   obtain ⟨b,o,ha,hc⟩:=(hx.out.below hbr).2.resolve_left (nz hkx)
   obtain ⟨b',o',ha',hc'⟩:=(hy.out.below hbr).2.resolve_left (nz hky)
   subst ha ha'
   have HTS:Hid (xs[k]=ys[k]→xs.take (k+1)=ys.take (k+1)):=fun e=>by rw [List.take_succ_eq_append_getElem hkx,List.take_succ_eq_append_getElem hky,HT.out,e]
   have HNE:Hid (xs[k]≠ys[k]→eqL xs ys=false):=eqL_at hkx hky
   have cx:=hc k hkx
   have cy:=hc' k hky
   generalize xs[k]=x at cx HTS HNE
   generalize ys[k]=y at cy HTS HNE
   obtain ⟨x0,x1,x2⟩:=x
   obtain ⟨y0,y1,y2⟩:=y
   obtain ⟨cx0,cx1,cx2⟩:=cx
   obtain ⟨cy0,cy1,cy2⟩:=cy
   dsimp only at cx0 cx1 cx2 cy0 cy1 cy2
   have HBr:=hidP hbr
   clear hc hc' hbr HT hkx hky
   go_upto_region 6 with fail
   by_cases h0:x0=y0
   rotate_left
   ·have HF:=hidP (HNE.out (fun e=>h0 (by injection e)))
    have f0:(x0==y0)=false:=by simpa using h0
    have f1:(x0 != y0)=true:=by simpa using h0
    clear h0
    go_quiet (fail)
    go_wp2_with fail
    go_ret
    exact ⟨by rw [HF.out];rfl,bdrewN HBr.out _⟩
   subst h0
   by_cases h1:x1=y1
   rotate_left
   ·have HF:=hidP (HNE.out (fun e=>h1 (by injection e)))
    have f0:(x1==y1)=false:=by simpa using h1
    have f1:(x1 != y1)=true:=by simpa using h1
    have b0:(x0==x0)=true:=by simp
    clear h1
    go_quiet (fail)
    go_wp2_with fail
    go_ret
    exact ⟨by rw [HF.out];rfl,bdrewN HBr.out _⟩
   subst h1
   by_cases h2:x2=y2
   rotate_left
   ·have HF:=hidP (HNE.out (fun e=>h2 (by injection e)))
    have f0:(x2==y2)=false:=by simpa using h2
    have f1:(x2 != y2)=true:=by simpa using h2
    have b0:(x0==x0)=true:=by simp
    have b1:(x1==x1)=true:=by simp
    clear h2
    go_quiet (fail)
    go_wp2_with fail
    go_ret
    exact ⟨by rw [HF.out];rfl,bdrewN HBr.out _⟩
   subst h2
   have v:Hid (xs.take (k+1)=ys.take (k+1)):=HTS.out rfl
   have b0:(x0 != x0)=false:=by simp
   have b1:(x1 != x1)=false:=by simp
   have b2:(x2 != x2)=false:=by simp
   go_quiet (fail)
   go_wp2_with fail
   go_roundw
   case rel=>exact ⟨k+1,by omega,by go_num,v,bdrewN HBr.out _⟩
   case measure=>simp [intOf];omega
  ·have hki:¬ (k:Int)<n:=by omega
   have HE:Hid (eqL xs ys=true):=eqL_t (by have h:=HT.out;rw [List.take_of_length_le (by rw [HN.out];omega),List.take_of_length_le (by rw [HM.out];omega)] at h;exact h)
   go_wp2_with fail
   go_ret
   exact ⟨by rw [HE.out];rfl,hbr⟩
def sameF (r q : MRoute) (D : Prop → Bool := fun p => @decide p (Classical.propDecidable p)) : Int :=
 if r.start=q.start∧r.stop=q.stop∧eqL r.steps q.steps D = true then
  if eqL r.lies q.lies D = true∧eqL r.crosses q.crosses D = true then
   if eqL r.parts q.parts D = true∧eqL r.over q.over D = true then
    if eqL r.flanks q.flanks D = true then 0 else 4
   else 3
  else 2
 else 1
theorem sameF_0 {r q:MRoute}(h:wrongF r q=0):sameF r q=0:=by
 unfold wrongF at h
 unfold sameF
 repeat' split at h
 all_goals first | (exfalso;omega) | skip
 rename_i h1 h2 h3 h4
 rw [if_pos h1,if_pos h2,if_pos h3,if_pos h4]
theorem sameF_n {r q:MRoute}(h:wrongF r q≠0):2+sameF r q=wrongF r q∧sameF r q≠0∧0≤sameF r q∧sameF r q≤4:=by
 unfold wrongF at h ⊢
 unfold sameF
 by_cases h1:r.start=q.start∧r.stop=q.stop∧eqL r.steps q.steps=true
 ·rw [if_pos h1] at h ⊢
  rw [if_pos h1]
  by_cases h2:eqL r.lies q.lies=true∧eqL r.crosses q.crosses=true
  ·rw [if_pos h2] at h ⊢
   rw [if_pos h2]
   by_cases h3:eqL r.parts q.parts=true∧eqL r.over q.over=true
   ·rw [if_pos h3] at h ⊢
    rw [if_pos h3]
    by_cases h4:eqL r.flanks q.flanks=true
    ·rw [if_pos h4] at h
     exact absurd rfl h
    ·rw [if_neg h4,if_neg h4]
     omega
   ·rw [if_neg h3,if_neg h3]
    omega
  ·rw [if_neg h2,if_neg h2]
   omega
 ·rw [if_neg h1,if_neg h1]
  omega
theorem l3same_any (d d':RAddr)(r q:MRoute)(w:World)(hr:Hid (RListsAt w d r))(hq:Hid (RListsAt w d' q)):
  Calls Tryz.prog 35 #[routeV d r,routeV d' q] w fun e w'=>e = .returned (.int .i64 (sameF r q))∧Below w.heap.size w w':=by
 unfold routeV
 go_enter Tryz.func35,Tryz.ntmps35
 have HW:Hid (sameF r q=if r.start=q.start∧r.stop=q.stop∧eqL r.steps q.steps=true then
  if eqL r.lies q.lies=true∧eqL r.crosses q.crosses=true then
   if eqL r.parts q.parts=true∧eqL r.over q.over=true then
    if eqL r.flanks q.flanks=true then 0 else 4
   else 3
  else 2
 else 1):=rfl
 obtain ⟨v,hv⟩:∃ v,sameF r q=v:=⟨_,rfl⟩
 rw [hv]
 rw [hv] at HW
 clear hv
 go_upto_region 1 with fail
 generalize hW:World.alloc (World.alloc w _) _=W
 have hbW:Below w.heap.size w W:=by rw [← hW];exact blo
 have HX:Hid (RouteCell W w.heap.size 0 d r):=by rw [← hW];exact ⟨by simp [go_sem],by simp [go_sem],by simp [go_sem],by simp [go_sem],by simp [go_sem],by simp [go_sem],by simp [go_sem],by simp [go_sem]⟩
 have HY:Hid (RouteCell W (w.heap.size+1) 0 d' q):=by rw [← hW];exact ⟨by simp [go_sem],by simp [go_sem],by simp [go_sem],by simp [go_sem],by simp [go_sem],by simp [go_sem],by simp [go_sem],by simp [go_sem]⟩
 have HBW:=hidP hbW
 have HR:=hidP (hr.out.below hbW)
 have HQ:=hidP (hq.out.below hbW)
 obtain ⟨X,hX⟩:∃ X,w.heap.size=X:=⟨_,rfl⟩
 obtain ⟨Y,hY⟩:∃ Y,X+1=Y:=⟨_,rfl⟩
 have HXw:Hid (w.heap.size=X):=hX
 rw [hX] at HX HY ⊢
 rw [hY] at HY ⊢
 clear hW hbW hX hY hr hq
 obtain ⟨n1,hn1⟩:∃ n,r.lies.length=n:=⟨_,rfl⟩
 obtain ⟨m1,hm1⟩:∃ n,q.lies.length=n:=⟨_,rfl⟩
 obtain ⟨n2,hn2⟩:∃ n,r.crosses.length=n:=⟨_,rfl⟩
 obtain ⟨m2,hm2⟩:∃ n,q.crosses.length=n:=⟨_,rfl⟩
 obtain ⟨n3,hn3⟩:∃ n,r.flanks.length=n:=⟨_,rfl⟩
 obtain ⟨m3,hm3⟩:∃ n,q.flanks.length=n:=⟨_,rfl⟩
 have HN1:=hidP hn1
 have HM1:=hidP hm1
 have HN2:=hidP hn2
 have HM2:=hidP hm2
 have HN3:=hidP hn3
 have HM3:=hidP hm3
 have hl1:=HR.out.lies.1
 have hl2:=HR.out.crosses.1
 have hl3:=HR.out.flanks.1
 unfold maxLen at hl1 hl2 hl3
 rw [hn1] at hl1
 rw [hn2] at hl2
 rw [hn3] at hl3
 have HC:Hid (∀ u:World,Below W.heap.size W u→(u.cell? ⟨X,3,none⟩=some (.slice d.a1 n1 d.c1)∧u.cell? ⟨Y,3,none⟩=some (.slice d'.a1 m1 d'.c1))∧(u.cell? ⟨X,4,none⟩=some (.slice d.a2 n2 d.c2)∧u.cell? ⟨Y,4,none⟩=some (.slice d'.a2 m2 d'.c2))∧(u.cell? ⟨X,7,none⟩=some (.slice d.a5 n3 d.c5)∧u.cell? ⟨Y,7,none⟩=some (.slice d'.a5 m3 d'.c5))∧(u.cell? ⟨X,5,none⟩=some (.slice d.a3 r.parts.length d.c3)∧u.cell? ⟨Y,5,none⟩=some (.slice d'.a3 q.parts.length d'.c3))∧(u.cell? ⟨X,6,none⟩=some (.slice d.a4 r.over.length d.c4)∧u.cell? ⟨Y,6,none⟩=some (.slice d'.a4 q.over.length d'.c4))):=fun u hu=>by
  have x:=HX.out.below hu
  have y:=HY.out.below hu
  rw [← hn1,← hm1,← hn2,← hm2,← hn3,← hm3]
  exact ⟨⟨by simpa using x.k3,by simpa using y.k3⟩,⟨by simpa using x.k4,by simpa using y.k4⟩,⟨by simpa using x.k7,by simpa using y.k7⟩,⟨by simpa using x.k5,by simpa using y.k5⟩,⟨by simpa using x.k6,by simpa using y.k6⟩⟩
 clear hn1 hm1 hn2 hm2 hn3 hm3
 have x0:=HX.out.k0
 have x1:=HX.out.k1
 have x2:=HX.out.k2
 have y0:=HY.out.k0
 have y1:=HY.out.k1
 have y2:=HY.out.k2
 simp only [Nat.zero_add] at x0 x1 x2 y0 y1 y2
 by_cases h0:r.start=q.start
 rotate_left
 ·have f0:(r.start != q.start)=true:=by simpa using h0
  have HV:Hid (v=1):=by unfold Hid;rw [HW.out,if_neg (fun h=>h0 h.1)]
  clear h0
  go_wp2_with fail
  go_ret
  exact ⟨by rw [HV.out];rfl,HBW.out⟩
 have f0:(r.start != q.start)=false:=by simpa using h0
 have H0:=hidP h0
 clear h0
 by_cases h1:r.stop=q.stop
 rotate_left
 ·have f1:(r.stop != q.stop)=true:=by simpa using h1
  have HV:Hid (v=1):=by unfold Hid;rw [HW.out,if_neg (fun h=>h1 h.2.1)]
  clear h1
  go_wp2_with fail
  go_ret
  exact ⟨by rw [HV.out];rfl,HBW.out⟩
 have f1:(r.stop != q.stop)=false:=by simpa using h1
 have H1:=hidP h1
 clear h1
 go_wp2_with fail
 refine (l3steps_any d.a0 d'.a0 d.c0 d'.c0 r.steps q.steps W HR.out.steps HQ.out.steps).mono ?_
 rintro e w1 ⟨rfl,hb1⟩
 have HB1:=hidP hb1
 clear hb1 x0 x1 x2 y0 y1 y2 f0 f1 HX HY
 cases hs:eqL r.steps q.steps
 ·have HV:Hid (v=1):=by unfold Hid;rw [HW.out,if_neg (fun h=>by rw [hs] at h;simp at h)]
  go_wp2_with fail
  go_ret
  exact ⟨by rw [HV.out];rfl,HBW.out.trans (HB1.out.mono HBW.out.size)⟩
 have HW2:Hid (v=if eqL r.lies q.lies=true∧eqL r.crosses q.crosses=true then
   if eqL r.parts q.parts=true∧eqL r.over q.over=true then
    if eqL r.flanks q.flanks=true then 0 else 4
   else 3
  else 2):=by unfold Hid;rw [HW.out,if_pos ⟨H0.out,H1.out,hs⟩]
 clear hs HW H0 H1
 obtain ⟨⟨x3,y3⟩,⟨x4,y4⟩,_⟩:=HC.out _ HB1.out
 by_cases hnm1:n1=m1
 rotate_left
 ·have f0:((n1:Int) != (m1:Int))=true:=by rw [bne_iff_ne];omega
  have HV:Hid (v=2):=by unfold Hid;rw [HW2.out,if_neg (fun h=>by rw [eqL_len (by rw [HN1.out,HM1.out];exact hnm1)] at h;simp at h)]
  clear hnm1
  go_wp2_with fail
  go_ret
  exact ⟨by rw [HV.out];rfl,HBW.out.trans (HB1.out.mono HBW.out.size)⟩
 by_cases hnm2:n2=m2
 rotate_left
 ·have f0:((n1:Int) != (m1:Int))=false:=by rw [hnm1];simp
  have f1:((n2:Int) != (m2:Int))=true:=by rw [bne_iff_ne];omega
  have HV:Hid (v=2):=by unfold Hid;rw [HW2.out,if_neg (fun h=>by rw [eqL_len (xs:=r.crosses) (by rw [HN2.out,HM2.out];exact hnm2)] at h;simp at h)]
  clear hnm1 hnm2
  go_wp2_with fail
  go_ret
  exact ⟨by rw [HV.out];rfl,HBW.out.trans (HB1.out.mono HBW.out.size)⟩
 subst hnm1 hnm2
 have f0:((n1:Int) != (n1:Int))=false:=by simp
 have f1:((n2:Int) != (n2:Int))=false:=by simp
 go_wp2_with fail
 clear f0 f1 x3 x4 y3 y4
 go_loopw [47] (fun i wr => ∃ k:Nat,k≤n1∧i = .int .i64 k∧Hid (r.lies.take k=q.lies.take k)∧Below W.heap.size W wr) (fun i _=>n1-(intOf i).toNat)
 case atStart=>exact ⟨0,Nat.zero_le _,rfl,by unfold Hid;rw [List.take_zero,List.take_zero],HB1.out⟩
 case round =>
  obtain ⟨k,hk,rfl,HT,hbr⟩:=hrel
  by_cases hk':k<n1
  ·have hki:(k:Int)<n1:=by omega
   have hkx:k<r.lies.length:=by rw [HN1.out];exact hk'
   have hky:k<q.lies.length:=by rw [HM1.out];exact hk'
   obtain ⟨zx,zy⟩:=(HC.out _ hbr).1
   obtain ⟨b,o,ha,hc⟩:=(HR.out.lies.below hbr).2.resolve_left (nz hkx)
   obtain ⟨b',o',ha',hc'⟩:=(HQ.out.lies.below hbr).2.resolve_left (nz hky)
   rw [ha] at zx
   rw [ha'] at zy
   have HTS:Hid (r.lies[k]=q.lies[k]→r.lies.take (k+1)=q.lies.take (k+1)):=fun e=>by rw [List.take_succ_eq_append_getElem hkx,List.take_succ_eq_append_getElem hky,HT.out,e]
   have HNE:Hid (r.lies[k]≠q.lies[k]→v=2):=fun e=>by rw [HW2.out,if_neg (fun h=>by rw [eqL_at hkx hky e] at h;simp at h)]
   have cx:=hc k hkx
   have cy:=hc' k hky
   generalize r.lies[k]=x at cx HTS HNE
   generalize q.lies[k]=y at cy HTS HNE
   obtain ⟨x0,x1⟩:=x
   obtain ⟨y0,y1⟩:=y
   obtain ⟨cx0,cx1⟩:=cx
   obtain ⟨cy0,cy1⟩:=cy
   dsimp only at cx0 cx1 cy0 cy1
   have HBr:=hidP hbr
   clear hc hc' hbr HT hkx hky ha ha'
   go_upto_region 8 with fail
   by_cases h0:x0=y0
   rotate_left
   ·have HV:=hidP (HNE.out (fun e=>h0 (by injection e)))
    have f0:(x0==y0)=false:=by simpa using h0
    have f1:(x0 != y0)=true:=by simpa using h0
    clear h0
    go_quiet (fail)
    go_wp2_with fail
    go_ret
    exact ⟨by rw [HV.out];rfl,bdrewN (HBW.out.trans (HBr.out.mono HBW.out.size)) _⟩
   subst h0
   by_cases h1:x1=y1
   rotate_left
   ·have HV:=hidP (HNE.out (fun e=>h1 (by injection e)))
    have f0:(x1==y1)=false:=by simpa using h1
    have f1:(x1 != y1)=true:=by simpa using h1
    have b0:(x0==x0)=true:=by simp
    clear h1
    go_quiet (fail)
    go_wp2_with fail
    go_ret
    exact ⟨by rw [HV.out];rfl,bdrewN (HBW.out.trans (HBr.out.mono HBW.out.size)) _⟩
   subst h1
   have v2:Hid (r.lies.take (k+1)=q.lies.take (k+1)):=HTS.out rfl
   have b0:(x0 != x0)=false:=by simp
   have b1:(x1 != x1)=false:=by simp
   go_quiet (fail)
   go_wp2_with fail
   go_roundw
   case rel=>exact ⟨k+1,by omega,by go_num,v2,bdrewN HBr.out _⟩
   case measure=>simp [intOf];omega
  ·have hki:¬ (k:Int)<n1:=by omega
   have HE:Hid (eqL r.lies q.lies=true):=eqL_t (by have h:=HT.out;rw [List.take_of_length_le (by rw [HN1.out];omega),List.take_of_length_le (by rw [HM1.out];omega)] at h;exact h)
   obtain ⟨_,⟨x4,y4⟩,_⟩:=HC.out _ hbr
   have HB2:=hidP hbr
   have HE1:=hidP HE.out
   clear hbr HT HE
   go_wp2_with fail
   clear x4 y4
   go_loopw [65] (fun i ws => ∃ k:Nat,k≤n2∧i = .int .i64 k∧Hid (r.crosses.take k=q.crosses.take k)∧Below W.heap.size W ws) (fun i _=>n2-(intOf i).toNat)
   case atStart=>exact ⟨0,Nat.zero_le _,rfl,by unfold Hid;rw [List.take_zero,List.take_zero],HB2.out⟩
   case round =>
    obtain ⟨k,hk,rfl,HT,hbr⟩:=hrel
    by_cases hk':k<n2
    ·have hki:(k:Int)<n2:=by omega
     have hkx:k<r.crosses.length:=by rw [HN2.out];exact hk'
     have hky:k<q.crosses.length:=by rw [HM2.out];exact hk'
     obtain ⟨zx,zy⟩:=(HC.out _ hbr).2.1
     obtain ⟨b,o,ha,hc⟩:=(HR.out.crosses.below hbr).2.resolve_left (nz hkx)
     obtain ⟨b',o',ha',hc'⟩:=(HQ.out.crosses.below hbr).2.resolve_left (nz hky)
     rw [ha] at zx
     rw [ha'] at zy
     have HTS:Hid (r.crosses[k]=q.crosses[k]→r.crosses.take (k+1)=q.crosses.take (k+1)):=fun e=>by rw [List.take_succ_eq_append_getElem hkx,List.take_succ_eq_append_getElem hky,HT.out,e]
     have HNE:Hid (r.crosses[k]≠q.crosses[k]→v=2):=fun e=>by rw [HW2.out,if_neg (fun h=>by rw [eqL_at (xs:=r.crosses) hkx hky e] at h;simp at h)]
     have cx:=hc k hkx
     have cy:=hc' k hky
     generalize r.crosses[k]=x at cx HTS HNE
     generalize q.crosses[k]=y at cy HTS HNE
     have HBr:=hidP hbr
     clear hc hc' hbr HT hkx hky ha ha'
     go_upto_region 14 with fail
     by_cases h0:x=y
     rotate_left
     ·have HV:=hidP (HNE.out (fun e=>h0 (by exact e)))
      have f0:(x==y)=false:=by simpa using h0
      have f1:(x != y)=true:=by simpa using h0
      clear h0
      go_quiet (fail)
      go_wp2_with fail
      go_ret
      exact ⟨by rw [HV.out];rfl,bdrewN (HBW.out.trans (HBr.out.mono HBW.out.size)) _⟩
     subst h0
     have v2:Hid (r.crosses.take (k+1)=q.crosses.take (k+1)):=HTS.out rfl
     have b0:(x != x)=false:=by simp
     go_quiet (fail)
     go_wp2_with fail
     go_roundw
     case rel=>exact ⟨k+1,by omega,by go_num,v2,bdrewN HBr.out _⟩
     case measure=>simp [intOf];omega
    ·have hki:¬ (k:Int)<n2:=by omega
     have HE:Hid (eqL r.crosses q.crosses=true):=eqL_t (by have h:=HT.out;rw [List.take_of_length_le (by rw [HN2.out];omega),List.take_of_length_le (by rw [HM2.out];omega)] at h;exact h)
     obtain ⟨_,_,_,⟨x5,y5⟩,⟨x6,y6⟩⟩:=HC.out _ hbr
     have HBs:=hidP hbr
     have HW3:Hid (v=if eqL r.parts q.parts=true∧eqL r.over q.over=true then
       if eqL r.flanks q.flanks=true then 0 else 4
      else 3):=by unfold Hid;rw [HW2.out,if_pos ⟨HE1.out,HE.out⟩]
     have HRs:=hidP (HR.out.below hbr)
     have HQs:=hidP (HQ.out.below hbr)
     clear hbr HT HE HW2
     go_wp2_with fail
     refine (l3parts_any d.a3 d'.a3 d.c3 d'.c3 r.parts q.parts _ HRs.out.parts HQs.out.parts).mono ?_
     rintro e w4 ⟨rfl,hb4⟩
     have HB4:Hid (Below W.heap.size W w4):=HBs.out.trans (hb4.mono HBs.out.size)
     replace x6:=cell_later hb4 x6
     replace y6:=cell_later hb4 y6
     have HR4:=hidP (HRs.out.below hb4)
     have HQ4:=hidP (HQs.out.below hb4)
     clear hb4 x5 y5
     cases hs:eqL r.parts q.parts
     ·have HV:Hid (v=3):=by unfold Hid;rw [HW3.out,if_neg (fun h=>by rw [hs] at h;simp at h)]
      go_wp2_with fail
      go_ret
      exact ⟨by rw [HV.out];rfl,HBW.out.trans (HB4.out.mono HBW.out.size)⟩
     have HS4:=hidP hs
     clear hs
     go_wp2_with fail
     refine (l3parts_any d.a4 d'.a4 d.c4 d'.c4 r.over q.over _ HR4.out.over HQ4.out.over).mono ?_
     rintro e w5 ⟨rfl,hb5⟩
     have HB5:Hid (Below W.heap.size W w5):=HB4.out.trans (hb5.mono HB4.out.size)
     clear hb5 x6 y6
     cases hs:eqL r.over q.over
     ·have HV:Hid (v=3):=by unfold Hid;rw [HW3.out,if_neg (fun h=>by rw [hs] at h;simp at h)]
      go_wp2_with fail
      go_ret
      exact ⟨by rw [HV.out];rfl,HBW.out.trans (HB5.out.mono HBW.out.size)⟩
     have HW4:Hid (v=if eqL r.flanks q.flanks=true then 0 else 4):=by unfold Hid;rw [HW3.out,if_pos ⟨HS4.out,hs⟩]
     clear hs HS4 HW3
     obtain ⟨_,_,⟨x7,y7⟩,_⟩:=HC.out _ HB5.out
     by_cases hnm3:n3=m3
     rotate_left
     ·have f0:((n3:Int) != (m3:Int))=true:=by rw [bne_iff_ne];omega
      have HV:Hid (v=4):=by unfold Hid;rw [HW4.out,if_neg (fun h=>by rw [eqL_len (by rw [HN3.out,HM3.out];exact hnm3)] at h;simp at h)]
      clear hnm3
      go_wp2_with fail
      go_ret
      exact ⟨by rw [HV.out];rfl,HBW.out.trans (HB5.out.mono HBW.out.size)⟩
     subst hnm3
     have f0:((n3:Int) != (n3:Int))=false:=by simp
     go_wp2_with fail
     clear f0 x7 y7
     go_loopw [104] (fun i wt => ∃ k:Nat,k≤n3∧i = .int .i64 k∧Hid (r.flanks.take k=q.flanks.take k)∧Below W.heap.size W wt) (fun i _=>n3-(intOf i).toNat)
     case atStart=>exact ⟨0,Nat.zero_le _,rfl,by unfold Hid;rw [List.take_zero,List.take_zero],HB5.out⟩
     case round =>
      obtain ⟨k,hk,rfl,HT,hbr⟩:=hrel
      by_cases hk':k<n3
      ·have hki:(k:Int)<n3:=by omega
       have hkx:k<r.flanks.length:=by rw [HN3.out];exact hk'
       have hky:k<q.flanks.length:=by rw [HM3.out];exact hk'
       obtain ⟨zx,zy⟩:=(HC.out _ hbr).2.2.1
       obtain ⟨b,o,ha,hc⟩:=(HR.out.flanks.below hbr).2.resolve_left (nz hkx)
       obtain ⟨b',o',ha',hc'⟩:=(HQ.out.flanks.below hbr).2.resolve_left (nz hky)
       rw [ha] at zx
       rw [ha'] at zy
       have HTS:Hid (r.flanks[k]=q.flanks[k]→r.flanks.take (k+1)=q.flanks.take (k+1)):=fun e=>by rw [List.take_succ_eq_append_getElem hkx,List.take_succ_eq_append_getElem hky,HT.out,e]
       have HNE:Hid (r.flanks[k]≠q.flanks[k]→v=4):=fun e=>by rw [HW4.out,if_neg (fun h=>by rw [eqL_at hkx hky e] at h;simp at h)]
       have cx:=hc k hkx
       have cy:=hc' k hky
       generalize r.flanks[k]=x at cx HTS HNE
       generalize q.flanks[k]=y at cy HTS HNE
       obtain ⟨x0,x1,x2,x3⟩:=x
       obtain ⟨y0,y1,y2,y3⟩:=y
       obtain ⟨cx0,cx1,cx2,cx3⟩:=cx
       obtain ⟨cy0,cy1,cy2,cy3⟩:=cy
       dsimp only at cx0 cx1 cx2 cx3 cy0 cy1 cy2 cy3
       have HBr:=hidP hbr
       clear hc hc' hbr HT hkx hky ha ha'
       go_upto_region 24 with fail
       by_cases h0:x0=y0
       rotate_left
       ·have HV:=hidP (HNE.out (fun e=>h0 (by injection e)))
        have f0:(x0==y0)=false:=by simpa using h0
        have f1:(x0 != y0)=true:=by simpa using h0
        clear h0
        go_quiet (fail)
        go_wp2_with fail
        go_ret
        exact ⟨by rw [HV.out];rfl,bdrewN (HBW.out.trans (HBr.out.mono HBW.out.size)) _⟩
       subst h0
       by_cases h1:x1=y1
       rotate_left
       ·have HV:=hidP (HNE.out (fun e=>h1 (by injection e)))
        have f0:(x1==y1)=false:=by simpa using h1
        have f1:(x1 != y1)=true:=by simpa using h1
        have b0:(x0==x0)=true:=by simp
        clear h1
        go_quiet (fail)
        go_wp2_with fail
        go_ret
        exact ⟨by rw [HV.out];rfl,bdrewN (HBW.out.trans (HBr.out.mono HBW.out.size)) _⟩
       subst h1
       by_cases h2:x2=y2
       rotate_left
       ·have HV:=hidP (HNE.out (fun e=>h2 (by injection e)))
        have f0:(x2==y2)=false:=by simpa using h2
        have f1:(x2 != y2)=true:=by simpa using h2
        have b0:(x0==x0)=true:=by simp
        have b1:(x1==x1)=true:=by simp
        clear h2
        go_quiet (fail)
        go_wp2_with fail
        go_ret
        exact ⟨by rw [HV.out];rfl,bdrewN (HBW.out.trans (HBr.out.mono HBW.out.size)) _⟩
       subst h2
       by_cases h3:x3=y3
       rotate_left
       ·have HV:=hidP (HNE.out (fun e=>h3 (by injection e)))
        have f0:(x3==y3)=false:=by simpa using h3
        have f1:(x3 != y3)=true:=by simpa using h3
        have b0:(x0==x0)=true:=by simp
        have b1:(x1==x1)=true:=by simp
        have b2:(x2==x2)=true:=by simp
        clear h3
        go_quiet (fail)
        go_wp2_with fail
        go_ret
        exact ⟨by rw [HV.out];rfl,bdrewN (HBW.out.trans (HBr.out.mono HBW.out.size)) _⟩
       subst h3
       have v2:Hid (r.flanks.take (k+1)=q.flanks.take (k+1)):=HTS.out rfl
       have b0:(x0 != x0)=false:=by simp
       have b1:(x1 != x1)=false:=by simp
       have b2:(x2 != x2)=false:=by simp
       have b3:(x3 != x3)=false:=by simp
       go_quiet (fail)
       go_wp2_with fail
       go_roundw
       case rel=>exact ⟨k+1,by omega,by go_num,v2,bdrewN HBr.out _⟩
       case measure=>simp [intOf];omega
      ·have hki:¬ (k:Int)<n3:=by omega
       have HE:Hid (eqL r.flanks q.flanks=true):=eqL_t (by have h:=HT.out;rw [List.take_of_length_le (by rw [HN3.out];omega),List.take_of_length_le (by rw [HM3.out];omega)] at h;exact h)
       have HV:Hid (v=0):=by unfold Hid;rw [HW4.out,if_pos HE.out]
       go_wp2_with fail
       go_ret
       exact ⟨by rw [HV.out];rfl,HBW.out.trans (hbr.mono HBW.out.size)⟩
end Go.Proofs.YtmkdgnmmebldgabGreatDoor
