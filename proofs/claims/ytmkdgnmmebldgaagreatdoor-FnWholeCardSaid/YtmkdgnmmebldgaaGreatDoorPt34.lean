import Derived.Test.YtmkdgnmmebldgaaGreatDoorPt25
import Derived.Test.YtmkdgnmmebldgaaGreatDoorPt9
import Derived.Deep.RegionHeld3
import Derived.Test.YtmkdgnmmebldgaaGreatDoorPt31
import Derived.Test.YtmkdgnmmebldgaaGreatDoorPt32
import Derived.Test.YtmkdgnmmebldgaaGreatDoorPt33
set_option maxRecDepth 100000
set_option maxHeartbeats 8000000
namespace Go.Proofs.YtmkdgnmmebldgaaGreatDoor
open Go.RowKit Go.Deep
theorem encR_len (x:RAddr × MRoute):(encR x).length=8:=rfl
theorem routes_of {w:World}{F B:Nat}{x:Option Addr}{y:Nat}{pr:List (RAddr × MRoute)}(h:w.ownsRow B 44 8 (.slice x pr.length y) pr.length (flatR pr))(hk:∀ z ∈ pr,RKeep w F z.1 z.2):RoutesAt w x (pr.map Prod.snd)∧(x=none→y=0):=by
 rcases h.2 with ⟨h1,h2⟩ | ⟨g,cap,cur,h1,h2,h3,h4,h5,_⟩
 ·have:pr=[]:=List.eq_nil_of_length_eq_zero h2
  subst this
  injection h1 with e1 e2 e3
  exact ⟨⟨Nat.zero_le _,Or.inl rfl⟩,fun _=>e3⟩
 ·cases h1
  refine ⟨⟨by rw [List.length_map];exact Nat.le_trans h4 h5,Or.inr ⟨g,0,rfl,?_⟩⟩,fun e=>by cases e⟩
  intro i hi
  rw [List.length_map] at hi
  have hc:=h.cells (g:=g) rfl
  have hg:∀ j,j<8→∀ u,(encR pr[i])[j]? = some u→w.cell? ⟨g,0+i*8+j,none⟩=some u:=by
   intro j hj u hu
   have:=hc (i*8+j) u ((flat_get encR 8 encR_len pr i j hi hj).trans hu)
   rw [addr_at] at this
   have e:0+(i*8+j)=0+i*8+j:=by omega
   rw [e] at this
   exact this
  refine ⟨pr[i].1,?_,?_⟩
  ·rw [List.getElem_map]
   exact ⟨hg 0 (by omega) _ rfl,hg 1 (by omega) _ rfl,hg 2 (by omega) _ rfl,hg 3 (by omega) _ rfl,hg 4 (by omega) _ rfl,hg 5 (by omega) _ rfl,hg 6 (by omega) _ rfl,hg 7 (by omega) _ rfl⟩
  ·rw [List.getElem_map]
   exact (hk pr[i] (List.getElem_mem hi)).lists
theorem l1all_any (pa ja sa:Option Addr)(pc jc sc:Nat)(ps:List MPiece)(js:List MJoint)(ss:List MPiece)(w:World)(hp:Hid (PiecesAt w pa ps))(hj:Hid (JointsAt w ja js))(hs:Hid (PiecesAt w sa ss)):
  Calls Tryz.prog 33 #[.agg #[.slice pa ps.length pc,.slice ja js.length jc],.slice sa ss.length sc] w fun e w'=>e = .returned (.bool ((sigF ps js ss).1==0))∧Below w.heap.size w w':=by
 go_enter Tryz.func33,Tryz.ntmps33
 go_wp2_with fail
 refine (specSignalsOk_any _ _ _ _ _ _ _ _ _ _ (hp.out.below blo) (hj.out.below blo) (hs.out.below blo)).mono ?_
 rintro e w1 ⟨rfl,hb1⟩
 have hb:Below w.heap.size w w1:=Below.trans blo (hb1.mono (by simp))
 unfold faultV
 obtain ⟨c,hc⟩:∃ c,(sigF ps js ss).1=c:=⟨_,rfl⟩
 obtain ⟨d,hd⟩:∃ d,(sigF ps js ss).2=d:=⟨_,rfl⟩
 rw [hc,hd]
 have HC:=hidP hc
 have hz:=hb.size
 clear hb1 hc hd
 cases h:(c==0)
 ·go_wp2_with fail
  go_ret
  rw [HC.out,h]
  exact ⟨rfl,blo⟩
 ·go_wp2_with fail
  go_ret
  rw [HC.out,h]
  exact ⟨rfl,blo⟩
def FindInv (w0 Wl wr:World)(F:Nat)(pa ja sa:Option Addr)(pc jc sc:Nat)(ps:List MPiece)(js:List MJoint)(ss:List MPiece)(over:Int)(vo:Value)(m:Nat):Prop:=
 ∃ xo yo t pr,WS w0 wr F pa ja sa pc jc sc ps.length js.length ss.length over xo yo t pr∧Eff F vo (.slice xo pr.length yo) Wl wr∧Went (routeF ps js ss over) 0 [] (allEvs ps js ss m) t (pr.map Prod.snd)∧t≤20000+depthR ps+m∧pr.length≤301
theorem sig_code {ps:List MPiece}{js:List MJoint}{ss:List MPiece}(h:(sigF ps js ss).1=0):sigF ps js ss=(0,0):=by
 unfold sigF at h ⊢
 split at h
 ·rename_i h0
  rw [if_pos h0]
  split at h
  ·simp at h
  ·rename_i h1
   rw [if_neg h1]
   split at h
   ·simp at h
   ·rename_i h2
    rw [if_neg h2]
    split at h
    ·simp at h
    ·rename_i h3
     rw [if_neg h3]
 ·simp at h
theorem found_all {ps:List MPiece}{js:List MJoint}{ss:List MPiece}{over:Int}(hs:sigF ps js ss=(0,0))(h0:0≤over)(h1:over≤100000){t:Nat}{rs:List MRoute}(h:Went (routeF ps js ss over) 0 [] (allEvs ps js ss ss.length) t rs)(hl:rs.length≤300∧t≤20000):rs=routesF ps js ss over:=by
 have hf:Fits 0 ([]:List MRoute).length (allEvs ps js ss ss.length):=by
  refine Classical.byContradiction (fun hn=>?_)
  rcases h.past hn with h2 | h2 <;> omega
 obtain ⟨_,e⟩:=h.fit hf
 obtain ⟨f1,f2⟩:=hf
 unfold routesF
 rw [if_pos ⟨hs,h0,h1,by simpa using f1,by simpa using f2⟩,e,List.nil_append]
theorem found_none {ps:List MPiece}{js:List MJoint}{ss:List MPiece}{over:Int}{t:Nat}{rs:List MRoute}(h:Went (routeF ps js ss over) 0 [] (allEvs ps js ss ss.length) t rs)(hl:¬ (rs.length≤300∧t≤20000)):routesF ps js ss over=[]:=by
 unfold routesF
 rw [if_neg]
 rintro ⟨_,_,_,f1,f2⟩
 obtain ⟨e1,e2⟩:=h.fit ⟨by simpa using f1,by simpa using f2⟩
 refine hl ⟨?_,by omega⟩
 rw [e2]
 simpa using f2
theorem routesF_wrong {ps:List MPiece}{js:List MJoint}{ss:List MPiece}{over:Int}(h:¬ (sigF ps js ss=(0,0)∧0≤over∧over≤100000)):routesF ps js ss over=[]:=by
 unfold routesF
 rw [if_neg (fun e=>h ⟨e.1,e.2.1,e.2.2.1⟩)]
theorem keep_nil (w:World)(F:Nat)(st sp:Int):RKeep w F ⟨none,0,none,0,none,0,none,0,none,0,none,0⟩ ⟨st,sp,[],[],[],[],[],[]⟩:=
 ⟨⟨⟨Nat.zero_le _,Or.inl rfl⟩,⟨Nat.zero_le _,Or.inl rfl⟩,⟨Nat.zero_le _,Or.inl rfl⟩,⟨Nat.zero_le _,Or.inl rfl⟩,⟨Nat.zero_le _,Or.inl rfl⟩,⟨Nat.zero_le _,Or.inl rfl⟩,fun _=>rfl⟩,Or.inl rfl,Or.inl rfl,Or.inl rfl,Or.inl rfl,Or.inl rfl,Or.inl rfl⟩
theorem nil_nil (st sp:Int):NilR ⟨none,0,none,0,none,0,none,0,none,0,none,0⟩ ⟨st,sp,[],[],[],[],[],[]⟩:=⟨fun _=>⟨rfl,rfl⟩,fun _=>⟨rfl,rfl⟩,fun _=>⟨rfl,rfl⟩,fun _=>⟨rfl,rfl⟩⟩
theorem specRoutes_of (pa ja sa:Option Addr)(pc jc sc:Nat)(ps:List MPiece)(js:List MJoint)(ss:List MPiece)(over:Int)(w:World)(hp:Hid (PiecesAt w pa ps))(hj:Hid (JointsAt w ja js))(hs:Hid (PiecesAt w sa ss))
  (hw:Hid (∀ F,w.heap.size≤F→Right ps js ss→0≤over→over≤100000→∀ n,WalkSpec w F pa ja sa pc jc sc ps js ss over n)) :
  Calls Tryz.prog 9 #[.agg #[.slice pa ps.length pc,.slice ja js.length jc],.slice sa ss.length sc,.int .i64 over] w fun e w' => ∃ a c,e = .returned (.slice a (routesF ps js ss over).length c)∧RoutesAt w' a (routesF ps js ss over)∧(a=none→c=0)∧Below w.heap.size w w':=by
 obtain ⟨RS,hRS⟩:∃ RS,routesF ps js ss over=RS:=⟨_,rfl⟩
 rw [hRS]
 have HRS:=hidP hRS
 clear hRS
 go_enter Tryz.func9,Tryz.ntmps9
 go_wp2_with fail
 refine (l1all_any pa ja sa pc jc sc ps js ss _ (hp.out.below blo) (hj.out.below blo) (hs.out.below blo)).mono ?_
 rintro e w1 ⟨rfl,hb1⟩
 have hb:Below w.heap.size w w1:=Below.trans blo (hb1.mono (by simp))
 have n0:w1.cell? ⟨w.heap.size,0,none⟩=some (.slice pa ps.length pc):=cell_later hb1 (by simp [go_sem])
 have n1:w1.cell? ⟨w.heap.size,1,none⟩=some (.slice ja js.length jc):=cell_later hb1 (by simp [go_sem])
 have hz1:=cellLt n0
 dsimp only at hz1
 clear hb1
 cases hc:((sigF ps js ss).1==0)
 ·have HR0:Hid (RS=[]):=by
   unfold Hid
   rw [← HRS.out]
   exact routesF_wrong (fun e=>by rw [e.1] at hc;simp at hc)
  go_wp2_with fail
  go_ret
  rw [HR0.out]
  exact ⟨none,0,rfl,⟨Nat.zero_le _,Or.inl rfl⟩,fun _=>rfl,hb⟩
 ·have HSIG:=hidP (sig_code (ps:=ps) (js:=js) (ss:=ss) (by simpa using hc))
  have R:Hid (Right ps js ss):=right_of HSIG.out
  clear hc
  go_wp2_with fail
  refine (l1in_any over 0 100000 _).mono ?_
  rintro e w2 ⟨rfl,rfl⟩
  by_cases hov:0≤over∧over≤100000
  rotate_left
  ·have hi:inB over 0 100000=false:=by
    by_cases h:0≤over
    ·exact inB_f2 (fun h2=>hov ⟨h,h2⟩)
    ·exact inB_f1 h
   rw [hi]
   have HR0:Hid (RS=[]):=by
    unfold Hid
    rw [← HRS.out]
    exact routesF_wrong (fun e=>hov e.2)
   clear hi
   go_wp2_with fail
   go_ret
   rw [HR0.out]
   exact ⟨none,0,rfl,⟨Nat.zero_le _,Or.inl rfl⟩,fun _=>rfl,hb⟩
  ·have hi:inB over 0 100000=true:=inB_t hov.1 hov.2
   rw [hi]
   clear hi
   have HOV:=hidP hov
   clear hov
   go_wp2_with fail
   generalize hW:World.alloc w2 _=W
   have HS0:Hid (WS w W w2.heap.size pa ja sa pc jc sc ps.length js.length ss.length over none 0 0 []):=by
    rw [← hW]
    exact ⟨hb.alloc hb.size _,hb.size,by simp [go_sem],by simp [go_sem],by simp [go_sem],by simp [go_sem],by simp [go_sem],by simp [go_sem],by simp [go_sem],by simp [go_sem],⟨.slice none 0 0,by simp [go_sem]⟩,by simp [go_sem],World.ownsRow_nil _ _ _ _,fun x hx=>by cases hx⟩
   have hbW:Below w2.heap.size w2 W:=by rw [← hW];exact (Below.refl _ _).alloc (Nat.le_refl _) _
   have m0:=cell_later hbW n0
   have m1:=cell_later hbW n1
   have hzW:w2.heap.size<W.heap.size:=by rw [← hW];simp
   have HI0:Hid (FindInv w W W w2.heap.size pa ja sa pc jc sc ps js ss over (.slice none 0 0) 0):=⟨none,0,0,[],HS0.out,HS0.out.eff0 (Below.refl _ _),Went.stay,by omega,by simp⟩
   have hnss:=R.out.ns
   clear hW n0 n1 hbW HS0
   go_loopw [26] (fun c wr => ∃ m:Nat,m≤ss.length∧c = .int .i64 m∧Hid (FindInv w W wr w2.heap.size pa ja sa pc jc sc ps js ss over (.slice none 0 0) m)) (fun c _=>ss.length-(intOf c).toNat)
   case atStart=>exact ⟨0,Nat.zero_le _,rfl,HI0⟩
   case round =>
    clear HI0
    obtain ⟨m,hm,rfl,HI⟩:=hrel
    obtain ⟨xo,yo,t,pr,hws,heff,hwt,ht,hpr⟩:=HI.out
    have HWS:=hidP hws
    have HEF:=hidP heff
    have HWT:=hidP hwt
    clear HI hws heff hwt
    by_cases hm':m<ss.length
    ·obtain ⟨bs,os,hsa,hpcs⟩:=(hs.out.below HWS.out.base).2.2.resolve_left (nz hm')
     subst hsa
     obtain ⟨s0,s1,s2,s3⟩:=hpcs m hm'
     obtain ⟨p,hpl,e1,e2,e3,e4⟩:=R.out.sig m hm'
     have hL:=R.out.plen p hpl
     have n0:wr.cell? ⟨w.heap.size,0,none⟩=some (.slice pa ps.length pc):=(World.cell?_of_block (w:=W) (HEF.out.block (b:=w.heap.size) (by omega) (by omega) (fun e=>by cases e))).trans m0
     have n1:wr.cell? ⟨w.heap.size,1,none⟩=some (.slice ja js.length jc):=(World.cell?_of_block (w:=W) (HEF.out.block (b:=w.heap.size) (by omega) (by omega) (fun e=>by cases e))).trans m1
     have HEVS:Hid (allEvs ps js (ss) (m+1)=allEvs ps js ss m++evs ps js ss (depthR ps) (pathOf m ([]++[⟨(p:Int),ss[m].brake⟩]) [] []) ss[m].speed):=by
      unfold Hid
      have h:allEvs ps js ss (m+1)=allEvs ps js ss m++(match ss[m]? with | none=>[] | some s=>evs ps js ss (depthR ps) (beginP m s) s.speed):=rfl
      rw [h,List.getElem?_eq_getElem hm']
      have h2:beginP m ss[m]=pathOf m ([]++[⟨(p:Int),ss[m].brake⟩]) [] []:=by
       unfold beginP pathOf
       rw [e1]
       rfl
      rw [← h2]
     have HOK:Hid (WalkOk ps js ss m [] ⟨p,ss[m].brake⟩ [] [] ss[m].speed):=by
      have h:=WalkOk.begin R.out hm'
      rw [e1] at h
      exact h
     rw [e1] at s1
     obtain ⟨wy,hwy⟩:∃ wy,ss[m].brake=wy:=⟨_,rfl⟩
     obtain ⟨sp,hsp⟩:∃ sp,ss[m].speed=sp:=⟨_,rfl⟩
     rw [hwy] at s3 HEVS HOK e2
     rw [hsp] at s2 HEVS HOK e3 e4
     obtain ⟨far,hfar⟩:∃ far,farI ps p sp wy=far:=⟨_,rfl⟩
     have HFR:Hid (∀ u:World,Below wr.heap.size wr u→Calls Tryz.prog 36 #[.agg #[.slice pa ps.length pc,.slice ja js.length jc],.int .i64 p,.int .i64 sp,.int .i64 wy] u fun e w'=>e = .returned (.int .i64 far)∧Below u.heap.size u w'):=by
      intro u hu
      rw [← hfar]
      exact l2far_any pa ja pc js.length jc ps p sp wy u ((hp.out.below HWS.out.base).below hu) hpl hL (by omega) (by omega)
     have HWK:Hid (∀ u:World,Below wr.heap.size wr u→Calls Tryz.prog 35 #[.pointer (some ⟨w2.heap.size,0,none⟩),.agg #[.int .i64 m,.int .i64 0,.slice none 0 0,.slice none 0 0,.slice none 0 0,.slice none 0 0,.slice none 0 0,.slice none 0 0],.int .i64 p,.int .i64 wy,.int .i64 far] u (WalkPost w u w2.heap.size pa ja (some ⟨bs,os,none⟩) pc jc sc ps js ss over (depthR ps) t (.slice xo pr.length yo) (pr.map Prod.snd) (evs ps js ss (depthR ps) (pathOf m ([]++[⟨(p:Int),wy⟩]) [] []) sp))):=by
      intro u hu
      rw [← hfar]
      exact hw.out w2.heap.size hb.size R.out HOV.out.1 HOV.out.2 (depthR ps) none 0 none 0 none 0 none 0 m [] p wy [] [] sp xo yo t pr u HOK.out (by unfold depthR;simp) (HWS.out.below hu) (keep_nil _ _ _ _) (nil_nil _ _) (by have:=R.out.np;unfold depthR at ht;omega) hpr
     have hmi:(m:Int)<ss.length:=by omega
     have hzs:=cellLt s0
     dsimp only at hzs
     have hwz:=HEF.out.size
     clear hpcs hfar hwy hsp e1 e2 e3 e4
     go_wp2_with fail
     generalize hWb:World.alloc wr _=Wb
     have hbb:Below wr.heap.size wr Wb:=by rw [← hWb];exact (Below.refl _ _).alloc (Nat.le_refl _) _
     have b1:Wb.cell? ⟨wr.heap.size,1,none⟩=some (.int .i64 p):=by rw [← hWb];simp [go_sem]
     have b2:Wb.cell? ⟨wr.heap.size,2,none⟩=some (.int .i64 sp):=by rw [← hWb];simp [go_sem]
     have b3:Wb.cell? ⟨wr.heap.size,3,none⟩=some (.int .i64 wy):=by rw [← hWb];simp [go_sem]
     replace n0:=cell_later hbb n0
     replace n1:=cell_later hbb n1
     have hzb:=hbb.size
     have hzbb:wr.heap.size<Wb.heap.size:=by rw [← hWb];simp
     have HBB:=hidP hbb
     clear hWb hbb s0 s1 s2 s3 hzs
     go_region_held3 (fun w'=>w'.cell? ⟨wr.heap.size,1,none⟩=some (.int .i64 p)∧w'.cell? ⟨wr.heap.size,2,none⟩=some (.int .i64 sp)∧w'.cell? ⟨wr.heap.size,3,none⟩=some (.int .i64 wy)∧w'.cell? ⟨w.heap.size,0,none⟩=some (.slice pa ps.length pc)∧w'.cell? ⟨w.heap.size,1,none⟩=some (.slice ja js.length jc)) (first | go_keep | (refine ⟨?_,?_,?_,?_,?_⟩ <;> assumption))
      (first
       | (go_at_call 36;refine (HFR.out _ (HBB.out.drew)).mono ?_;rintro e w5 ⟨rfl,hb5'⟩;have hb5:Below Wb.heap.size Wb w5:=(Below.refl _ _).drew.trans hb5';replace n0:=cell_later hb5 n0;replace n1:=cell_later hb5 n1;replace b1:=cell_later hb5 b1;replace b2:=cell_later hb5 b2;replace b3:=cell_later hb5 b3;have hz5:=hb5.size;have HB5:Hid (Below wr.heap.size wr w5):=HBB.out.trans (hb5.mono hzb);clear hb5' hb5)
       | (go_at_call 35;refine (HWK.out w5 HB5.out).mono ?_;rintro e w6 ⟨rfl,xo6,yo6,t6,pr6,k1,k2,k3,k4,k5⟩;have hx1:w6.heap[wr.heap.size]? = w5.heap[wr.heap.size]? := k2.block (by omega) (by omega) (fun e=>by have:=(HWS.out.own.lt _ e).2;omega);have hx2:w6.heap[w.heap.size]? = w5.heap[w.heap.size]? := k2.block (by omega) (by omega) (fun e=>by have:=(HWS.out.own.lt _ e).1;omega);replace n0:=(World.cell?_of_block (w:=w5) hx2).trans n0;replace n1:=(World.cell?_of_block (w:=w5) hx2).trans n1;replace b1:=(World.cell?_of_block (w:=w5) hx1).trans b1;replace b2:=(World.cell?_of_block (w:=w5) hx1).trans b2;replace b3:=(World.cell?_of_block (w:=w5) hx1).trans b3;have HIN:Hid (FindInv w W w6 w2.heap.size pa ja (some ⟨bs,os,none⟩) pc jc sc ps js ss over (.slice none 0 0) (m+1)):=(by refine ⟨xo6,yo6,t6,pr6,k1,(HEF.out.later HB5.out).trans k2,?_,by omega,k5⟩;rw [HEVS.out];exact HWT.out.app k3);clear k1 k2 k3 k4 k5 hx1 hx2))
     all_goals
      go_wp2_with fail
      go_roundw
      case rel=>exact ⟨m+1,by omega,by go_num,HIN⟩
      case measure=>simp [intOf];omega
    ·have hme:m=ss.length:=by omega
     subst hme
     have c4:=HWS.out.c4
     have c5:=HWS.out.c5
     have hFr:=HWS.out.lt
     have HRT:=hidP (routes_of HWS.out.own HWS.out.keep)
     by_cases hl:(pr.map Prod.snd).length≤300∧t≤20000
     ·have HR0:Hid (pr.map Prod.snd=RS):=by
       unfold Hid
       rw [← HRS.out]
       exact found_all HSIG.out HOV.out.1 HOV.out.2 HWT.out hl
      rw [HR0.out] at HRT
      have hlen:Hid (pr.length=RS.length):=by unfold Hid;rw [← HR0.out,List.length_map]
      rw [List.length_map] at hl
      have h1:(pr.length:Int)≤300:=by omega
      have h2:(t:Int)≤20000:=by omega
      clear hl
      go_wp2_with fail
      go_ret
      rw [← hlen.out]
      exact ⟨xo,yo,rfl,HRT.out.1,HRT.out.2,HWS.out.base⟩
     ·have HR0:Hid (RS=[]):=by
       unfold Hid
       rw [← HRS.out]
       exact found_none HWT.out hl
      rw [List.length_map] at hl
      have hc:(300:Int)<(pr.length:Int)∨((pr.length:Int)≤300∧(20000:Int)<(t:Int)):=by omega
      clear hl
      rcases hc with hc | ⟨hc,hc2⟩
      all_goals
       go_wp2_with fail
       go_ret
       rw [HR0.out]
       exact ⟨none,0,rfl,⟨Nat.zero_le _,Or.inl rfl⟩,fun _=>rfl,HWS.out.base⟩
theorem walk_step (w0:World)(F:Nat)(pa ja sa:Option Addr)(pc jc sc:Nat)(ps:List MPiece)(js:List MJoint)(ss:List MPiece)(over:Int)(n:Nat)(R:Hid (Right ps js ss))(HP:Hid (PiecesAt w0 pa ps))(HJ:Hid (JointsAt w0 ja js))(HS:Hid (PiecesAt w0 sa ss))(ho0:0≤over)(ho1:over≤100000)
  (hfl:Hid (∀ (B Q:Nat) (la:Option Addr) (lc:Nat) (lies:List MLie) (pl:Int) (n:Nat),LB w0 B F Q pa ja sa la ps js ss lies→LookSpec w0 B F Q pa ja sa la pc jc sc lc ps js ss lies pl n))
  (ih:Hid (WalkSpec w0 F pa ja sa pc jc sc ps js ss over n))
  (a0:Option Addr) (k0:Nat) (a1:Option Addr) (k1:Nat) (a2:Option Addr) (k2:Nat) (a3:Option Addr) (k3:Nat) (i:Nat) (pre:List MStep) (p:Nat) (way:Int) (lies:List MLie) (crosses:List Int) (pos:Int) (xo:Option Addr) (yo t:Nat) (pr:List (RAddr × MRoute)) (w:World) (ok:Hid (WalkOk ps js ss i pre ⟨p,way⟩ lies crosses pos)) (hn:Hid (n+1+pre.length=2*ps.length+2))
  (hs:Hid (WS w0 w F pa ja sa pc jc sc ps.length js.length ss.length over xo yo t pr)) (hk:Hid (RKeep w F ⟨a0,k0,a1,k1,a2,k2,a3,k3,none,0,none,0⟩ (walkR ps ss i pre lies crosses))) (hnil:Hid (NilR ⟨a0,k0,a1,k1,a2,k2,a3,k3,none,0,none,0⟩ (walkR ps ss i pre lies crosses))) (ht:t≤100000) (hpr:pr.length≤301) :
  Calls Tryz.prog 35 #[.pointer (some ⟨F,0,none⟩),.agg #[.int .i64 i,.int .i64 0,.slice a0 pre.length k0,.slice a1 lies.length k1,.slice a2 crosses.length k2,.slice a3 pre.length k3,.slice none 0 0,.slice none 0 0],.int .i64 p,.int .i64 way,.int .i64 (farI ps p pos way)] w (WalkPost w0 w F pa ja sa pc jc sc ps js ss over (n+1) t (.slice xo pr.length yo) (pr.map Prod.snd) (evs ps js ss (n+1) (pathOf i (pre++[⟨p,way⟩]) lies crosses) pos)):=by
 by_cases hl:pr.length≤300∧t+1≤20000
 rotate_left
 ·exact walk_first w0 F pa ja sa pc jc sc ps js ss over n R HP HJ HS ho0 ho1 hfl ih a0 k0 a1 k1 a2 k2 a3 k3 i pre p way lies crosses pos xo yo t pr w ok hn hs hk hnil ht hpr (Or.inl hl)
 by_cases hnb:0≤nextB ss p way pos ss.length
 ·exact walk_first w0 F pa ja sa pc jc sc ps js ss over n R HP HJ HS ho0 ho1 hfl ih a0 k0 a1 k1 a2 k2 a3 k3 i pre p way lies crosses pos xo yo t pr w ok hn hs hk hnil ht hpr (Or.inr (Or.inl hnb))
 by_cases hin:(⟨(p:Int),way⟩:MStep) ∈ pre
 ·exact walk_first w0 F pa ja sa pc jc sc ps js ss over n R HP HJ HS ho0 ho1 hfl ih a0 k0 a1 k1 a2 k2 a3 k3 i pre p way lies crosses pos xo yo t pr w ok hn hs hk hnil ht hpr (Or.inr (Or.inr hin))
 have hnb':nextB ss p way pos ss.length<0:=by omega
 exact walk_on w0 F pa ja sa pc jc sc ps js ss over n R HP HJ HS ho0 ho1 hfl ih a0 k0 a1 k1 a2 k2 a3 k3 i pre p way lies crosses pos xo yo t pr w ok hn hs hk hnil ht hpr hl hnb' hin
theorem walkS_any (w0:World)(F:Nat)(pa ja sa:Option Addr)(pc jc sc:Nat)(ps:List MPiece)(js:List MJoint)(ss:List MPiece)(over:Int)(R:Hid (Right ps js ss))(HP:Hid (PiecesAt w0 pa ps))(HJ:Hid (JointsAt w0 ja js))(HS:Hid (PiecesAt w0 sa ss))(ho0:0≤over)(ho1:over≤100000):∀ n,WalkSpec w0 F pa ja sa pc jc sc ps js ss over n
 | 0=>fun a0 k0 a1 k1 a2 k2 a3 k3 i pre p way lies crosses pos xo yo t pr w ok hn _ _ _ _ _=>absurd hn (by have:=ok.few;omega)
 | n+1=>fun a0 k0 a1 k1 a2 k2 a3 k3 i pre p way lies crosses pos xo yo t pr w ok hn hs hk hnil ht hpr =>
  walk_step w0 F pa ja sa pc jc sc ps js ss over n R HP HJ HS ho0 ho1 (fun B Q la lc lies pl n hb=>flank_any w0 B F Q pa ja sa la pc jc sc lc ps js ss lies pl R hb n) (walkS_any w0 F pa ja sa pc jc sc ps js ss over R HP HJ HS ho0 ho1 n) a0 k0 a1 k1 a2 k2 a3 k3 i pre p way lies crosses pos xo yo t pr w ok hn hs hk hnil ht hpr
theorem specRoutes_any (pa ja sa:Option Addr)(pc jc sc:Nat)(ps:List MPiece)(js:List MJoint)(ss:List MPiece)(over:Int)(w:World)(hp:Hid (PiecesAt w pa ps))(hj:Hid (JointsAt w ja js))(hs:Hid (PiecesAt w sa ss)):
  Calls Tryz.prog 9 #[.agg #[.slice pa ps.length pc,.slice ja js.length jc],.slice sa ss.length sc,.int .i64 over] w fun e w' => ∃ a c,e = .returned (.slice a (routesF ps js ss over).length c)∧RoutesAt w' a (routesF ps js ss over)∧(a=none→c=0)∧Below w.heap.size w w':=
 specRoutes_of pa ja sa pc jc sc ps js ss over w hp hj hs (fun F _ R h0 h1 n=>walkS_any w F pa ja sa pc jc sc ps js ss over R hp hj hs h0 h1 n)
end Go.Proofs.YtmkdgnmmebldgaaGreatDoor
