import Derived.Test.YtmkdgnmmebldgaaGreatDoorPt50
import Derived.Test.YtmkdgnmmebldgaaGreatDoorPt41
import Derived.Test.YtmkdgnmmebldgaaGreatDoorPt52
import Derived.Test.YtmkdgnmmebldgaaGreatDoorPt34
set_option maxRecDepth 100000
set_option maxHeartbeats 8000000
namespace Go.Proofs.YtmkdgnmmebldgaaGreatDoor
open Go.RowKit Go.Deep
theorem nl_name {s:ByteArray}(h:nameB s=true):(10:UInt8) ∉ s.data.toList:=by
 unfold nameB nameTo at h
 rw [Bool.and_eq_true] at h
 have h2:=h.2
 rw [List.take_of_length_le (by simp),List.all_eq_true] at h2
 exact fun hm=>absurd (h2 10 hm) (by decide)
structure Names (ps:List MPiece)(js:List MJoint)(ss:List MPiece):Prop where
 p:∀ i (h:i<ps.length),(10:UInt8) ∉ ps[i].name.data.toList
 j:∀ i (h:i<js.length),(10:UInt8) ∉ js[i].name.data.toList
 s:∀ i (h:i<ss.length),(10:UInt8) ∉ ss[i].name.data.toList
theorem names_of {ps:List MPiece}{js:List MJoint}{ss:List MPiece}(h:sigF ps js ss=(0,0)):Names ps js ss:=by
 have hN:netF ps js=(0,0):=by
  by_cases e:netF ps js=(0,0)
  ·exact e
  ·rw [sigF_1 e] at h;simp at h
 unfold sigF at h
 rw [if_pos hN] at h
 by_cases h60:60<ss.length
 ·rw [if_pos h60] at h;simp at h
 rw [if_neg h60] at h
 by_cases h3:0≤firstBad (badS3 ps ss) ss.length
 ·rw [if_pos h3] at h;simp at h
 have hs3:=firstBad_negR h3
 clear h
 unfold netF at hN
 by_cases c1:sizeB ps.length js.length=false
 ·simp [c1] at hN
 have c1':sizeB ps.length js.length=true:=by simpa using c1
 by_cases c2:0≤firstBad (badPi ps) ps.length
 ·simp [c1',c2] at hN
 by_cases c3:0≤firstBad (bad3i ps.length js) js.length
 ·simp [c1',c2,c3] at hN
 by_cases c4:0≤firstBad (bad4i js) js.length
 ·simp [c1',c2,c3,c4] at hN
 refine ⟨fun i hi=>?_,fun i hi=>?_,fun i hi=>?_⟩
 ·have e:=firstBad_negR c2 i hi
  rw [badPi_at hi] at e
  have e2:okP ps i ps[i]=true:=by simpa using e
  unfold okP pieceB at e2
  simp only [Bool.and_eq_true] at e2
  exact nl_name e2.1.1.1.1
 ·have e:=firstBad_negR c4 i hi
  rw [bad4i_at hi] at e
  have e2:ok4 js i js[i]=true:=by simpa using e
  unfold ok4 at e2
  by_cases hk:js[i].kind<3
  ·rw [if_pos hk] at e2
   have e3:js[i].name=⟨#[]⟩:=by simpa using e2
   rw [e3]
   simp
  ·rw [if_neg hk] at e2
   simp only [Bool.and_eq_true] at e2
   exact nl_name e2.1
 ·have e:=hs3 i hi
  rw [badS3_at hi] at e
  have e2:okSig ps ss[i]=true:=by simpa using e
  unfold okSig okSigC at e2
  simp only [Bool.and_eq_true] at e2
  exact nl_name e2.1.1.1
theorem nl_dec (u:Nat):(10:UInt8) ∉ Lib.decDigits u:=by
 rw [Lib.decDigits_eq]
 intro h
 obtain ⟨t,_,ht⟩:=List.mem_map.1 h
 have h2:=congrArg UInt8.toNat ht
 unfold Lib.dg at h2
 simp at h2
 omega
theorem nl_itoa (i:Nat):(10:UInt8) ∉ Lib.itoa (i:Int):=by rw [Lib.itoa_nonneg];exact nl_dec i
theorem nl_P {xs:List MPiece}(N:∀ i (h:i<xs.length),(10:UInt8) ∉ xs[i].name.data.toList)(i:Int):(10:UInt8) ∉ nmP xs i:=by
 unfold nmP
 by_cases hi:i.toNat<xs.length
 ·rw [List.getElem?_eq_getElem hi]
  exact N _ hi
 ·rw [List.getElem?_eq_none (by omega)]
  simp
theorem nl_J {xs:List MJoint}(N:∀ i (h:i<xs.length),(10:UInt8) ∉ xs[i].name.data.toList)(i:Int):(10:UInt8) ∉ nmJ xs i:=by
 unfold nmJ
 by_cases hi:i.toNat<xs.length
 ·rw [List.getElem?_eq_getElem hi]
  exact N _ hi
 ·rw [List.getElem?_eq_none (by omega)]
  simp
theorem nl_flat {α:Type}{f:α→List UInt8}(h:∀ x,(10:UInt8) ∉ f x)(l:List α):(10:UInt8) ∉ l.flatMap fun x=>32::f x:=by
 intro hm
 obtain ⟨x,_,hx⟩:=List.mem_flatMap.1 hm
 rcases List.mem_cons.1 hx with e | e
 ·exact absurd e (by decide)
 ·exact h x e
section
variable {ps:List MPiece} {js:List MJoint} {ss:List MPiece}
theorem nl_step (N:Names ps js ss) (s:MStep):(10:UInt8) ∉ stepT ps s:=by
 unfold stepT
 rw [List.mem_append]
 rintro (h | h)
 ·exact nl_P N.p _ h
 ·split at h <;> simp at h
theorem nl_lie (N:Names ps js ss) (s:MLie):(10:UInt8) ∉ lieT js s:=by
 unfold lieT
 rw [List.mem_append]
 rintro (h | h)
 ·exact nl_J N.j _ h
 ·split at h <;> simp at h
theorem nl_goal (N:Names ps js ss) (g:Int):(10:UInt8) ∉ goalT ss g:=by
 unfold goalT
 split
 ·simp [bufT]
 ·exact nl_P N.s g
theorem nl_flank (N:Names ps js ss) (f:MFlank):(10:UInt8) ∉ flankT js ss f:=by
 unfold flankT
 split
 ·simp [bufT]
 ·split
  ·exact nl_P N.s _
  ·split
   ·exact nl_lie N _
   ·simp
theorem nl_line (N:Names ps js ss) (i:Nat)(r:MRoute):(lineT ps js ss (i:Int) r).count 10=1:=by
 have h1:=nl_itoa i
 have h2:=nl_P N.s r.start
 have h3:=nl_goal N r.stop
 have h4:=nl_flat (nl_step N) r.steps
 have h5:=nl_flat (nl_lie N) r.lies
 have h6:=nl_flat (nl_flank N) r.flanks
 have h7:(10:UInt8) ∉ wLies r.lies:=by unfold wLies;split <;> simp
 have h8:(10:UInt8) ∉ wFlanks r.flanks:=by unfold wFlanks;split <;> simp
 unfold lineT headT stepsT liesT flanksT
 simp only [List.count_append,List.count_eq_zero.2 h1,List.count_eq_zero.2 h2,List.count_eq_zero.2 h3,List.count_eq_zero.2 h4,List.count_eq_zero.2 h5,List.count_eq_zero.2 h6,List.count_eq_zero.2 h7,List.count_eq_zero.2 h8]
 rfl
theorem nl_lines (N:Names ps js ss) :∀ (xs:List MRoute)(i:Nat),(linesT ps js ss i xs).count 10=xs.length
 | [],_=>rfl
 | x::t,i=>by
  simp only [linesT]
  rw [List.count_append,nl_line N i x,nl_lines N t (i+1),List.length_cons]
  omega
end
theorem bare_route (ps:List MPiece)(js:List MJoint)(ss:List MPiece)(over:Int)(p:MPath):bare (routeF ps js ss over p)=routeF ps js ss 0 p:=by
 have h:overF ps js ss p.stop 0=[]:=by
  unfold overF
  split
  ·rfl
  ·split
   ·rfl
   ·simp [behindF]
 unfold bare routeF
 rw [h]
theorem why_routes (ps:List MPiece)(js:List MJoint)(ss:List MPiece)(over:Int)(h:sigF ps js ss=(0,0)):whyF ps js ss (routesF ps js ss over)=0:=by
 by_cases hc:sigF ps js ss=(0,0)∧0≤over∧over≤100000∧(allEvs ps js ss ss.length).length≤20000∧(endedL (allEvs ps js ss ss.length)).length≤300
 ·refine whyF_0 h ?_ ?_
  ·unfold routesF
   rw [if_pos hc,List.length_map]
   exact hc.2.2.2.2
  ·intro r hr
   unfold routesF at hr ⊢
   rw [if_pos hc] at hr
   rw [if_pos ⟨hc.1,by omega,by omega,hc.2.2.2⟩]
   obtain ⟨p,hp,rfl⟩:=List.mem_map.1 hr
   rw [bare_route]
   exact List.mem_map_of_mem hp
 ·have e:routesF ps js ss over=[]:=by unfold routesF;rw [if_neg hc]
  rw [e]
  exact whyF_0 h (Nat.zero_le _) (fun r hr=>by cases hr)
theorem text_count (ps:List MPiece)(js:List MJoint)(ss:List MPiece)(over:Int):(textF ps js ss (routesF ps js ss over)).count 10=(routesF ps js ss over).length:=by
 unfold textF
 by_cases h:sigF ps js ss=(0,0)
 ·rw [if_pos (why_routes ps js ss over h)]
  exact nl_lines (names_of h) _ _
 ·rw [whyF_1 h,if_neg (by decide)]
  have e:routesF ps js ss over=[]:=by unfold routesF;rw [if_neg (fun c=>h c.1)]
  rw [e]
  rfl
theorem text_le (ps:List MPiece)(js:List MJoint)(ss:List MPiece)(rs:List MRoute):(textF ps js ss rs).length≤300000000:=by
 unfold textF
 by_cases h:whyF ps js ss rs=0
 ·rw [if_pos h]
  have hs:sigF ps js ss=(0,0):=by
   by_cases e:sigF ps js ss=(0,0)
   ·exact e
   ·rw [whyF_1 e] at h;cases h
  have hn:rs.length≤300:=by
   by_cases e:300<rs.length
   ·rw [whyF_2 hs e] at h;cases h
   ·omega
  have:=linesT_le (short_of hs) rs 0 (all_line h) (by omega)
  omega
 ·rw [if_neg h]
  exact Nat.zero_le _
theorem count_on {l:List UInt8}{m:Nat}(h:m<l.length):(l.take (m+1)).count 10=(l.take m).count 10+(if l[m]=10 then 1 else 0):=by
 rw [List.take_succ_eq_append_getElem h,List.count_append]
 simp [List.count_singleton]
theorem count_all (l:List UInt8)(m:Nat)(h:l.length≤m):(l.take m).count 10=l.count 10:=by rw [List.take_of_length_le h]
theorem bytesEqT {a b:ByteArray}(h:a.data.toList=b.data.toList):a=b:=by
 cases a
 cases b
 congr
 exact Array.ext' h
theorem lawText_any (ca:Option Addr)(cc:Nat)(bs:List Int)(w:World)(hb:Hid (BytesAt w ca bs))(htb:Hid (TabU w)):
  Calls Tryz.prog 6 #[.slice ca bs.length cc] w fun e w'=>e = .returned (.bool true)∧Below w.heap.size w w':=by
 have hl1:=hb.out.len
 unfold maxLen at hl1
 go_enter Tryz.func6,Tryz.ntmps6
 by_cases h1:(1048576:Int)<bs.length
 ·go_wp2_with fail
  go_ret
  exact ⟨rfl,Below.refl _ _⟩
 go_wp2_with fail
 refine (Drawn_any ca cc bs w hb.out.lie hb.out.small (by omega)).mono ?_
 rintro e w1 ⟨pa,pc,ja,jc,sa,sc,ps,js,ss,over,rfl,hP,hJ,hS,ho0,ho1,hbd⟩
 have HP:=hidP hP
 have HJ:=hidP hJ
 have HS:=hidP hS
 have HB1:=hidP hbd
 clear hP hJ hS hbd hb
 go_upto_region 4 with fail
 generalize hW:World.alloc w1 _=W
 have e0:W.cell? ⟨w1.heap.size,0,none⟩=some (.slice pa ps.length pc):=by rw [← hW];simp [go_sem]
 have e1:W.cell? ⟨w1.heap.size,1,none⟩=some (.slice ja js.length jc):=by rw [← hW];simp [go_sem]
 have hbW:Below w1.heap.size w1 W:=by rw [← hW];exact blo
 have HPW:=hidP (HP.out.below hbW)
 have HJW:=hidP (HJ.out.below hbW)
 have HSW:=hidP (HS.out.below hbW)
 have HBW:Hid (Below w.heap.size w W):=HB1.out.trans (hbW.mono HB1.out.size)
 generalize w1.heap.size=X at e0 e1 ⊢
 clear hW hbW HP HJ HS HB1 ho0 ho1
 have HSR:=hidP (specRoutes_any pa ja sa pc jc sc ps js ss over W HPW HJW HSW)
 have HTC:=hidP (text_count ps js ss over)
 obtain ⟨RS,hRS⟩:∃ RS,routesF ps js ss over=RS:=⟨_,rfl⟩
 rw [hRS] at HSR HTC
 clear hRS
 go_wp2_with fail
 refine HSR.out.mono ?_
 rintro e w2 ⟨x,c,rfl,hR,_,hb2⟩
 have HR:=hidP hR
 have HP2:=hidP (HPW.out.below hb2)
 have HJ2:=hidP (HJW.out.below hb2)
 have HS2:=hidP (HSW.out.below hb2)
 have HB2:Hid (Below w.heap.size w w2):=HBW.out.trans (hb2.mono HBW.out.size)
 replace e0:=cell_later hb2 e0
 replace e1:=cell_later hb2 e1
 have HLI:=hidP (implListing_any pa ja sa x pc jc sc c ps js ss RS w2 HP2 HJ2 HS2 HR (htb.out.below HB2.out))
 clear hb2 hR HSR HPW HJW HSW HBW
 go_wp2_with fail
 refine HLI.out.mono ?_
 rintro e w3 ⟨t,rfl,ht,hb3⟩
 have HT:=hidP ht
 have hts:t.size≤300000000:=by
  have h:=text_le ps js ss RS
  rw [← ht] at h
  exact h
 have HP3:=hidP (HP2.out.below hb3)
 have HJ3:=hidP (HJ2.out.below hb3)
 have HS3:=hidP (HS2.out.below hb3)
 have HR3:=hidP (HR.out.below hb3)
 have HB3:Hid (Below w.heap.size w w3):=HB2.out.trans (hb3.mono HB2.out.size)
 replace e0:=cell_later hb3 e0
 replace e1:=cell_later hb3 e1
 clear hb3 ht HLI HP2 HJ2 HS2 HR HB2
 go_wp2_with fail
 go_loopw [8,9] (fun kv iv wr => ∃ m q:Nat,m≤t.size∧q≤m∧kv = .int .i64 q∧iv = .int .i64 m∧Hid (q=(t.data.toList.take m).count 10)∧w3=wr) (fun _ iv _=>t.size-(intOf iv).toNat)
 case atStart=>exact ⟨0,0,Nat.zero_le _,Nat.le_refl _,rfl,rfl,by simp [Hid],rfl⟩
 case round =>
  obtain ⟨m,q,hm,hq,rfl,rfl,HQ,rfl⟩:=hrel
  by_cases hm':m<t.size
  ·have hmi:(m:Int)<t.size:=by omega
   have HON:=hidP (count_on (l:=t.data.toList) (m:=m) (by simpa using hm'))
   have HEQ:Hid (t.data.toList[m]'(by simpa using hm')=t[m]):=by unfold Hid;rfl
   rw [HEQ.out] at HON
   by_cases h10:t[m]=10
   ·have f0:((t[m].toNat:Int)==10)=true:=by rw [h10];rfl
    have HQ2:Hid (q+1=(t.data.toList.take (m+1)).count 10):=by unfold Hid;rw [HON.out,if_pos h10,HQ.out]
    clear h10 HON HEQ HQ
    go_wp2_with fail
    go_roundw
    case rel=>exact ⟨m+1,q+1,by omega,by omega,by go_num,by go_num,HQ2,trivial⟩
    case measure=>simp [intOf];omega
   ·have f0:((t[m].toNat:Int)==10)=false:=by
     rw [beq_eq_false_iff_ne]
     intro e
     have h9:t[m].toNat=10:=by omega
     exact h10 (UInt8.toNat_inj.1 h9)
    have HQ2:Hid (q=(t.data.toList.take (m+1)).count 10):=by unfold Hid;rw [HON.out,if_neg h10,HQ.out];rfl
    clear h10 HON HEQ HQ
    go_wp2_with fail
    go_roundw
    case rel=>exact ⟨m+1,q,by omega,by omega,by go_num,by go_num,HQ2,trivial⟩
    case measure=>simp [intOf];omega
  ·have hmi:¬ (m:Int)<t.size:=by omega
   have hqn:q=RS.length:=by
    rw [HQ.out,count_all _ _ (by show t.size≤m;omega),HT.out]
    exact HTC.out
   subst hqn
   have HSL:=hidP (specListing_any pa ja sa x pc jc sc c ps js ss RS w3 HP3 HJ3 HS3 HR3)
   clear HQ
   go_wp2_with fail
   refine HSL.out.mono ?_
   rintro e w4 ⟨t2,rfl,ht2,hb4⟩
   have htt:t=t2:=bytesEqT (HT.out.trans ht2.symm)
   subst htt
   have HB4:Hid (Below w.heap.size w w4):=HB3.out.trans (hb4.mono HB3.out.size)
   clear ht2 hb4 HSL e0 e1
   go_wp2_with fail
   go_ret
   exact ⟨by simp,HB4.out⟩
end Go.Proofs.YtmkdgnmmebldgaaGreatDoor
