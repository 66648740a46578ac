import Derived.Test.YtmkdgnmmebldgaaGreatDoorPt21
import Derived.Test.YtmkdgnmmebldgaaGreatDoorPt20
import Derived.Test.YtmkdgnmmebldgaaGreatDoorPt16
import Derived.Test.YtmkdgnmmebldgaaGreatDoorPt11
import Derived.Test.YtmkdgnmmebldgaaGreatDoorPt6
import Derived.Test.YtmkdgnmmebldgaaGreatDoorPt13
set_option maxRecDepth 100000
set_option maxHeartbeats 8000000
namespace Go.Proofs.YtmkdgnmmebldgaaGreatDoor
open Go.RowKit Go.Deep Go.Maps
structure KC (w:World)(K M:Nat)(pa ja sa:Option Addr)(pc jc sc pl jl sl:Nat):Prop where
 c0:w.cell? ⟨K,0,none⟩=some (.slice pa pl pc)
 c1:w.cell? ⟨K,1,none⟩=some (.slice ja jl jc)
 c2:w.cell? ⟨K,2,none⟩=some (.slice sa sl sc)
 c3:w.cell? ⟨K,3,none⟩=some (.map (some M))
theorem KC.below {w w':World}{K M:Nat}{pa ja sa:Option Addr}{pc jc sc pl jl sl:Nat}(h:KC w K M pa ja sa pc jc sc pl jl sl)(hb:Below w.heap.size w w'):KC w' K M pa ja sa pc jc sc pl jl sl:=
 ⟨cell_later hb h.c0,cell_later hb h.c1,cell_later hb h.c2,cell_later hb h.c3⟩
theorem KC.grown {w w':World}{K M:Nat}{pa ja sa:Option Addr}{pc jc sc pl jl sl:Nat}(h:KC w K M pa ja sa pc jc sc pl jl sl)(hg:w.grownBy w' (some M))(hne:K≠M):KC w' K M pa ja sa pc jc sc pl jl sl:=
 ⟨hg.cell h.c0 (by simpa using hne),hg.cell h.c1 (by simpa using hne),hg.cell h.c2 (by simpa using hne),hg.cell h.c3 (by simpa using hne)⟩
def HasTrack (w:World)(K:Nat)(pa ja sa:Option Addr)(pc jc sc:Nat)(ps:List MPiece)(js:List MJoint)(ss:List MPiece):Prop := ∃ M,TTrack w K M pa ja sa pc jc sc ps js ss
theorem trackOf_any (pa ja sa:Option Addr)(pc jc sc:Nat)(ps:List MPiece)(js:List MJoint)(ss:List MPiece)(R:Hid (Right ps js ss))(w:World)(hp:Hid (PiecesAt w pa ps))(hj:Hid (JointsAt w ja js))(hs:Hid (PiecesAt w sa ss)):
  Calls Tryz.prog 38 #[.agg #[.slice pa ps.length pc,.slice ja js.length jc],.slice sa ss.length sc] w fun e w' => ∃ K,e = .returned (.pointer (some ⟨K,0,none⟩))∧w.heap.size≤K∧HasTrack w' K pa ja sa pc jc sc ps js ss∧Below w.heap.size w w':=by
 have hmm := @run_makeMap Tryz.prog
 have hjl:=R.out.nj
 go_enter Tryz.func38,Tryz.ntmps38
 go_upto_region 2 with fail
 generalize hW:w.alloc (Obj.cells #[Value.slice pa ps.length pc,Value.slice ja js.length jc] 26)=W
 have e1:W.cell? ⟨w.heap.size,1,none⟩=some (.slice ja js.length jc):=by rw [← hW];simp [go_sem]
 have hz:w.heap.size+1=W.heap.size:=by rw [← hW];simp
 have HBW:Hid (Below w.heap.size w W):=by rw [← hW];exact blo
 have HM0:Hid (SpotsTo (W.alloc (.map #[] 0)) (w.heap.size+1) js 0 0):=by
  refine ⟨fun _=>zspot,0,Nat.zero_le _,?_,fun i q hi hq h=>by omega⟩
  rw [hz]
  exact SMap.made W
 clear hW
 generalize hV:(W.alloc (Obj.map #[] 0)).alloc _=V
 have HMV:Hid (SpotsTo V (w.heap.size+1) js 0 0):=by rw [← hV];exact HM0.out.below blo
 have HKV:Hid (KC V (w.heap.size+1+1) (w.heap.size+1) pa ja sa pc jc sc ps.length js.length ss.length):=by
  unfold Hid
  rw [← hV,hz]
  constructor <;> simp [go_sem]
 have HBV:Hid (Below W.heap.size W V):=by rw [← hV];exact blo
 have e1V:=cell_later HBV.out e1
 have hzA:w.heap.size+1≤W.heap.size:=Nat.le_of_eq hz
 have hzB:W.heap.size≤w.heap.size+1:=Nat.le_of_eq hz.symm
 have hzV:w.heap.size+1+1<V.heap.size:=by
  rw [← hV]
  simp
  omega
 have hzV0:w.heap.size<V.heap.size:=by omega
 clear hV HM0 hz hmm
 go_wp2_with fail
 go_loopw [20] (fun c wr => ∃ (k:Nat),k≤js.length∧c = .int .i64 k∧Hid (SpotsTo wr (w.heap.size+1) js k 0)∧Hid (KC wr (w.heap.size+1+1) (w.heap.size+1) pa ja sa pc jc sc ps.length js.length ss.length)∧Below W.heap.size W wr) (fun c _=>js.length-(intOf c).toNat)
 case atStart=>exact ⟨0,Nat.zero_le _,rfl,HMV,HKV,HBV.out⟩
 case round =>
  clear HMV HKV HBV e1V hzV hzV0
  obtain ⟨k,hk,rfl,HM,HK,hb⟩:=hrel
  have hbs:=hb.size
  have hz2:w.heap.size<wr.heap.size:=by omega
  by_cases hk':k<js.length
  ·have hki:(k:Int)<js.length:=by omega
   obtain ⟨b1,off1,rfl,hpc⟩:=hj.out.2.2.resolve_left (nz hk')
   have hbF:=HBW.out.trans (hb.mono HBW.out.size)
   obtain ⟨c1,c2,ea,ec,c3,c4⟩:=hpc k hk'
   have C4:=hidP c4
   replace c1:=cell_later hbF c1
   replace c2:=cell_later hbF c2
   replace c3:=cell_later hbF c3
   have hkd:=R.out.kind k hk'
   have hkd1:=hkd.1
   have hkd4:=hkd.2.1
   have hel:js[k].ends.length≤4:=by omega
   have hzc:=cellLt c1
   dsimp only at hzc
   clear hpc c4 hbF hkd
   go_upto_region 5 with fail
   generalize hU:World.alloc wr _=U
   have hbU:Below wr.heap.size wr U:=by rw [← hU];exact (Below.refl _ _).alloc (Nat.le_refl _) _
   have u0:U.cell? ⟨wr.heap.size,0,none⟩=some (.int .i64 js[k].kind):=by rw [← hU];simp [go_sem]
   have u2:U.cell? ⟨wr.heap.size,2,none⟩=some (.slice ea js[k].ends.length ec):=by rw [← hU];simp [go_sem]
   have hzU:=cellLt u0
   dsimp only at hzU
   have HMU:=hidP (HM.out.below hbU)
   have HKU:=hidP (HK.out.below hbU)
   have HBU:=hidP (hb.trans (hbU.mono hbs))
   clear hU hbU c1 c2 c3 HM HK hb
   have HKO:Hid (∀ u:World,Calls Tryz.prog 81 #[.int .i64 js[k].kind] u fun e w'=>e = .returned (.tuple #[.iface (kindT js[k].kind) (.agg #[]),.bool true])∧w'=u):=fun u=>kindOf_any js[k].kind hkd1 hkd4 u
   go_wp2_with (go_at_call 81;refine (HKO.out _).mono ?_;rintro e w2 ⟨rfl,rfl⟩)
   go_loopw [35] (fun c wx => ∃ (m:Nat),m≤js[k].ends.length∧c = .int .i64 m∧Hid (SpotsTo wx (w.heap.size+1) js k m)∧Hid (KC wx (w.heap.size+1+1) (w.heap.size+1) pa (some ⟨b1,off1,none⟩) sa pc jc sc ps.length js.length ss.length)∧Below W.heap.size W wx) (fun c _=>js[k].ends.length-(intOf c).toNat)
   case atStart=>exact ⟨0,Nat.zero_le _,rfl,HMU,HKU,HBU.out⟩
   case round =>
    clear HMU HKU HBU u0 u2 hzU hbs hz2 hzc HKO
    obtain ⟨m,hm,rfl,HM,HK,hb⟩:=hrel
    have hbs:=hb.size
    by_cases hm':m<js[k].ends.length
    ·have hmi:(m:Int)<js[k].ends.length:=by omega
     obtain ⟨b2,off2,rfl,hpc2⟩:=(C4.out.below (HBW.out.trans (hb.mono HBW.out.size))).2.resolve_left (nz hm')
     obtain ⟨d1,d2⟩:=hpc2 m hm'
     have hzd:=cellLt d1
     dsimp only at hzd
     clear hpc2
     have hbD:Below wr.heap.size wr (wr.alloc (Obj.cells #[Value.int IntKind.i64 js[k].ends[m].piece,Value.int IntKind.i64 js[k].ends[m].side] 114)).drew:=blo
     obtain ⟨w2,hme,hM3,hg⟩:=(HM.out.below hbD).put R.out hk' hm'
     have HM3:=hidP hM3
     have HK3:=hidP ((HK.out.below hbD).grown hg (by omega))
     have hb3:Below W.heap.size W w2:=Below.grown (hb.trans (hbD.mono hbs)) hg (by simp;omega) (fun j hj=>by cases hj;omega)
     have k3:=(HK.out.below hbD).c3
     have hk3:=HK.out.c3
     have hzk:=cellLt hk3
     dsimp only at hzk
     unfold endV spotV at hme
     clear hM3 hg HM HK hbD
     go_upto_region 10 with fail
     go_region
     all_goals
      go_wp2_with fail
      go_roundw
      case rel=>exact ⟨m+1,by omega,by go_num,HM3,HK3,hb3⟩
      case measure=>simp [intOf];omega
    ·have HM4:Hid (SpotsTo wr (w.heap.size+1) js (k+1) 0):=HM.out.next hk' (by omega) (by omega)
     have hmi:¬ (m:Int)<js[k].ends.length:=by omega
     clear HM
     go_wp2_with fail
     go_roundw
     case rel=>exact ⟨k+1,by omega,by go_num,HM4,HK,hb⟩
     case measure=>simp [intOf];omega
  ·obtain rfl:k=js.length:=by omega
   have hki:¬ (js.length:Int)<js.length:=by omega
   have HBF:=hidP (HBW.out.trans (hb.mono HBW.out.size))
   have HTT:Hid (TTrack wr (w.heap.size+1+1) (w.heap.size+1) pa ja sa pc jc sc ps js ss):=
    ⟨⟨HK.out.c0,HK.out.c1,HK.out.c2,hp.out.below HBF.out,hj.out.below HBF.out,hs.out.below HBF.out⟩,HK.out.c3,HM.out⟩
   clear HM HK hb
   go_wp2_with fail
   exact bodyPost_ret (v:=.pointer (some ⟨w.heap.size+1+1,0,none⟩)) (by simp [results,Tryz.results38,go_sem]) rfl ⟨_,rfl,by omega,⟨_,HTT.out⟩,HBF.out⟩
theorem Tryz.zeroP:(Tryz.prog.info? 206).map (·.zero)=some (some (.agg #[])):=by kernel_rfl
theorem Tryz.zeroB:(Tryz.prog.info? 205).map (·.zero)=some (some (.agg #[])):=by kernel_rfl
theorem missP (w:World)(xt t':TypeId)(hne:t'≠206):(Instr.typeAssert (.iface t' (.agg #[])) xt 206 true).run Tryz.prog w = .ok (.tuple #[.agg #[],.bool false]) w:=by
 obtain ⟨i,hi,hz⟩:=Option.map_eq_some_iff.1 Tryz.zeroP
 exact run_typeAssert_miss w xt _ t' _ _ i _ Tryz.underlying206 hne hi hz
theorem missB (w:World)(xt t':TypeId)(hne:t'≠205):(Instr.typeAssert (.iface t' (.agg #[])) xt 205 true).run Tryz.prog w = .ok (.tuple #[.agg #[],.bool false]) w:=by
 obtain ⟨i,hi,hz⟩:=Option.map_eq_some_iff.1 Tryz.zeroB
 exact run_typeAssert_miss w xt _ t' _ _ i _ Tryz.underlying205 hne hi hz
theorem isP (w:World)(xt:TypeId)(k:Int):(Instr.typeAssert (.iface (kindT k) (.agg #[])) xt 206 true).run Tryz.prog w = .ok (.tuple #[.agg #[],.bool (decide (k=2))]) w:=by
 unfold kindT
 by_cases h1:k=1
 ·subst h1
  rw [if_pos rfl]
  exact missP w xt _ (by decide)
 ·rw [if_neg h1]
  by_cases h2:k=2
  ·subst h2
   rw [if_pos rfl]
   exact run_typeAssert_hit (P:=Tryz.prog) w xt 206 (.agg #[]) _ Tryz.underlying206
  ·rw [if_neg h2,decide_eq_false h2]
   split
   ·exact missP w xt _ (by decide)
   ·exact missP w xt _ (by decide)
theorem isB (w:World)(xt:TypeId)(k:Int):(Instr.typeAssert (.iface (kindT k) (.agg #[])) xt 205 true).run Tryz.prog w = .ok (.tuple #[.agg #[],.bool (decide (k=1))]) w:=by
 unfold kindT
 by_cases h1:k=1
 ·subst h1
  rw [if_pos rfl]
  exact run_typeAssert_hit (P:=Tryz.prog) w xt 205 (.agg #[]) _ Tryz.underlying205
 ·rw [if_neg h1,decide_eq_false h1]
  split
  ·exact missB w xt _ (by decide)
  ·split
   ·exact missB w xt _ (by decide)
   ·exact missB w xt _ (by decide)
def overPlainF (js:List MJoint)(s:MStep):MStep × Bool:=
 if kindE js (spotE js (aheadE s)).1=2 then (stepFromE (endE js (spotE js (aheadE s)).1 (1-(spotE js (aheadE s)).2)),true) else (⟨0,0⟩,false)
theorem overPlain_any (K M:Nat)(pa ja sa:Option Addr)(pc jc sc:Nat)(ps:List MPiece)(js:List MJoint)(ss:List MPiece)(R:Hid (Right ps js ss))(s:MStep)(w:World)(hT:Hid (TTrack w K M pa ja sa pc jc sc ps js ss))(hv:Hid (ValidS ps s)):
  Calls Tryz.prog 137 #[.pointer (some ⟨K,0,none⟩),endV s] w fun e w'=>e = .returned (.tuple #[endV (overPlainF js s).1,.bool (overPlainF js s).2])∧Below w.heap.size w w':=by
 obtain ⟨sp,sw⟩:=s
 obtain ⟨es,hes⟩:∃ es,aheadE ⟨sp,sw⟩=es:=⟨_,rfl⟩
 have HVE:Hid (ValidE ps es):=by unfold Hid;rw [← hes];exact aheadE_valid hv.out
 have HAH:Hid (∀ u:World,Calls Tryz.prog 114 #[.agg #[.int .i64 sp,.int .i64 sw]] u fun e w'=>e = .returned (endV es)∧Below u.heap.size u w'):=fun u=>by
  have hh:=ahead_any sp sw u
  rw [hes] at hh
  exact hh
 have c3:=hT.out.c3
 have c1:=hT.out.net.c1
 have hK:=cellLt c3
 dsimp only at hK
 have HLK:Hid (∀ u:World,Below w.heap.size w u→(Instr.lookup 145 (.map (some M)) (endV es) false).run Tryz.prog u = .ok (spotV (spotE js es).1 (spotE js es).2 (kindE js (spotE js es).1)) u):=fun u hu=>(hT.out.below hu).lookup R.out HVE.out
 have HF:Hid (overPlainF js ⟨sp,sw⟩=if kindE js (spotE js es).1=2 then (stepFromE (endE js (spotE js es).1 (1-(spotE js es).2)),true) else (⟨0,0⟩,false)):=by
  unfold Hid overPlainF
  rw [hes]
 obtain ⟨j,k,g1,g2⟩:=R.out.spot HVE.out
 rw [g2] at HLK HF
 dsimp only at HLK HF
 clear hes
 unfold endV
 go_enter Tryz.func137,Tryz.ntmps137
 go_upto_region 1 with fail
 generalize hW:World.alloc (World.alloc w _) _=W
 have hbW:Below w.heap.size w W:=by rw [← hW];exact blo
 have x0:W.cell? ⟨w.heap.size,0,none⟩=some (.int .i64 sp):=by rw [← hW];simp [go_sem]
 have x1:W.cell? ⟨w.heap.size,1,none⟩=some (.int .i64 sw):=by rw [← hW];simp [go_sem]
 have y3:=cell_later hbW c3
 have y1:=cell_later hbW c1
 have HBW:=hidP hbW
 have hzW:w.heap.size+1<W.heap.size:=by rw [← hW];simp
 obtain ⟨S,hS⟩:∃ S:World→Prop,∀ u,S u↔Below W.heap.size W u:=⟨_,fun _=>Iff.rfl⟩
 have HS0:=hidP hS
 have r0:∀ u:Held S,World.cell? u.val ⟨w.heap.size,0,none⟩=some (.int .i64 sp):=fun u=>cell_later ((hS u.val).1 u.2) x0
 have r1:∀ u:Held S,World.cell? u.val ⟨w.heap.size,1,none⟩=some (.int .i64 sw):=fun u=>cell_later ((hS u.val).1 u.2) x1
 have r3:∀ u:Held S,World.cell? u.val ⟨K,3,none⟩=some (.map (some M)):=fun u=>cell_later ((hS u.val).1 u.2) y3
 have r4:∀ u:Held S,(Instr.lookup 145 (.map (some M)) (endV es) false).run Tryz.prog u.val = .ok (spotV j k (kindE js j)) u.val:=fun u=>HLK.out u.val (HBW.out.trans (((hS u.val).1 u.2).mono HBW.out.size))
 have hS1:S W.drew:=(hS _).2 ((Below.refl _ _).drew)
 have hne:=held_ne hS1
 have HQW:Hid (W.rowIs (w.heap.size+1) 46 2 (fun _=>.int .i64 0)):=by
  unfold Hid
  rw [← hW]
  have:=World.rowIs_alloc (w.alloc (Obj.cells #[Value.int IntKind.i64 sp,Value.int IntKind.i64 sw] 46)) #[.int .i64 0,.int .i64 0] 46 (fun _=>.int .i64 0) (by intro i hi;have hi':i<2:=hi;match i,hi' with | 0,_=>rfl | 1,_=>rfl)
  simpa using this
 clear hS hW hbW
 go_cut [6] (fun v wx => ∃ b,v = .pointer (some ⟨b,0,none⟩)∧W.heap.size≤b∧wx.cell? ⟨b,0,none⟩=some (.int .i64 (j:Int))∧wx.cell? ⟨b,1,none⟩=some (.int .i64 (k:Int))∧wx.cell? ⟨b,2,none⟩=some (.iface (kindT (kindE js j)) (.agg #[]))∧Below W.heap.size W wx)
 case first =>
  refine wp_region_tree (fun w' => ∃ u:Held S,w'=u.val) 8 (by kernel_rfl) (by kernel_rfl) (held_some hS1) ?_
  (refine wpT_sea 0 ?_;intro K hK;go_big_quiet_op;go_big_quiet_on);(refine wpT_sea 1 ?_;intro K hK;go_big_quiet_op;go_big_quiet_on);(refine wpT_sea 2 ?_;intro K hK;go_big_quiet_op;go_big_quiet_on);(refine wpT_sea 3 ?_;intro K hK;go_big_quiet_op;go_big_quiet_on);(refine wpT_sea 4 ?_;intro K hK;go_big_quiet_op;go_big_quiet_on)
  refine wpT_loud2 5 7 (by rfl) (by rfl) (by kernel_rfl) (by kernel_rfl) (by kernel_rfl) ?_ ?_
  ·intro K hK
   go_wp2_with (go_at_call 114;refine (HAH.out _).mono ?_;rintro e w2 ⟨rfl,hb2'⟩)
   have hb2:Below W.heap.size W w2:=(Below.refl _ _).drew.trans hb2'
   have hS2:S w2:=(HS0.out _).2 hb2
   clear hb2'
   refine hK _ _ (held_some hS2) ?_
   clear hK K
   (refine wpT_sea 6 ?_;intro K hK;go_big_quiet_op;go_big_quiet_on)
   refine wpT_loud 7 (by rfl) (by kernel_rfl) (by kernel_rfl) ?_
   intro K hK
   go_wp2_with fail
   have hb3:Below W.heap.size W (w2.alloc (Obj.cells #[Value.int IntKind.i64 0,Value.int IntKind.i64 0,Value.nilIface] 153)):=hb2.trans (((Below.refl _ _).alloc (Nat.le_refl _) _).mono hb2.size)
   refine hK _ _ (held_some ((HS0.out _).2 hb3)) ?_
   clear hK K
   refine wpT_done (by kernel_rfl) ?_
   have hz2:=hb2.size
   unfold spotV
   clear r0 r1 r3 r4 hS1 hne hS2 hb3
   go_wp2_with fail
   go_meet
   exact ⟨_,rfl,hz2,by simp [go_sem],by simp [go_sem],by simp [go_sem],hb2.trans (((Below.refl _ _).alloc (Nat.le_refl _) _).mono hb2.size)⟩
  ·intro K hK
   go_wp2_with fail
   have hb3:Below W.heap.size W (W.alloc (Obj.cells #[Value.int IntKind.i64 0,Value.int IntKind.i64 0,Value.nilIface] 153)).drew:=((Below.refl _ _).alloc (Nat.le_refl _) _).drew
   refine hK _ _ (held_some ((HS0.out _).2 hb3)) ?_
   clear hK K
   generalize hV:(W.alloc (Obj.cells #[Value.int IntKind.i64 0,Value.int IntKind.i64 0,Value.nilIface] 153)).drew=V at hb3 ⊢
   have v0:V.rowIs W.heap.size 153 3 (fun i=>if i=2 then .nilIface else .int .i64 0):=by
    rw [← hV]
    exact World.rowIs_alloc W _ _ _ (by intro i hi;have hi':i<3:=hi;match i,hi' with | 0,_=>rfl | 1,_=>rfl | 2,_=>rfl)
   clear hV
   refine wpT_loud 5 (by rfl) (by kernel_rfl) (by kernel_rfl) ?_
   intro K hK
   go_wp2_with (go_at_call 114;refine (HAH.out _).mono ?_;rintro e w2 ⟨rfl,hb2'⟩)
   have hb2:Below W.heap.size W w2:=hb3.trans (hb2'.mono hb3.size)
   have hS2:S w2:=(HS0.out _).2 hb2
   have hr2:=v0.of_block (hb2'.block _ v0.lt)
   refine hK _ _ (held_some hS2) ?_
   clear hK K v0 hb2' hb3
   (refine wpT_sea 6 ?_;intro K hK;go_big_quiet_op;go_big_quiet_on)
   refine wpT_done (by kernel_rfl) ?_
   have hz2:=hb2.size
   have hz3:=hr2.lt
   have s0:=hr2.cell (i:=0) (by omega)
   have s1:=hr2.cell (i:=1) (by omega)
   have s2:=hr2.cell (i:=2) (by omega)
   have f0:=hr2.frozen 0
   have f1:=hr2.frozen 1
   have f2:=hr2.frozen 2
   unfold spotV
   have HR3:=hidP (((hr2.set 0 (.int .i64 (j:Int))).set 1 (.int .i64 (k:Int))).set 2 (.iface (kindT (kindE js j)) (.agg #[])))
   clear r0 r1 r3 r4 hS1 hne hS2 hr2
   go_wp2_with fail
   go_meet
   exact ⟨_,rfl,Nat.le_refl _,(HR3.out.cell (i:=0) (by omega)).trans (by simp),(HR3.out.cell (i:=1) (by omega)).trans (by simp),(HR3.out.cell (i:=2) (by omega)).trans (by simp),((hb2.setCell (Nat.le_refl _) _).setCell (Nat.le_refl _) _).setCell (Nat.le_refl _) _⟩
 case rest =>
  obtain ⟨b,rfl,hbb,d0,d1,d2,hbc⟩:=hcut
  have HBC:=hidP (HBW.out.trans (hbc.mono HBW.out.size))
  have hzb:=cellLt d0
  dsimp only at hzb
  replace y1:=cell_later hbc y1
  have hzc:=hbc.size
  have q4:=HQW.out.of_block (hbc.block _ HQW.out.lt)
  have s0:=q4.cell (i:=0) (by omega)
  have s1:=q4.cell (i:=1) (by omega)
  have f0:=q4.frozen 0
  have f1:=q4.frozen 1
  have hz4:=q4.lt
  have Q4:=hidP q4
  clear r0 r1 r3 r4 hS1 hne x0 x1 y3 HLK HAH HS0 hbc q4 HQW
  by_cases hkd:kindE js j=2
  ·have hta:∀ u:World,(Instr.typeAssert (.iface (kindT (kindE js j)) (.agg #[])) 149 206 true).run Tryz.prog u = .ok (.tuple #[.agg #[],.bool true]) u:=fun u=>by rw [isP u,decide_eq_true hkd]
   generalize kindT (kindE js j)=kt at hta d2
   obtain ⟨_,hj,hkk,g3,_⟩:=spotF_some g1
   simp only [Nat.sub_zero] at hj hkk g3
   have hkn:=(R.out.kind j hj).2.2
   rw [kindE_at hj] at hkd
   have hl2:js[j].ends.length=2:=by omega
   obtain ⟨k',hk'⟩:∃ k',k'=1-k:=⟨_,rfl⟩
   have hk1:(1:Int)-(k:Int)=(k':Int):=by omega
   have hk2:k'<js[j].ends.length:=by omega
   have HE:Hid (overPlainF js ⟨sp,sw⟩=(stepFromE js[j].ends[k'],true)):=by
    unfold Hid
    rw [HF.out,if_pos (by rw [kindE_at hj];exact hkd),← hk',endE_at hj hk2]
   clear hk'
   go_upto_region 5 with fail
   generalize hU:World.alloc wc _=U
   have hbU:Below wc.heap.size wc U:=by rw [← hU];exact blo
   have HBU:=hidP (HBC.out.trans (hbU.mono HBC.out.size))
   obtain ⟨b1,off1,hja,hpc⟩:=(hT.out.net.J.below HBU.out).2.2.resolve_left (nz hj)
   obtain ⟨_,_,ea,ec,m3,m4⟩:=hpc j hj
   obtain ⟨b2,off2,rfl,hpc2⟩:=m4.2.resolve_left (fun h=>by rw [h] at hl2;simp at hl2)
   obtain ⟨m5,m6⟩:=hpc2 k' hk2
   subst hja
   have HSF:Hid (∀ u:World,Calls Tryz.prog 169 #[.agg #[.int .i64 js[j].ends[k'].piece,.int .i64 js[j].ends[k'].side]] u fun e w'=>e = .returned (endV (stepFromE js[j].ends[k']))∧Below u.heap.size u w'):=fun u=>stepFrom_any _ _ u
   have hji:(j:Int)<js.length:=by omega
   have hki:(k':Int)<js[j].ends.length:=by omega
   generalize js[j].ends[k']=en at m5 m6 HSF HE
   obtain ⟨e1,e2⟩:=en
   generalize js[j].ends.length=nl at m3 hki
   dsimp only at m5 m6 HSF
   replace d0:=cell_later hbU d0
   replace d1:=cell_later hbU d1
   replace y1:=cell_later hbU y1
   have Q5:=hidP (Q4.out.of_block (hbU.block _ Q4.out.lt))
   have hzm:=cellLt m3
   have hzm2:=cellLt m5
   have hzd:=cellLt d0
   have hzy:=cellLt y1
   dsimp only at hzm hzm2 hzd hzy
   clear hpc hpc2 m4 hU hbU d2 s0 s1 f0 f1 hz4 Q4 hzb hK
   obtain ⟨S5,hS5⟩:∃ S:World→Prop,∀ u,S u↔Below U.heap.size U u:=⟨_,fun _=>Iff.rfl⟩
   have r0:∀ u:Held S5,World.cell? u.val ⟨b,0,none⟩=some (.int .i64 (j:Int)):=fun u=>cell_later ((hS5 u.val).1 u.2) d0
   have r1:∀ u:Held S5,World.cell? u.val ⟨b,1,none⟩=some (.int .i64 (k:Int)):=fun u=>cell_later ((hS5 u.val).1 u.2) d1
   have r2:∀ u:Held S5,World.cell? u.val ⟨K,1,none⟩=some (.slice (some ⟨b1,off1,none⟩) js.length jc):=fun u=>cell_later ((hS5 u.val).1 u.2) y1
   have r3:∀ u:Held S5,World.cell? u.val ⟨b1,off1+j*3+2,none⟩=some (.slice (some ⟨b2,off2,none⟩) nl ec):=fun u=>cell_later ((hS5 u.val).1 u.2) m3
   have r4:∀ u:Held S5,World.cell? u.val ⟨b2,off2+k'*2,none⟩=some (.int .i64 e1):=fun u=>cell_later ((hS5 u.val).1 u.2) m5
   have r5:∀ u:Held S5,World.cell? u.val ⟨b2,off2+k'*2+1,none⟩=some (.int .i64 e2):=fun u=>cell_later ((hS5 u.val).1 u.2) m6
   have hS1:S5 U.drew:=(hS5 _).2 ((Below.refl _ _).drew)
   have hne:=held_ne hS1
   clear hS5
   refine wp_region_tree (fun w' => ∃ u:Held S5,w'=u.val) 15 (by kernel_rfl) (by kernel_rfl) (held_some hS1) ?_
   (refine wpT_sea 0 ?_;intro K hK;go_big_quiet_op;go_big_quiet_on);(refine wpT_sea 1 ?_;intro K hK;go_big_quiet_op;go_big_quiet_on);(refine wpT_sea 2 ?_;intro K hK;go_big_quiet_op;go_big_quiet_on);(refine wpT_sea 3 ?_;intro K hK;go_big_quiet_op;go_big_quiet_on);(refine wpT_sea 4 ?_;intro K hK;go_big_quiet_op;go_big_quiet_on);(refine wpT_sea 5 ?_;intro K hK;go_big_quiet_op;go_big_quiet_on);(refine wpT_sea 6 ?_;intro K hK;go_big_quiet_op;go_big_quiet_on);(refine wpT_sea 7 ?_;intro K hK;go_big_quiet_op;go_big_quiet_on);(refine wpT_sea 8 ?_;intro K hK;go_big_quiet_op;go_big_quiet_on);(refine wpT_sea 9 ?_;intro K hK;go_big_quiet_op;go_big_quiet_on);(refine wpT_sea 10 ?_;intro K hK;go_big_quiet_op;go_big_quiet_on);(refine wpT_sea 11 ?_;intro K hK;go_big_quiet_op;go_big_quiet_on);(refine wpT_sea 12 ?_;intro K hK;go_big_quiet_op;go_big_quiet_on);(refine wpT_sea 13 ?_;intro K hK;go_big_quiet_op;go_big_quiet_on);(refine wpT_sea 14 ?_;intro K hK;go_big_quiet_op;go_big_quiet_on)
   refine wpT_done (by kernel_rfl) ?_
   clear r0 r1 r2 r3 r4 r5 hne hS1
   obtain ⟨en',hen⟩:∃ en',stepFromE ⟨e1,e2⟩=en':=⟨_,rfl⟩
   rw [hen] at HSF HE
   unfold endV at HSF
   go_wp2_with (go_at_call 169;refine (HSF.out _).mono ?_;rintro e w6 ⟨rfl,hb6'⟩;have hb6:Below U.heap.size U w6:=(Below.refl _ _).drew.trans hb6';have Q6:=hidP (Q5.out.of_block (hb6.block _ Q5.out.lt));have HB6:=hidP (HBU.out.trans (hb6.mono HBU.out.size));have s0:=Q6.out.cell (i:=0) (by omega);have s1:=Q6.out.cell (i:=1) (by omega);have f0:=Q6.out.frozen 0;have f1:=Q6.out.frozen 1;have hz4:=Q6.out.lt;clear hb6' hb6)
   have HR:=hidP ((Q6.out.set 0 (.int .i64 en'.piece)).set 1 (.int .i64 en'.side))
   have t0:=HR.out.cell (i:=0) (by omega)
   have t1:=HR.out.cell (i:=1) (by omega)
   simp only [] at t0 t1
   exact bodyPost_ret (v:=.tuple #[.agg #[.int .i64 en'.piece,.int .i64 en'.side],.bool true]) (by simp [results,Tryz.results137,go_sem,t0,t1]) rfl ⟨by rw [HE.out],blo⟩
  ·have hta:∀ u:World,(Instr.typeAssert (.iface (kindT (kindE js j)) (.agg #[])) 149 206 true).run Tryz.prog u = .ok (.tuple #[.agg #[],.bool false]) u:=fun u=>by rw [isP u,decide_eq_false hkd]
   have HE:Hid (overPlainF js ⟨sp,sw⟩=(⟨0,0⟩,false)):=by unfold Hid;rw [HF.out,if_neg hkd]
   generalize kindT (kindE js j)=kt at hta d2
   clear HF
   go_wp2_with fail
   have HR:=hidP (((Q4.out.set 0 (.int .i64 0)).set 1 (.int .i64 0)).alloc (Obj.cells #[] 206))
   have t0:=HR.out.cell (i:=0) (by omega)
   have t1:=HR.out.cell (i:=1) (by omega)
   simp only [] at t0 t1
   have hb7:=HBC.out
   exact bodyPost_ret (v:=.tuple #[.agg #[.int .i64 0,.int .i64 0],.bool false]) (by simp [results,Tryz.results137,go_sem,t0,t1]) rfl ⟨by rw [HE.out],blo⟩
theorem Right.speeds {ps:List MPiece}{js:List MJoint}{ss:List MPiece}(R:Right ps js ss):∀ k (hk:k<ss.length),0≤ss[k].speed∧ss[k].speed≤10000000:=by
 intro k hk
 obtain ⟨p,hp,_,_,h3,h4⟩:=R.sig k hk
 have:=(R.plen p hp).2
 omega
theorem field_spot2 (a b:Int)(n:Nat)(w:World):(Instr.field 153 (.agg #[.int .i64 a,.int .i64 b,.iface n (.agg #[])]) 2).run Tryz.prog w = .ok (.iface n (.agg #[])) w:=by kernel_rfl
theorem endOf_any (K M:Nat)(pa ja sa:Option Addr)(pc jc sc:Nat)(ps:List MPiece)(js:List MJoint)(ss:List MPiece)(R:Hid (Right ps js ss))(d:PAddr)(p:MPath)(pos:Int)(w:World)(hT:Hid (TTrack w K M pa ja sa pc jc sc ps js ss))(h:Hid (PListsAt w d p))(h0:0<p.steps.length)(hv:Hid (ValidS ps (lastS p)))(hp0:0≤pos)(hp1:pos≤10000000):
  Calls Tryz.prog 131 #[.pointer (some ⟨K,0,none⟩),pathV d p,.int .i64 pos] w fun e w'=>e = .returned (.tuple #[.int .i64 (stopP js ss p pos).stop,.bool (stopP js ss p pos).ended])∧Below w.heap.size w w':=by
 obtain ⟨ls,hls⟩:∃ ls,lastS p=ls:=⟨_,rfl⟩
 rw [hls] at hv
 have HLA:Hid (∀ u:World,Below w.heap.size w u→Calls Tryz.prog 134 #[pathV d p] u fun e w'=>e = .returned (endV ls)∧Below u.heap.size u w'):=fun u hu=>by
  rw [← hls]
  exact last_any d p u (h.out.below hu) h0
 have HRD:Hid (∀ u:World,Below w.heap.size w u→Calls Tryz.prog 132 #[pathV d p] u fun e w'=>e = .returned (.bool (roundB p))∧Below u.heap.size u w'):=fun u hu=>isRound_any d p u (h.out.below hu) h0
 obtain ⟨nx,hnx⟩:∃ nx,nextB ss ls.piece ls.side pos ss.length=nx:=⟨_,rfl⟩
 have HNS:Hid (∀ u:World,Below w.heap.size w u→Calls Tryz.prog 166 #[.pointer (some ⟨K,0,none⟩),endV ls,.int .i64 pos] u fun e w'=>e = .returned (.int .i64 nx)∧Below u.heap.size u w'):=fun u hu=>by
  obtain ⟨q,hq,h1,h2⟩:=hv.out
  rw [← hnx]
  exact nextSignal_any K pa ja sa pc jc sc ps js ss ls.piece ls.side pos u (hT.out.net.below hu) h2 R.out.speeds hp0 hp1
 obtain ⟨es,hes⟩:∃ es,aheadE ls=es:=⟨_,rfl⟩
 have HVE:Hid (ValidE ps es):=by unfold Hid;rw [← hes];exact aheadE_valid hv.out
 obtain ⟨kd,hkd⟩:∃ kd,kindE js (spotE js es).1=kd:=⟨_,rfl⟩
 have HX:Hid (stopP js ss p pos=if 0≤nx then { p with stop:=nx,ended:=true } else if kd=1∧roundB p=false then { p with stop := -1,ended:=true } else { p with stop:=0,ended:=false }):=by
  unfold Hid stopP
  rw [hls,hnx,hes,hkd]
 have c3:=hT.out.c3
 have hK:=cellLt c3
 dsimp only at hK
 have HLK:Hid (∀ u:World,Below w.heap.size w u→(Instr.lookup 145 (.map (some M)) (endV es) false).run Tryz.prog u = .ok (spotV (spotE js es).1 (spotE js es).2 kd) u):=fun u hu=>by
  rw [← hkd]
  exact (hT.out.below hu).lookup R.out HVE.out
 generalize (spotE js es).1=j at HLK
 generalize (spotE js es).2=k at HLK
 obtain ⟨sp,sw⟩:=ls
 have HAH:Hid (∀ u:World,Calls Tryz.prog 114 #[.agg #[.int .i64 sp,.int .i64 sw]] u fun e w'=>e = .returned (endV es)∧Below u.heap.size u w'):=fun u=>by
  have hh:=ahead_any sp sw u
  rw [hes] at hh
  exact hh
 generalize hRB:roundB p=rb at HRD HX
 unfold endV at HLA HNS
 dsimp only at HLA HNS
 clear hls hnx hes hkd hRB HVE hv h
 unfold pathV at HLA HRD ⊢
 go_enter Tryz.func131,Tryz.ntmps131
 go_upto_region 1 with fail
 generalize hW:World.alloc w _=W
 have hbW:Below w.heap.size w W:=by rw [← hW];exact blo
 have x0:W.cell? ⟨w.heap.size,0,none⟩=some (.int .i64 p.start):=by rw [← hW];simp [go_sem]
 have x1:W.cell? ⟨w.heap.size,1,none⟩=some (.int .i64 p.stop):=by rw [← hW];simp [go_sem]
 have x2:W.cell? ⟨w.heap.size,2,none⟩=some (.bool p.ended):=by rw [← hW];simp [go_sem]
 have x3:W.cell? ⟨w.heap.size,3,none⟩=some (.slice d.a0 p.steps.length d.c0):=by rw [← hW];simp [go_sem]
 have x4:W.cell? ⟨w.heap.size,4,none⟩=some (.slice d.a1 p.lies.length d.c1):=by rw [← hW];simp [go_sem]
 have x5:W.cell? ⟨w.heap.size,5,none⟩=some (.slice d.a2 p.crosses.length d.c2):=by rw [← hW];simp [go_sem]
 have hzW:w.heap.size<W.heap.size:=by rw [← hW];simp
 have HLW:=hidP (HLA.out W hbW)
 clear hW HLA
 go_upto_region 2 with (go_at_call 134;refine HLW.out.mono ?_;rintro e w2 ⟨rfl,hb2⟩)
 generalize hV:World.alloc w2 _=V
 have hbV:Below W.heap.size W V:=by rw [← hV];exact hb2.trans (((Below.refl _ _).alloc (Nat.le_refl _) _).mono hb2.size)
 have z0:V.cell? ⟨w2.heap.size,0,none⟩=some (.int .i64 sp):=by rw [← hV];simp [go_sem]
 have z1:V.cell? ⟨w2.heap.size,1,none⟩=some (.int .i64 sw):=by rw [← hV];simp [go_sem]
 have hzz:=cellLt z0
 dsimp only at hzz
 replace x0:=cell_later hbV x0
 replace x1:=cell_later hbV x1
 replace x2:=cell_later hbV x2
 replace x3:=cell_later hbV x3
 replace x4:=cell_later hbV x4
 replace x5:=cell_later hbV x5
 replace hbV:=hbW.trans (hbV.mono hbW.size)
 have HNV:=hidP (HNS.out V hbV)
 generalize w2.heap.size=St at z0 z1 hzz ⊢
 clear hV HNS hb2 hbW HLW w2
 go_upto_region 3 with (go_at_call 166;refine HNV.out.mono ?_;rintro e w3 ⟨rfl,hb3⟩)
 replace z0:=cell_later hb3 z0
 replace z1:=cell_later hb3 z1
 replace x0:=cell_later hb3 x0
 replace x1:=cell_later hb3 x1
 replace x2:=cell_later hb3 x2
 replace x3:=cell_later hb3 x3
 replace x4:=cell_later hb3 x4
 replace x5:=cell_later hb3 x5
 replace hb3:=hbV.trans (hb3.mono hbV.size)
 have y3:=cell_later hb3 c3
 have hzz3:=cellLt z0
 have hzx:=cellLt x0
 dsimp only at hzz3 hzx
 have HB3:=hidP hb3
 clear hbV HNV hzz hzW V W
 by_cases hn0:0≤nx
 ·have HE:Hid (stopP js ss p pos={ p with stop:=nx,ended:=true }):=by unfold Hid;rw [HX.out,if_pos hn0]
  clear HX
  go_wp2_with fail
  exact bodyPost_ret (v:=.tuple #[.int .i64 nx,.bool true]) (by simp [results,Tryz.results131,go_sem]) rfl ⟨by rw [HE.out],HB3.out⟩
 ·have HE:Hid (stopP js ss p pos=if kd=1∧rb=false then { p with stop := -1,ended:=true } else { p with stop:=0,ended:=false }):=by unfold Hid;rw [HX.out,if_neg hn0]
  clear HX
  go_upto_region 5 with fail
  have hS:∀ u:World,Below w3.heap.size w3 u→Below w.heap.size w u:=fun u hu=>HB3.out.trans (hu.mono HB3.out.size)
  obtain ⟨S,hSS⟩:∃ S:World→Prop,∀ u,S u↔Below w3.heap.size w3 u:=⟨_,fun _=>Iff.rfl⟩
  have HS0:=hidP hSS
  have r0:∀ u:Held S,World.cell? u.val ⟨St,0,none⟩=some (.int .i64 sp):=fun u=>cell_later ((hSS u.val).1 u.2) z0
  have r1:∀ u:Held S,World.cell? u.val ⟨St,1,none⟩=some (.int .i64 sw):=fun u=>cell_later ((hSS u.val).1 u.2) z1
  have r3:∀ u:Held S,World.cell? u.val ⟨K,3,none⟩=some (.map (some M)):=fun u=>cell_later ((hSS u.val).1 u.2) y3
  have r4:∀ u:Held S,(Instr.lookup 145 (.map (some M)) (endV es) false).run Tryz.prog u.val = .ok (.agg #[.int .i64 (j:Int),.int .i64 (k:Int),.iface (kindT kd) (.agg #[])]) u.val:=fun u=>HLK.out u.val (hS _ ((hSS u.val).1 u.2))
  have r5:∀ u:Held S,(Instr.typeAssert (.iface (kindT kd) (.agg #[])) 149 205 true).run Tryz.prog u.val = .ok (.tuple #[.agg #[],.bool (decide (kd=1))]) u.val:=fun u=>isB u.val _ kd
  have hS1:S w3.drew:=(hSS _).2 ((Below.refl _ _).drew)
  have hne:=held_ne hS1
  generalize hkb:decide (kd=1)=kb at r5
  have HKB:=hidP hkb
  clear hkb
  have r6:∀ u:Held S,(Instr.field 153 (.agg #[.int .i64 (j:Int),.int .i64 (k:Int),.iface (kindT kd) (.agg #[])]) 2).run Tryz.prog u.val = .ok (.iface (kindT kd) (.agg #[])) u.val:=fun u=>field_spot2 _ _ _ u.val
  generalize kindT kd=kt at r4 r5 r6
  clear hSS hS
  go_cut [11] (fun v wx=>v = .bool kb∧Below w3.heap.size w3 wx)
  case first =>
   refine wp_region_tree (fun w' => ∃ u:Held S,w'=u.val) 14 (by kernel_rfl) (by kernel_rfl) (held_some hS1) ?_
   (refine wpT_sea 0 ?_;intro K hK;go_big_quiet_op;go_big_quiet_on);(refine wpT_sea 1 ?_;intro K hK;go_big_quiet_op;go_big_quiet_on);(refine wpT_sea 2 ?_;intro K hK;go_big_quiet_op;go_big_quiet_on);(refine wpT_sea 3 ?_;intro K hK;go_big_quiet_op;go_big_quiet_on);(refine wpT_sea 4 ?_;intro K hK;go_big_quiet_op;go_big_quiet_on)
   refine wpT_loud2 5 12 (by rfl) (by rfl) (by kernel_rfl) (by kernel_rfl) (by kernel_rfl) ?_ ?_
   ·intro K hK
    go_wp2_with (go_at_call 114;refine (HAH.out _).mono ?_;rintro e w4 ⟨rfl,hb4'⟩)
    have hb4:Below w3.heap.size w3 w4:=(Below.refl _ _).drew.trans hb4'
    clear hb4'
    refine hK _ _ (held_some ((HS0.out _).2 hb4)) ?_
    clear hK K
    (refine wpT_sea 6 ?_;intro K hK;go_big_quiet_op;go_big_quiet_on);(refine wpT_sea 7 ?_;intro K hK;go_big_quiet_op;go_big_quiet_on);(refine wpT_sea 8 ?_;intro K hK;go_big_quiet_op;go_big_quiet_on);(refine wpT_sea 9 ?_;intro K hK;go_big_quiet_op;go_big_quiet_on);(refine wpT_sea 10 ?_;intro K hK;go_big_quiet_op;go_big_quiet_on);(refine wpT_sea 11 ?_;intro K hK;go_big_quiet_op;go_big_quiet_on)
    refine wpT_loud 12 (by rfl) (by kernel_rfl) (by kernel_rfl) ?_
    intro K hK
    go_wp2_with fail
    have hb5:Below w3.heap.size w3 (w4.alloc (Obj.cells #[] 205)):=hb4.trans (((Below.refl _ _).alloc (Nat.le_refl _) _).mono hb4.size)
    refine hK _ _ (held_some ((HS0.out _).2 hb5)) ?_
    clear hK K
    refine wpT_loud 13 (by rfl) (by kernel_rfl) (by kernel_rfl) ?_
    intro K hK
    go_wp2_with fail
    refine hK _ _ (held_some ((HS0.out _).2 hb5)) ?_
    clear hK K
    refine wpT_done (by kernel_rfl) ?_
    clear r0 r1 r3 r4 r5 r6 hS1 hne
    go_wp2_with fail
    go_meet
    exact ⟨rfl,hb5⟩
   ·intro K hK
    go_wp2_with fail
    have hb3:Below w3.heap.size w3 (w3.alloc (Obj.cells #[] 205)).drew:=((Below.refl _ _).alloc (Nat.le_refl _) _).drew
    refine hK _ _ (held_some ((HS0.out _).2 hb3)) ?_
    clear hK K
    refine wpT_loud 5 (by rfl) (by kernel_rfl) (by kernel_rfl) ?_
    intro K hK
    go_wp2_with (go_at_call 114;refine (HAH.out _).mono ?_;rintro e w4 ⟨rfl,hb4'⟩)
    have hb4:Below w3.heap.size w3 w4:=hb3.trans (hb4'.mono hb3.size)
    clear hb4'
    refine hK _ _ (held_some ((HS0.out _).2 hb4)) ?_
    clear hK K
    (refine wpT_sea 6 ?_;intro K hK;go_big_quiet_op;go_big_quiet_on);(refine wpT_sea 7 ?_;intro K hK;go_big_quiet_op;go_big_quiet_on);(refine wpT_sea 8 ?_;intro K hK;go_big_quiet_op;go_big_quiet_on);(refine wpT_sea 9 ?_;intro K hK;go_big_quiet_op;go_big_quiet_on);(refine wpT_sea 10 ?_;intro K hK;go_big_quiet_op;go_big_quiet_on);(refine wpT_sea 11 ?_;intro K hK;go_big_quiet_op;go_big_quiet_on)
    refine wpT_loud 13 (by rfl) (by kernel_rfl) (by kernel_rfl) ?_
    intro K hK
    go_wp2_with fail
    refine hK _ _ (held_some ((HS0.out _).2 hb4)) ?_
    clear hK K
    refine wpT_done (by kernel_rfl) ?_
    clear r0 r1 r3 r4 r5 r6 hS1 hne
    go_wp2_with fail
    go_meet
    exact ⟨rfl,hb4⟩
  case rest =>
   obtain ⟨rfl,hbc⟩:=hcut
   replace x0:=cell_later hbc x0
   replace x1:=cell_later hbc x1
   replace x2:=cell_later hbc x2
   replace x3:=cell_later hbc x3
   replace x4:=cell_later hbc x4
   replace x5:=cell_later hbc x5
   have HBC:=hidP (HB3.out.trans (hbc.mono HB3.out.size))
   have hzc:=cellLt x0
   dsimp only at hzc
   have HRC:=hidP (HRD.out wc HBC.out)
   clear r0 r1 r3 r4 r5 r6 hS1 hne hbc HB3 HRD z0 z1 y3 HS0
   cases kb with
   | false =>
    have HE2:Hid (stopP js ss p pos={ p with stop:=0,ended:=false }):=by unfold Hid;rw [HE.out,if_neg (fun h=>by have:=of_decide_eq_false HKB.out;exact this h.1)]
    clear HE
    go_wp2_with fail
    exact bodyPost_ret (v:=.tuple #[.int .i64 0,.bool false]) (by simp [results,Tryz.results131,go_sem]) rfl ⟨by rw [HE2.out],HBC.out⟩
   | true =>
    cases rb with
    | true =>
     have HE2:Hid (stopP js ss p pos={ p with stop:=0,ended:=false }):=by unfold Hid;rw [HE.out,if_neg (fun h=>by cases h.2)]
     clear HE
     go_wp2_with (go_at_call 132;refine HRC.out.mono ?_;rintro e w5 ⟨rfl,hb5⟩)
     exact bodyPost_ret (v:=.tuple #[.int .i64 0,.bool false]) (by simp [results,Tryz.results131,go_sem]) rfl ⟨by rw [HE2.out],HBC.out.trans (hb5.mono HBC.out.size)⟩
    | false =>
     have HE2:Hid (stopP js ss p pos={ p with stop := -1,ended:=true }):=by unfold Hid;rw [HE.out,if_pos ⟨of_decide_eq_true HKB.out,rfl⟩]
     clear HE
     go_wp2_with (go_at_call 132;refine HRC.out.mono ?_;rintro e w5 ⟨rfl,hb5⟩)
     exact bodyPost_ret (v:=.tuple #[.int .i64 (-1),.bool true]) (by simp [results,Tryz.results131,go_sem]) rfl ⟨by rw [HE2.out],HBC.out.trans (hb5.mono HBC.out.size)⟩
end Go.Proofs.YtmkdgnmmebldgaaGreatDoor
namespace Go.Proofs.YtmkdgnmmebldgaaGreatDoor
open Go.RowKit Go.Deep
def encR (x:RAddr × MRoute):List Value:=[.int .i64 x.2.start,.int .i64 x.2.stop,.slice x.1.a0 x.2.steps.length x.1.c0,.slice x.1.a1 x.2.lies.length x.1.c1,.slice x.1.a2 x.2.crosses.length x.1.c2,.slice x.1.a3 x.2.parts.length x.1.c3,.slice x.1.a4 x.2.over.length x.1.c4,.slice x.1.a5 x.2.flanks.length x.1.c5]
def flatR (pr:List (RAddr × MRoute)):List Value:=pr.flatMap encR
theorem flatR_snoc (pr:List (RAddr × MRoute))(x:RAddr × MRoute):flatR (pr++[x])=flatR pr++encR x:=by simp [flatR]
def IsRow (w:World)(k:Nat):Prop := ∃ cur,w.heap[k]? = some (.cells cur 44 (0,0))
def NotR (w:World)(F:Nat)(a:Option Addr)(n:Nat):Prop:=n=0∨∀ b off,a=some ⟨b,off,none⟩→b≠F∧b<w.heap.size∧¬ IsRow w b
structure Eff (F:Nat)(v v':Value)(w w':World):Prop where
 only:Only (fun k=>k=F∨v.ownBlock=some k) w w'
 tame:Tame w v v'
 rows:∀ k,v.ownBlock=some k→F<k∧IsRow w k
abbrev noRow:Value:=.slice none 0 0
theorem Eff.of_below {F:Nat}{w w':World}(h:Below w.heap.size w w'):Eff F noRow noRow w w':=⟨Only.of_below h,Tame.refl _ _,fun _ h=>by cases h⟩
theorem Eff.size {F:Nat}{v v':Value}{w w':World}(h:Eff F v v' w w'):w.heap.size≤w'.heap.size:=Only.size h.only
theorem Eff.trans {F:Nat}{v v1 v2:Value}{a b c:World}(h:Eff F v v1 a b)(k:Eff F v1 v2 b c):Eff F v v2 a c:=
 ⟨⟨k.only.os.trans h.only.os,k.only.tape.trans h.only.tape,k.only.output.trans h.only.output,Nat.le_trans h.size k.size,fun x hx hn=>by
  refine (k.only.block x (Nat.lt_of_lt_of_le hx h.size) ?_).trans (h.only.block x hx hn)
  rintro (h1 | h1)
  ·exact hn (Or.inl h1)
  ·rcases h.tame x h1 with h2 | h2
   ·exact hn (Or.inr h2)
   ·omega⟩,h.tame.trans k.tame h.size,h.rows⟩
theorem Eff.later {F:Nat}{v v1:Value}{a b c:World}(h:Eff F v v1 a b)(k:Below b.heap.size b c):Eff F v v1 a c:=
 ⟨h.only.trans (Only.of_below k),h.tame,h.rows⟩
theorem Eff.set {F:Nat}{w:World}(o:Nat)(u:Value):Eff F noRow noRow w (w.setCell ⟨F,o,none⟩ u):=⟨Only.setCell (Only.refl _ _) (p:=⟨F,o,none⟩) (Or.inl (Or.inl rfl)) u,Tame.refl _ _,fun _ h=>by cases h⟩
theorem Eff.below {F:Nat}{v v':Value}{w w':World}{B:Nat}(h:Eff F v v' w w')(hB:B≤F)(hz:F<w.heap.size):Below B w w':=
 ⟨h.only.os,h.only.tape,h.only.output,h.size,fun x hx=>h.only.block x (by omega) (by
  rintro (h1 | h1)
  ·omega
  ·have:=(h.rows x h1).1
   omega)⟩
theorem Eff.block {F:Nat}{v v':Value}{w w':World}(h:Eff F v v' w w'){b:Nat}(h1:b≠F)(h2:b<w.heap.size)(h3:v.ownBlock≠some b):w'.heap[b]? = w.heap[b]? := h.only.block b h2 (by
 rintro (h4 | h4)
 ·exact h1 h4
 ·exact h3 h4)
theorem Eff.blockR {F:Nat}{v v':Value}{w w':World}(h:Eff F v v' w w'){b:Nat}(h1:b≠F)(h2:b<w.heap.size)(h3:¬ IsRow w b):w'.heap[b]? = w.heap[b]? := h.block h1 h2 (fun e=>h3 (h.rows b e).2)
theorem NotR.kept {F:Nat}{v v':Value}{w w':World}{a:Option Addr}{n:Nat}(h:NotR w F a n)(he:Eff F v v' w w'):NotR w' F a n:=by
 rcases h with h | h
 ·exact Or.inl h
 ·refine Or.inr (fun b off e=>?_)
  obtain ⟨h1,h2,h3⟩:=h b off e
  have hb:=he.blockR h1 h2 h3
  exact ⟨h1,Nat.lt_of_lt_of_le h2 he.size,fun ⟨cur,hc⟩=>h3 ⟨cur,by rw [← hb];exact hc⟩⟩
theorem notR_own {w:World}{F B e s n:Nat}{a:Option Addr}{c:Nat}{xs:List Value}(h:w.ownsRow B e s (.slice a n c) n xs)(he:e≠44)(hB:F<B):NotR w F a n:=by
 rcases h.2 with ⟨h1,h2⟩ | ⟨g,cap,cur,h1,h2,h3,_⟩
 ·exact Or.inl h2
 ·refine Or.inr (fun b off ea=>?_)
  cases h1
  cases ea
  refine ⟨by omega,(Array.getElem?_eq_some_iff.1 h3).1,fun ⟨cur',h4⟩=>?_⟩
  rw [h3] at h4
  simp only [Option.some.injEq,Obj.cells.injEq] at h4
  exact he h4.2.1
theorem isRow_own {w:World}{B s n:Nat}{v:Value}{xs:List Value}(h:w.ownsRow B 44 s v n xs){k:Nat}(hk:v.ownBlock=some k):B≤k∧IsRow w k:=by
 rcases h.2 with ⟨h1,h2⟩ | ⟨g,cap,cur,h1,h2,h3,_⟩
 ·rw [h1] at hk;cases hk
 ·rw [h1] at hk
  simp only [Value.ownBlock,Option.some.injEq] at hk
  subst hk
  exact ⟨h2,cur,h3⟩
structure RKeep (w:World)(F:Nat)(d:RAddr)(r:MRoute):Prop where
 lists:RListsAt w d r
 n0:NotR w F d.a0 r.steps.length
 n1:NotR w F d.a1 r.lies.length
 n2:NotR w F d.a2 r.crosses.length
 n3:NotR w F d.a3 r.parts.length
 n4:NotR w F d.a4 r.over.length
 n5:NotR w F d.a5 r.flanks.length
theorem NotR.same {α:Type}{F:Nat}{v v':Value}{w w':World}{a:Option Addr}{L:List α}(h:NotR w F a L.length)(he:Eff F v v' w w'):L=[]∨∀ b off,a=some ⟨b,off,none⟩→w'.heap[b]? = w.heap[b]? := by
 rcases h with h | h
 ·exact Or.inl (List.eq_nil_of_length_eq_zero h)
 ·exact Or.inr (fun b off e=>by obtain ⟨h1,h2,h3⟩:=h b off e;exact he.blockR h1 h2 h3)
theorem RKeep.kept {w w':World}{F:Nat}{v v':Value}{d:RAddr}{r:MRoute}(h:RKeep w F d r)(he:Eff F v v' w w'):RKeep w' F d r:=
 ⟨⟨h.lists.steps.kept (h.n0.same he),h.lists.lies.kept (h.n1.same he),h.lists.crosses.kept (h.n2.same he),h.lists.parts.kept (h.n3.same he),h.lists.over.kept (h.n4.same he),h.lists.flanks.kept (h.n5.same he),h.lists.nil1⟩,h.n0.kept he,h.n1.kept he,h.n2.kept he,h.n3.kept he,h.n4.kept he,h.n5.kept he⟩
structure WS (w0 w:World)(F:Nat)(pa ja sa:Option Addr)(pc jc sc np nj ns:Nat)(over:Int)(xo:Option Addr)(yo t:Nat)(pr:List (RAddr × MRoute)):Prop where
 base:Below w0.heap.size w0 w
 f:w0.heap.size≤F
 c0:w.cell? ⟨F,0,none⟩=some (.slice pa np pc)
 c1:w.cell? ⟨F,1,none⟩=some (.slice ja nj jc)
 c2:w.cell? ⟨F,2,none⟩=some (.slice sa ns sc)
 c3:w.cell? ⟨F,3,none⟩=some (.int .i64 over)
 c4:w.cell? ⟨F,4,none⟩=some (.slice xo pr.length yo)
 z4:w.frozen? ⟨F,4,none⟩=false
 c5:w.cell? ⟨F,5,none⟩=some (.int .i64 (t:Int))
 z5:w.frozen? ⟨F,5,none⟩=false
 s6:∃ v,w.cell? ⟨F,6,none⟩=some v
 z6:w.frozen? ⟨F,6,none⟩=false
 own:w.ownsRow (F+1) 44 8 (.slice xo pr.length yo) pr.length (flatR pr)
 keep:∀ x ∈ pr,RKeep w F x.1 x.2
section
variable {w0 w w':World} {F:Nat} {pa ja sa:Option Addr} {pc jc sc np nj ns:Nat} {over:Int} {xo:Option Addr} {yo t:Nat} {pr:List (RAddr × MRoute)}
theorem WS.lt (h:WS w0 w F pa ja sa pc jc sc np nj ns over xo yo t pr):F<w.heap.size:=cellLt h.c0
theorem WS.below (h:WS w0 w F pa ja sa pc jc sc np nj ns over xo yo t pr)(hb:Below w.heap.size w w'):WS w0 w' F pa ja sa pc jc sc np nj ns over xo yo t pr:=by
 obtain ⟨v,hv⟩:=h.s6
 exact ⟨h.base.trans (hb.mono h.base.size),h.f,cell_later hb h.c0,cell_later hb h.c1,cell_later hb h.c2,cell_later hb h.c3,cell_later hb h.c4,(hb.frozen (p:=⟨F,4,none⟩) h.lt).trans h.z4,cell_later hb h.c5,(hb.frozen (p:=⟨F,5,none⟩) h.lt).trans h.z5,⟨v,cell_later hb hv⟩,(hb.frozen (p:=⟨F,6,none⟩) h.lt).trans h.z6,owns_below h.own hb,fun x hx=>(h.keep x hx).kept (Eff.of_below hb)⟩
theorem WS.inc (h:WS w0 w F pa ja sa pc jc sc np nj ns over xo yo t pr)(t':Nat):WS w0 (w.setCell ⟨F,5,none⟩ (.int .i64 (t':Int))) F pa ja sa pc jc sc np nj ns over xo yo t' pr:=by
 obtain ⟨v,hv⟩:=h.s6
 have hc:∀ {o:Nat} {u:Value},o≠5→w.cell? ⟨F,o,none⟩=some u→(w.setCell ⟨F,5,none⟩ (.int .i64 (t':Int))).cell? ⟨F,o,none⟩=some u:=fun ho hc=>by
  rw [World.cell?_setCell_other _ _ _ _ (by first | (simp;done) | (simp;omega))]
  exact hc
 refine ⟨h.base.setCell (p:=⟨F,5,none⟩) h.f _,h.f,hc (by omega) h.c0,hc (by omega) h.c1,hc (by omega) h.c2,hc (by omega) h.c3,hc (by omega) h.c4,?_,World.cell?_setCell_same _ _ _ h.c5,?_,⟨v,hc (by omega) hv⟩,?_,ownsRow_setCell_below h.own (Nat.lt_succ_self F) _,fun x hx=>(h.keep x hx).kept (Eff.set 5 _)⟩
 ·rw [World.frozen?_setCell];exact h.z4
 ·rw [World.frozen?_setCell];exact h.z5
 ·rw [World.frozen?_setCell];exact h.z6
theorem WS.rows (h:WS w0 w F pa ja sa pc jc sc np nj ns over xo yo t pr):∀ k,(Value.slice xo pr.length yo).ownBlock=some k→F<k∧IsRow w k:=fun _ hk=>isRow_own h.own hk
theorem WS.eff0 (h:WS w0 w F pa ja sa pc jc sc np nj ns over xo yo t pr)(hb:Below w.heap.size w w'):Eff F (.slice xo pr.length yo) (.slice xo pr.length yo) w w':=⟨Only.of_below hb,Tame.refl _ _,h.rows⟩
theorem WS.effI (h:WS w0 w F pa ja sa pc jc sc np nj ns over xo yo t pr)(u:Value):Eff F (.slice xo pr.length yo) (.slice xo pr.length yo) w (w.setCell ⟨F,5,none⟩ u):=⟨Only.setCell (Only.refl _ _) (p:=⟨F,5,none⟩) (Or.inl (Or.inl rfl)) u,Tame.refl _ _,h.rows⟩
theorem WS.more (h:WS w0 w F pa ja sa pc jc sc np nj ns over xo yo t pr){fl:List MFlank}{news:Option Addr→Nat→List Value}{e:Ending}(hd:DonePost F (F+1) pr.length (.slice xo pr.length yo) (flatR pr) w fl news e w')
  (d:Option Addr→Nat→RAddr) (r:MRoute) (hn:∀ a c,news a c=encR (d a c,r)) (hk:∀ a c v',w'.ownsRow w.heap.size 50 4 (.slice a fl.length c) fl.length (flatF fl)→Eff F (.slice xo pr.length yo) v' w w'→RKeep w' F (d a c) r) :
  e = .returned (.tuple #[])∧∃ x' y' dd,WS w0 w' F pa ja sa pc jc sc np nj ns over x' y' t (pr++[(dd,r)])∧Eff F (.slice xo pr.length yo) (.slice x' (pr.length+1) y') w w':=by
 obtain ⟨he,x',y',xf,yf,h4,ho,hf,hT,hc,hz,h6,hO⟩:=hd
 have hE:Eff F (.slice xo pr.length yo) (.slice x' (pr.length+1) y') w w':=⟨hO,hT,h.rows⟩
 have el:(pr++[(d xf yf,r)]).length=pr.length+1:=by simp
 rw [hn,← flatR_snoc] at ho
 refine ⟨he,x',y',d xf yf,⟨h.base.trans (hE.below h.f h.lt),h.f,?_,?_,?_,?_,?_,?_,?_,?_,h6,?_,?_,?_⟩,hE⟩
 ·rw [hc 0 (by omega) (by omega)];exact h.c0
 ·rw [hc 1 (by omega) (by omega)];exact h.c1
 ·rw [hc 2 (by omega) (by omega)];exact h.c2
 ·rw [hc 3 (by omega) (by omega)];exact h.c3
 ·rw [el];exact h4
 ·rw [hz 4];exact h.z4
 ·rw [hc 5 (by omega) (by omega)];exact h.c5
 ·rw [hz 5];exact h.z5
 ·rw [hz 6];exact h.z6
 ·rw [el];exact ho
 ·intro x hx
  rcases List.mem_append.1 hx with hx | hx
  ·exact (h.keep x hx).kept hE
  ·have:x=(d xf yf,r):=by simpa using hx
   rw [this]
   exact hk xf yf _ hf hE
end
def walkR (ps:List MPiece)(ss:List MPiece)(i:Nat)(pre:List MStep)(lies:List MLie)(crosses:List Int):MRoute:=⟨i,0,pre,lies,crosses,fullParts ps (sigAt ss i) pre,[],[]⟩
def WalkPost (w0 w:World)(F:Nat)(pa ja sa:Option Addr)(pc jc sc:Nat)(ps:List MPiece)(js:List MJoint)(ss:List MPiece)(over:Int)(n t:Nat)(vo:Value)(rs:List MRoute)(E:List MPath)(e:Ending)(w':World):Prop:=
 e = .returned (.tuple #[])∧∃ xo yo t' pr,WS w0 w' F pa ja sa pc jc sc ps.length js.length ss.length over xo yo t' pr∧Eff F vo (.slice xo pr.length yo) w w'∧Went (routeF ps js ss over) t rs E t' (pr.map Prod.snd)∧t'≤max (t+1) (20000+n)∧pr.length≤301
def WalkSpec (w0:World)(F:Nat)(pa ja sa:Option Addr)(pc jc sc:Nat)(ps:List MPiece)(js:List MJoint)(ss:List MPiece)(over:Int)(n:Nat):Prop:=
 ∀ (a0:Option Addr) (k0:Nat) (a1:Option Addr) (k1:Nat) (a2:Option Addr) (k2:Nat) (a3:Option Addr) (k3:Nat) (i:Nat) (pre:List MStep) (p:Nat) (way:Int) (lies:List MLie) (crosses:List Int) (pos:Int) (xo:Option Addr) (yo t:Nat) (pr:List (RAddr × MRoute)) (w:World),WalkOk ps js ss i pre ⟨p,way⟩ lies crosses pos→n+pre.length=2*ps.length+2 →
  WS w0 w F pa ja sa pc jc sc ps.length js.length ss.length over xo yo t pr→RKeep w F ⟨a0,k0,a1,k1,a2,k2,a3,k3,none,0,none,0⟩ (walkR ps ss i pre lies crosses)→NilR ⟨a0,k0,a1,k1,a2,k2,a3,k3,none,0,none,0⟩ (walkR ps ss i pre lies crosses)→t≤100000→pr.length≤301 →
  Calls Tryz.prog 35 #[.pointer (some ⟨F,0,none⟩),.agg #[.int .i64 i,.int .i64 0,.slice a0 pre.length k0,.slice a1 lies.length k1,.slice a2 crosses.length k2,.slice a3 pre.length k3,.slice none 0 0,.slice none 0 0],.int .i64 p,.int .i64 way,.int .i64 (farI ps p pos way)] w (WalkPost w0 w F pa ja sa pc jc sc ps js ss over n t (.slice xo pr.length yo) (pr.map Prod.snd) (evs ps js ss n (pathOf i (pre++[⟨p,way⟩]) lies crosses) pos))
end Go.Proofs.YtmkdgnmmebldgaaGreatDoor
