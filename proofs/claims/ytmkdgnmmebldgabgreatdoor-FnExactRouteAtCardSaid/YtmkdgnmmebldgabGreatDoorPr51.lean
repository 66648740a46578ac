import Derived.Test.YtmkdgnmmebldgabGreatDoorPr50
import Derived.Test.YtmkdgnmmebldgabGreatDoorPr44
import Derived.Defers
import Derived.Recover
set_option maxRecDepth 100000
set_option maxHeartbeats 8000000
namespace Go.Proofs.YtmkdgnmmebldgabGreatDoor
open Go.RowKit Go.Deep
def ListerPost (ps:List MPiece)(js:List MJoint)(ss:List MPiece)(pa ja sa:Option Addr)(pc jc sc:Nat)(w:World)(e:Ending)(w':World):Prop:=
 (sigF ps js ss≠(0,0)∧e=leaves 1∧Below w.heap.size w w') ∨
 (sigF ps js ss=(0,0)∧∃ (w0:World) (x:Option Addr) (y:Nat),e = .returned (.pointer (some ⟨w0.heap.size,0,none⟩))∧Below w.heap.size w w0∧RoutesAt w0 x (routesF ps js ss 0) ∧
  w'=w0.alloc (.cells (lCells ⟨pa,ps.length,pc,ja,js.length,jc,sa,ss.length,sc,x,(routesF ps js ss 0).length,y⟩ (.pointer none) (.slice none 0 0)) 176))
theorem listerOf_any (pa ja sa:Option Addr)(pc jc sc:Nat)(ps:List MPiece)(js:List MJoint)(ss:List MPiece)(w:World)(hp:Hid (PiecesAt w pa ps))(hj:Hid (JointsAt w ja js))(hs:Hid (PiecesAt w sa ss)):
  Calls Tryz.prog 87 #[.agg #[.slice pa ps.length pc,.slice ja js.length jc],.slice sa ss.length sc] w (ListerPost ps js ss pa ja sa pc jc sc w):=by
 go_enter Tryz.func87,Tryz.ntmps87
 go_upto_region 1 with fail
 generalize hW:World.alloc w _=W
 have e0:W.cell? ⟨w.heap.size,0,none⟩=some (.slice pa ps.length pc):=by rw [← hW];simp [go_sem]
 have e1:W.cell? ⟨w.heap.size,1,none⟩=some (.slice ja js.length jc):=by rw [← hW];simp [go_sem]
 have HBW:Hid (Below w.heap.size w W):=by rw [← hW];exact blo
 have HP:=hidQ (hp.out.below HBW.out)
 have HJ:=hidQ (hj.out.below HBW.out)
 have HS:=hidQ (hs.out.below HBW.out)
 clear hW hp hj hs
 have HSG:=hidP (implSignalsOk_any pa ja sa pc jc sc ps js ss W HP HJ HS)
 have HRT:Hid (∀ u:World,Below W.heap.size W u→Calls Tryz.prog 72 #[.agg #[.slice pa ps.length pc,.slice ja js.length jc],.slice sa ss.length sc,.int .i64 0] u (RoutesPost ps js ss 0 u)):=fun u hu=>implRoutes_any pa ja sa pc jc sc ps js ss 0 u (HP.out.below hu) (HJ.out.below hu) (HS.out.below hu)
 have HRL:=hidP (routesF_ok ps js ss 0).1
 obtain ⟨sf,hsf⟩:∃ sf,sigF ps js ss=sf:=⟨_,rfl⟩
 rw [hsf] at HSG
 have HSF:=hidP hsf
 clear hsf
 obtain ⟨f1,f2⟩:=sf
 unfold faultV at HSG
 by_cases h0:f1=0∧f2=0
 rotate_left
 ·have HNE:Hid (sigF ps js ss≠(0,0)):=by unfold Hid;rw [HSF.out];intro e;injection e with e1 e2;exact h0 ⟨e1,e2⟩
  by_cases h1:f1=0
  ·have h2b:(f2==0)=false:=by simpa using (fun e=>h0 ⟨h1,e⟩)
   subst h1
   clear h0
   go_wp2_with (go_at_call 108;refine HSG.out.mono ?_;rintro e w1 ⟨rfl,hb1⟩)
   exact ⟨rfl,Or.inl ⟨HNE.out,rfl,HBW.out.trans (hb1.mono HBW.out.size)⟩⟩
  ·have h1b:(f1==0)=false:=by simpa using h1
   clear h0 h1
   go_wp2_with (go_at_call 108;refine HSG.out.mono ?_;rintro e w1 ⟨rfl,hb1⟩)
   exact ⟨rfl,Or.inl ⟨HNE.out,rfl,HBW.out.trans (hb1.mono HBW.out.size)⟩⟩
 obtain ⟨rfl,rfl⟩:=h0
 go_upto_region 3 with (go_at_call 108;refine HSG.out.mono ?_;rintro e w1 ⟨rfl,hb1⟩)
 have HB1:=hidP hb1
 replace e0:=cell_later hb1 e0
 replace e1:=cell_later hb1 e1
 have hze:=cellLt e0
 dsimp only at hze
 clear hb1 HSG
 obtain ⟨S,hS⟩:∃ S:World→Prop,∀ u,S u↔Below w1.heap.size w1 u:=⟨_,fun _=>Iff.rfl⟩
 have HS0:=hidP hS
 have x0:∀ u:Held S,World.cell? u.val ⟨w.heap.size,0,none⟩=some (.slice pa ps.length pc):=fun u=>cell_later ((hS u.val).1 u.2) e0
 have x1:∀ u:Held S,World.cell? u.val ⟨w.heap.size,1,none⟩=some (.slice ja js.length jc):=fun u=>cell_later ((hS u.val).1 u.2) e1
 have hS1:S w1.drew:=(hS _).2 ((Below.refl _ _).drew)
 have hne:=held_ne hS1
 clear hS e0 e1
 refine wp_region_tree (fun w' => ∃ u:Held S,w'=u.val) 5 (by kernel_rfl) (by kernel_rfl) (held_some hS1) ?_
 (refine wpT_sea 0 ?_;intro K hK;go_big_quiet_op;go_big_quiet_on);(refine wpT_sea 1 ?_;intro K hK;go_big_quiet_op;go_big_quiet_on);(refine wpT_sea 2 ?_;intro K hK;go_big_quiet_op;go_big_quiet_on);(refine wpT_sea 3 ?_;intro K hK;go_big_quiet_op;go_big_quiet_on)
 refine wpT_loud 4 (by rfl) (by kernel_rfl) (by kernel_rfl) ?_
 intro K hK
 go_wp2_with (go_at_call 72;refine (HRT.out _ (HB1.out.trans ((Below.refl _ _).drew.mono HB1.out.size))).mono ?_;rintro e w2 ⟨x,y,qs,rfl,hqs,htab,hb2'⟩)
 have hb2:Below w1.heap.size w1 w2:=(Below.refl _ _).drew.trans hb2'
 refine hK _ _ (held_some ((HS0.out _).2 hb2)) ?_
 have HQL:Hid (qs.length=(routesF ps js ss 0).length):=by unfold Hid;rw [← hqs];simp
 have HQR:Hid (RoutesAt w2 x (routesF ps js ss 0)):=by have h:=htab.routes (by rw [HQL.out];exact HRL.out);rw [hqs] at h;exact h
 have HB2:Hid (Below w.heap.size w w2):=HBW.out.trans ((HB1.out.trans (hb2.mono HB1.out.size)).mono HBW.out.size)
 rw [HQL.out]
 clear hK K hb2' hb2 hqs htab x0 x1 hS1 hne hze
 refine wpT_done (by kernel_rfl) ?_
 go_wp2_with fail
 go_ret
 exact Or.inr ⟨HSF.out,w2,x,y,rfl,HB2.out,HQR.out,rfl⟩
theorem hitU (w:World)(xt:TypeId)(v:Value):(Instr.typeAssert (.iface 105 v) xt 105 true).run Tryz.prog w = .ok (.tuple #[v,.bool true]) w:=by
 simp [Instr.typeAssert,run_underlying Tryz.underlying105]
theorem caught (p:Addr)(x k:Int)(w:World)(hc:w.cell? p=some (.int .i64 x))(hz:w.frozen? p=false):
  CallsD Tryz.prog 86 #[.pointer (some p)] (.panicking [{ v:=.iface 105 (.int .i64 k),recovered:=false }]) w fun e u' w' =>
   e = .returned (.tuple #[])∧u' = .panicking [{ v:=.iface 105 (.int .i64 k),recovered:=true }]∧w'=w.setCell p (.int .i64 k):=by
 refine callsD_of_wpS Tryz.func86 rfl fun c₀ cs hu=>?_
 apply wpS_seq
 apply wpS_region
 simp [wpOpsS,go_sem,recoverD,hu,Tryz.ntmps86,Exit.thenS]
 refine wpS_of_wp ?_
 have hta:=hitU w 20 (.int .i64 k)
 go_wp2_with fail
 simp [bodyPostS,results,Tryz.results86]
theorem idle (p:Addr)(w:World):
  CallsD Tryz.prog 86 #[.pointer (some p)] .returning w fun e u' w'=>e = .returned (.tuple #[])∧u' = .returning∧w'=w:=by
 refine callsD_of_wpS Tryz.func86 rfl fun c₀ cs hu=>?_
 apply wpS_seq
 apply wpS_region
 simp [wpOpsS,go_sem,recoverD,hu,Tryz.ntmps86,Exit.thenS]
 refine wpS_of_wp ?_
 go_wp2_with fail
 cases c₀
 simp_all [bodyPostS,results,Tryz.results86]
def whyF (ps:List MPiece)(js:List MJoint)(ss:List MPiece)(rs:List MRoute)(D : Decidable (∀ r ∈ rs, bare r ∈ routesF ps js ss 0) := Classical.propDecidable _) : Int := if sigF ps js ss≠(0,0) then 1 else if 300<rs.length then 2 else if ∀ r ∈ rs,bare r ∈ routesF ps js ss 0 then 0 else 3
def textF (ps:List MPiece)(js:List MJoint)(ss:List MPiece)(rs:List MRoute)(D : Decidable (∀ r ∈ rs, bare r ∈ routesF ps js ss 0) := Classical.propDecidable _) : List UInt8 := if whyF ps js ss rs D =0 then linesT ps js ss 0 rs else []
theorem whyF_1 {ps:List MPiece}{js:List MJoint}{ss:List MPiece}{rs:List MRoute}(h:sigF ps js ss≠(0,0)):whyF ps js ss rs=1:=by
 unfold whyF
 rw [if_pos h]
theorem whyF_2 {ps:List MPiece}{js:List MJoint}{ss:List MPiece}{rs:List MRoute}(h:sigF ps js ss=(0,0))(h2:300<rs.length):whyF ps js ss rs=2:=by
 unfold whyF
 rw [if_neg (fun e=>e h),if_pos h2]
theorem whyF_3 {ps:List MPiece}{js:List MJoint}{ss:List MPiece}{rs:List MRoute}(h:sigF ps js ss=(0,0))(h2:rs.length≤300)(h3:∃ r ∈ rs,bare r ∉ routesF ps js ss 0):whyF ps js ss rs=3:=by
 unfold whyF
 rw [if_neg (fun e=>e h),if_neg (by omega),if_neg (fun e=>by obtain ⟨r,hr,hn⟩:=h3;exact hn (e r hr))]
theorem whyF_0 {ps:List MPiece}{js:List MJoint}{ss:List MPiece}{rs:List MRoute}(h:sigF ps js ss=(0,0))(h2:rs.length≤300)(h3:∀ r ∈ rs,bare r ∈ routesF ps js ss 0):whyF ps js ss rs=0:=by
 unfold whyF
 rw [if_neg (fun e=>e h),if_neg (by omega),if_pos h3]
theorem textF_n {ps:List MPiece}{js:List MJoint}{ss:List MPiece}{rs:List MRoute}{k:Int}(h:whyF ps js ss rs=k)(hk:k≠0):textF ps js ss rs=[]:=by
 unfold textF
 rw [if_neg (by rw [h];exact hk)]
theorem textF_0 {ps:List MPiece}{js:List MJoint}{ss:List MPiece}{rs:List MRoute}(h:whyF ps js ss rs=0):textF ps js ss rs=linesT ps js ss 0 rs:=by
 unfold textF
 rw [if_pos h]
theorem linesOf_any (pa ja sa ra:Option Addr)(pc jc sc rc:Nat)(ps:List MPiece)(js:List MJoint)(ss:List MPiece)(rs:List MRoute)(w:World)(hp:Hid (PiecesAt w pa ps))(hj:Hid (JointsAt w ja js))(hs:Hid (PiecesAt w sa ss))(hr:Hid (RoutesAt w ra rs))(ht:Hid (TabU w)):
  Calls Tryz.prog 50 #[.agg #[.slice pa ps.length pc,.slice ja js.length jc],.slice sa ss.length sc,.slice ra rs.length rc] w fun e w' => ∃ t:ByteArray,e = .returned (.tuple #[.string t,.int .i64 (whyF ps js ss rs)])∧t.data.toList=textF ps js ss rs∧Below w.heap.size w w':=by
 have hmf:∀ (fn:Fn) (first cap:Array Value) (w:World),(Instr.makeFunc fn first cap).run Tryz.prog w = .ok (.func fn first cap) w:=fun _ _ _ _=>rfl
 have HLO:Hid (∀ u:World,Below w.heap.size w u→Calls Tryz.prog 87 #[.agg #[.slice pa ps.length pc,.slice ja js.length jc],.slice sa ss.length sc] u (ListerPost ps js ss pa ja sa pc jc sc u)):=fun u hu=>listerOf_any pa ja sa pc jc sc ps js ss u (hp.out.below hu) (hj.out.below hu) (hs.out.below hu)
 go_enter_defers Tryz.func50,Tryz.ntmps50
 go_upto_region 2 with fail
 generalize hW:World.alloc (World.alloc w _) _=W
 have e0:W.cell? ⟨w.heap.size,0,none⟩=some (.slice pa ps.length pc):=by rw [← hW];simp [go_sem]
 have e1:W.cell? ⟨w.heap.size,1,none⟩=some (.slice ja js.length jc):=by rw [← hW];simp [go_sem]
 have y0:W.cell? ⟨w.heap.size+1,0,none⟩=some (.int .i64 0):=by rw [← hW];simp [go_sem]
 have z0:W.frozen? ⟨w.heap.size+1,0,none⟩=false:=by rw [← hW];simp [go_sem]
 have hzW:w.heap.size+1<W.heap.size:=by rw [← hW];simp
 have hbW:Below w.heap.size w W:=by rw [← hW];exact blo
 clear hW
 have HY:Hid (∀ u:World,Below W.heap.size W u→u.cell? ⟨w.heap.size+1,0,none⟩=some (.int .i64 0)∧u.frozen? ⟨w.heap.size+1,0,none⟩=false∧Below w.heap.size w u):=fun u hu=>⟨cell_later hu y0,(hu.frozen (p:=⟨w.heap.size+1,0,none⟩) hzW).trans z0,hbW.trans (hu.mono hbW.size)⟩
 have HP:=hidQ (hp.out.below hbW)
 have HJ:=hidQ (hj.out.below hbW)
 have HS:=hidQ (hs.out.below hbW)
 have HR:=hidQ (hr.out.below hbW)
 have HT:=hidQ (ht.out.below hbW)
 have HLW:=hidP (HLO.out W hbW)
 clear hp hj hs hr ht y0 z0 HLO
 go_wp2_with fail
 refine HLW.out.mono ?_
 clear HLW
 rintro e w1 hpost
 rcases hpost with ⟨hne,rfl,hb1⟩ | ⟨hsg,w0,x,y,rfl,hb1,hQ,rfl⟩
 ·have HW:=hidP (whyF_1 (rs:=rs) hne)
  obtain ⟨y1,z1,hbx⟩:=HY.out _ hb1
  clear hb1 hne
  unfold leaves
  go_wp2_with fail
  refine leaves_cons (f:=86) (args:=#[.pointer (some ⟨w.heap.size+1,0,none⟩)]) (by simp) (by simp [go_sem]) ?_
  refine (caught ⟨w.heap.size+1,0,none⟩ 0 1 w1 y1 z1).mono ?_
  rintro e u' w'' ⟨rfl,rfl,rfl⟩
  simp [Leaves,settle,results,Tryz.results50,go_sem,y1]
  exact ⟨⟨#[]⟩,⟨rfl,HW.out.symm⟩,(textF_n HW.out (by decide)).symm,hbx.setCell (p:=⟨w.heap.size+1,0,none⟩) (by simp) _⟩
 obtain ⟨rights,hrt⟩:∃ q,routesF ps js ss 0=q:=⟨_,rfl⟩
 have HLN:=hidP (routes_line ps js ss 0)
 rw [hrt] at hQ HLN ⊢
 have HRT:=hidP hrt
 have HSG:=hidP hsg
 have HN:=hidP (short_of hsg)
 have HB1:=hidP hb1
 have HU:Hid (Und w0 ⟨pa,ps.length,pc,ja,js.length,jc,sa,ss.length,sc,x,rights.length,y⟩ ps js ss ra rs rights):=⟨⟨HP.out.below hb1,rfl,HJ.out.below hb1,rfl,HS.out.below hb1,rfl⟩,HR.out.below hb1,hQ,rfl,HT.out.below hb1⟩
 generalize hA:(⟨pa,ps.length,pc,ja,js.length,jc,sa,ss.length,sc,x,rights.length,y⟩:LAd)=A at HU ⊢
 have HLS:Hid (LS A w0.heap.size (w0.alloc (.cells (lCells A (.pointer none) (.slice none 0 0)) 176)) []):=⟨.pointer none,.slice none 0 0,heap_alloc_new w0 _,Or.inl rfl,World.ownsRow_nil _ _ _ _,fun _=>rfl⟩
 have HB0:Hid (Below w0.heap.size w0 (w0.alloc (.cells (lCells A (.pointer none) (.slice none 0 0)) 176))):=(Below.refl _ _).alloc (Nat.le_refl _) _
 have HLI:=hidP (lines_any A w0 ps js ss ra rc rs rights _ HU HN HLN HB0 HLS)
 have hzL:=hb1.size
 clear hb1 hQ hsg hrt hA e0 e1
 go_wp2_with fail
 refine HLI.out.mono ?_
 rintro e w2 ⟨hor,hb2⟩
 have HB2:Hid (Below W.heap.size W w2):=HB1.out.trans (hb2.mono hzL)
 have HL2:=hidP hb2
 clear hb2 HLI
 obtain ⟨y1,z1,hbx⟩:=HY.out _ HB2.out
 rcases hor with ⟨h3,rfl⟩ | ⟨h3,h4,rfl⟩ | ⟨h3,h4,rfl,hls⟩
 ·have HW:=hidP (whyF_2 HSG.out h3)
  clear h3
  unfold leaves
  go_wp2_with fail
  refine leaves_cons (f:=86) (args:=#[.pointer (some ⟨w.heap.size+1,0,none⟩)]) (by simp) (by simp [go_sem]) ?_
  refine (caught ⟨w.heap.size+1,0,none⟩ 0 2 w2 y1 z1).mono ?_
  rintro e u' w'' ⟨rfl,rfl,rfl⟩
  simp [Leaves,settle,results,Tryz.results50,go_sem,y1]
  exact ⟨⟨#[]⟩,⟨rfl,HW.out.symm⟩,(textF_n HW.out (by decide)).symm,hbx.setCell (p:=⟨w.heap.size+1,0,none⟩) (by simp) _⟩
 ·have HW:=hidP (whyF_3 HSG.out h3 (by rw [HRT.out];exact h4))
  clear h3 h4
  unfold leaves
  go_wp2_with fail
  refine leaves_cons (f:=86) (args:=#[.pointer (some ⟨w.heap.size+1,0,none⟩)]) (by simp) (by simp [go_sem]) ?_
  refine (caught ⟨w.heap.size+1,0,none⟩ 0 3 w2 y1 z1).mono ?_
  rintro e u' w'' ⟨rfl,rfl,rfl⟩
  simp [Leaves,settle,results,Tryz.results50,go_sem,y1]
  exact ⟨⟨#[]⟩,⟨rfl,HW.out.symm⟩,(textF_n HW.out (by decide)).symm,hbx.setCell (p:=⟨w.heap.size+1,0,none⟩) (by simp) _⟩
 ·have HW:=hidP (whyF_0 HSG.out h3 (by rw [HRT.out];exact h4))
  have HLE:Hid ((linesT ps js ss 0 rs).length≤140737488355328):=by
   have q:=linesT_le HN.out rs 0 (fun r hr=>(HLN.out _ (h4 r hr)).bare) (by omega)
   unfold Hid
   omega
  have HST:=hidP (builderString_any A w0.heap.size _ w2 hls HLE.out)
  clear h3 h4 hls
  go_wp2_with fail
  refine HST.out.mono ?_
  rintro e w3 ⟨rfl,hb3⟩
  have HB3:Hid (Below W.heap.size W w3):=HB2.out.trans (hb3.mono hzL)
  obtain ⟨y2,z2,hby⟩:=HY.out _ HB3.out
  clear hb3 y1 z1 hbx
  go_wp2_with fail
  refine leaves_cons (f:=86) (args:=#[.pointer (some ⟨w.heap.size+1,0,none⟩)]) (by simp) (by simp [go_sem]) ?_
  refine (idle ⟨w.heap.size+1,0,none⟩ _).mono ?_
  rintro e u' w'' ⟨rfl,rfl,rfl⟩
  simp [Leaves,settle,results,Tryz.results50,go_sem,y2]
  exact ⟨_,⟨rfl,HW.out.symm⟩,by rw [textF_0 HW.out],hby.setCell (p:=⟨w.heap.size+1,0,none⟩) (by simp) _⟩
end Go.Proofs.YtmkdgnmmebldgabGreatDoor
