import Derived.Test.YtmkdgnmmebldgaaGreatDoorPt1
import Derived.Defers
import Derived.Recover
import Derived.Test.YtmkdgnmmebldgaaGreatDoorPt44
import Derived.Test.YtmkdgnmmebldgaaGreatDoorPt43
set_option maxRecDepth 100000
set_option maxHeartbeats 8000000
namespace Go.Proofs.YtmkdgnmmebldgaaGreatDoor
open Go.RowKit
def leaves (k:Int):Ending:=.panicked [{ v:=.iface 117 (.int .i64 k),recovered:=false }]
theorem hitU (w:World)(xt:TypeId)(v:Value):(Instr.typeAssert (.iface 117 v) xt 117 true).run Tryz.prog w = .ok (.tuple #[v,.bool true]) w:=by
 simp [Instr.typeAssert,run_underlying Tryz.underlying117]
theorem caught (p:Addr)(x k:Int)(w:World)(hc:w.cell? p=some (.int .i64 x))(hz:w.frozen? p=false):
  CallsD Tryz.prog 95 #[.pointer (some p)] (.panicking [{ v:=.iface 117 (.int .i64 k),recovered:=false }]) w fun e u' w' =>
   e = .returned (.tuple #[])∧u' = .panicking [{ v:=.iface 117 (.int .i64 k),recovered:=true }]∧w'=w.setCell p (.int .i64 k):=by
 refine callsD_of_wpS Tryz.func95 rfl fun c₀ cs hu=>?_
 apply wpS_seq
 apply wpS_region
 simp [wpOpsS,go_sem,recoverD,hu,Tryz.ntmps95,Exit.thenS]
 refine wpS_of_wp ?_
 have hta:=hitU w 20 (.int .i64 k)
 go_wp2_with fail
 simp [bodyPostS,results,Tryz.results95]
end Go.Proofs.YtmkdgnmmebldgaaGreatDoor
namespace Go.Proofs.YtmkdgnmmebldgaaGreatDoor
open Go.RowKit Go.Deep
theorem listerOf_bad (pa ja sa:Option Addr)(pc jc sc:Nat)(ps:List MPiece)(js:List MJoint)(ss:List MPiece)(w:World)(hp:Hid (PiecesAt w pa ps))(hj:Hid (JointsAt w ja js))(hs:Hid (PiecesAt w sa ss))(hbad:Hid (sigF ps js ss≠(0,0))):
  Calls Tryz.prog 96 #[.agg #[.slice pa ps.length pc,.slice ja js.length jc],.slice sa ss.length sc] w fun e w'=>e=leaves 1∧Below w.heap.size w w':=by
 go_enter Tryz.func96,Tryz.ntmps96
 go_upto_region 1 with fail
 generalize hW:World.alloc w _=W
 have e0:W.cell? ⟨w.heap.size,0,none⟩=some (.slice pa ps.length pc):=by rw [← hW];simp [go_sem]
 have e1:W.cell? ⟨w.heap.size,1,none⟩=some (.slice ja js.length jc):=by rw [← hW];simp [go_sem]
 have HBW:Hid (Below w.heap.size w W):=by rw [← hW];exact blo
 have HSG:=hidP (implSignalsOk_any pa ja sa pc jc sc ps js ss W (hp.out.below HBW.out) (hj.out.below HBW.out) (hs.out.below HBW.out))
 clear hW hp hj hs
 obtain ⟨sf,hsf⟩:∃ sf,sigF ps js ss=sf:=⟨_,rfl⟩
 rw [hsf] at HSG hbad
 clear hsf
 obtain ⟨f1,f2⟩:=sf
 unfold faultV at HSG
 by_cases h1:f1=0
 ·have h2b:(f2==0)=false:=by simpa using (fun e=>hbad.out (by rw [h1,e]))
  subst h1
  clear hbad
  go_wp2_with (go_at_call 25;refine HSG.out.mono ?_;rintro e w1 ⟨rfl,hb1⟩)
  exact ⟨rfl,rfl,HBW.out.trans (hb1.mono HBW.out.size)⟩
 ·have h1b:(f1==0)=false:=by simpa using h1
  clear h1 hbad
  go_wp2_with (go_at_call 25;refine HSG.out.mono ?_;rintro e w1 ⟨rfl,hb1⟩)
  exact ⟨rfl,rfl,HBW.out.trans (hb1.mono HBW.out.size)⟩
theorem linesOf_bad (pa ja sa ra:Option Addr)(pc jc sc nr rc:Nat)(ps:List MPiece)(js:List MJoint)(ss:List MPiece)(w:World)(hp:Hid (PiecesAt w pa ps))(hj:Hid (JointsAt w ja js))(hs:Hid (PiecesAt w sa ss))(hbad:Hid (sigF ps js ss≠(0,0))):
  Calls Tryz.prog 49 #[.agg #[.slice pa ps.length pc,.slice ja js.length jc],.slice sa ss.length sc,.slice ra nr rc] w fun e w'=>e = .returned (.tuple #[.string ⟨#[]⟩,.int .i64 1])∧Below w.heap.size w w':=by
 have hmf:∀ (fn:Fn) (first cap:Array Value) (w:World),(Instr.makeFunc fn first cap).run Tryz.prog w = .ok (.func fn first cap) w:=fun _ _ _ _=>rfl
 go_enter_defers Tryz.func49,Tryz.ntmps49
 go_upto_region 2 with fail
 generalize hW:World.alloc (World.alloc w _) _=W
 have e0:W.cell? ⟨w.heap.size,0,none⟩=some (.slice pa ps.length pc):=by rw [← hW];simp [go_sem]
 have e1:W.cell? ⟨w.heap.size,1,none⟩=some (.slice ja js.length jc):=by rw [← hW];simp [go_sem]
 have y0:W.cell? ⟨w.heap.size+1,0,none⟩=some (.int .i64 0):=by rw [← hW];simp [go_sem]
 have z0:W.frozen? ⟨w.heap.size+1,0,none⟩=false:=by rw [← hW];simp [go_sem]
 have hzW:w.heap.size+1<W.heap.size:=by rw [← hW];simp
 have hbW:Below w.heap.size w W:=by rw [← hW];exact blo
 clear hW
 have HY:Hid (∀ u:World,Below W.heap.size W u→u.cell? ⟨w.heap.size+1,0,none⟩=some (.int .i64 0)∧u.frozen? ⟨w.heap.size+1,0,none⟩=false∧Below w.heap.size w u):=fun u hu=>⟨cell_later hu y0,(hu.frozen (p:=⟨w.heap.size+1,0,none⟩) hzW).trans z0,hbW.trans (hu.mono hbW.size)⟩
 have HLW:=hidP (listerOf_bad pa ja sa pc jc sc ps js ss W (hp.out.below hbW) (hj.out.below hbW) (hs.out.below hbW) hbad)
 clear hp hj hs y0 z0 hbad
 go_wp2_with fail
 refine HLW.out.mono ?_
 clear HLW
 rintro e w1 ⟨rfl,hb1⟩
 obtain ⟨y1,z1,hbx⟩:=HY.out _ hb1
 clear hb1
 unfold leaves
 go_wp2_with fail
 refine leaves_cons (f:=95) (args:=#[.pointer (some ⟨w.heap.size+1,0,none⟩)]) (by simp) (by simp [go_sem]) ?_
 refine (caught ⟨w.heap.size+1,0,none⟩ 0 1 w1 y1 z1).mono ?_
 rintro e u' w'' ⟨rfl,rfl,rfl⟩
 simp [Leaves,settle,results,Tryz.results49,go_sem,y1]
 exact hbx.setCell (p:=⟨w.heap.size+1,0,none⟩) (by simp) _
theorem implListing_bad (pa ja sa ra:Option Addr)(pc jc sc nr rc:Nat)(ps:List MPiece)(js:List MJoint)(ss:List MPiece)(w:World)(hp:Hid (PiecesAt w pa ps))(hj:Hid (JointsAt w ja js))(hs:Hid (PiecesAt w sa ss))(hbad:Hid (sigF ps js ss≠(0,0))):
  Calls Tryz.prog 22 #[.agg #[.slice pa ps.length pc,.slice ja js.length jc],.slice sa ss.length sc,.slice ra nr rc] w fun e w'=>e = .returned (.string ⟨#[]⟩)∧Below w.heap.size w w':=by
 go_enter Tryz.func22,Tryz.ntmps22
 go_upto_region 1 with fail
 generalize hW:World.alloc w _=W
 have e0:W.cell? ⟨w.heap.size,0,none⟩=some (.slice pa ps.length pc):=by rw [← hW];simp [go_sem]
 have e1:W.cell? ⟨w.heap.size,1,none⟩=some (.slice ja js.length jc):=by rw [← hW];simp [go_sem]
 have hbW:Below w.heap.size w W:=by rw [← hW];exact blo
 clear hW
 have HLO:=hidP (linesOf_bad pa ja sa ra pc jc sc nr rc ps js ss W (hp.out.below hbW) (hj.out.below hbW) (hs.out.below hbW) hbad)
 go_wp2_with (go_at_call 49;refine HLO.out.mono ?_;rintro e w1 ⟨rfl,hb1⟩)
 go_ret
 exact ⟨rfl,hbW.trans (hb1.mono hbW.size)⟩
theorem checkAll_bad (pa ja sa ra ta:Option Addr)(pc jc sc nr rc nt tc:Nat)(ps:List MPiece)(js:List MJoint)(ss:List MPiece)(over:Int)(w:World)(hp:Hid (PiecesAt w pa ps))(hj:Hid (JointsAt w ja js))(hs:Hid (PiecesAt w sa ss))(hbad:Hid (sigF ps js ss≠(0,0))):
  Calls Tryz.prog 41 #[.agg #[.slice pa ps.length pc,.slice ja js.length jc],.slice sa ss.length sc,.int .i64 over,.slice ra nr rc,.slice ta nt tc] w fun e w'=>e = .returned (errsV (some (1,none)))∧Below w.heap.size w w':=by
 go_enter Tryz.func41,Tryz.ntmps41
 go_upto_region 1 with fail
 generalize hW:World.alloc w _=W
 have e0:W.cell? ⟨w.heap.size,0,none⟩=some (.slice pa ps.length pc):=by rw [← hW];simp [go_sem]
 have e1:W.cell? ⟨w.heap.size,1,none⟩=some (.slice ja js.length jc):=by rw [← hW];simp [go_sem]
 have HBW:Hid (Below w.heap.size w W):=by rw [← hW];exact blo
 have HGO:=hidP (givenOk_any pa ja sa pc jc sc ps js ss over W (hp.out.below HBW.out) (hj.out.below HBW.out) (hs.out.below HBW.out))
 clear hW hp hj hs
 rw [decide_eq_false (fun h:sigF ps js ss=(0,0)∧0≤over∧over≤100000=>hbad.out h.1)] at HGO
 clear hbad
 go_wp2_with (go_at_call 37;refine HGO.out.mono ?_;rintro e w1 ⟨rfl,hb1⟩)
 go_ret
 exact ⟨rfl,HBW.out.trans (hb1.mono HBW.out.size)⟩
theorem implCheck_bad (pa ja sa ra ta:Option Addr)(pc jc sc nr rc nt tc:Nat)(ps:List MPiece)(js:List MJoint)(ss:List MPiece)(over:Int)(w:World)(hp:Hid (PiecesAt w pa ps))(hj:Hid (JointsAt w ja js))(hs:Hid (PiecesAt w sa ss))(hbad:Hid (sigF ps js ss≠(0,0)))(hg:Hid (w.cell? ⟨0,0,none⟩=some (.iface 240 (.agg #[.pointer (some ⟨4,97,none⟩)])))):
  Calls Tryz.prog 12 #[.agg #[.slice pa ps.length pc,.slice ja js.length jc],.slice sa ss.length sc,.int .i64 over,.slice ra nr rc,.slice ta nt tc] w fun e w'=>e = .returned (.agg #[.int .i64 1,.int .i64 0,.int .i64 0])∧Below w.heap.size w w':=
 implCheck_of pa ja sa ra ta pc jc sc rc tc ps.length js.length ss.length nr nt over (some (1,none)) w (fun u hu=>checkAll_bad pa ja sa ra ta pc jc sc nr rc nt tc ps js ss over u (hp.out.below hu) (hj.out.below hu) (hs.out.below hu) hbad) hg
end Go.Proofs.YtmkdgnmmebldgaaGreatDoor
