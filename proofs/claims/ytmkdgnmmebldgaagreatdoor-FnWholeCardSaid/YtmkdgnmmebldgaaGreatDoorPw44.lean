import Derived.Test.YtmkdgnmmebldgaaGreatDoorPt10
set_option maxRecDepth 100000
set_option maxHeartbeats 8000000
namespace Go.Proofs.YtmkdgnmmebldgaaGreatDoor
open Go.RowKit Go.Deep
theorem l1across_3_0 (s:ByteArray)(x0 x1 x2:MEnd)(ea:Option Addr)(ec:Nat)(w:World)(he:Hid (EndsAt w ea [x0,x1,x2])):
  Calls Tryz.prog 48 #[.agg #[.int .i64 3,.string s,.slice ea 3 ec],.int .i64 0] w (AcrossPost w [x1,x2]):=by
 obtain ⟨b,off,rfl,hpc⟩:=he.out.2.resolve_left (fun h=>by simp at h)
 obtain ⟨c0,d0⟩:=hpc 0 (by simp)
 obtain ⟨c1,d1⟩:=hpc 1 (by simp)
 obtain ⟨c2,d2⟩:=hpc 2 (by simp)
 simp only [Nat.zero_mul,Nat.one_mul,Nat.reduceMul,Nat.add_zero,List.getElem_cons_zero,List.getElem_cons_succ] at c0 d0 c1 d1 c2 d2;have hz:=cellLt c0;clear hpc
 go_enter Tryz.func48,Tryz.ntmps48
 go_wp2_with fail
 go_region
 all_goals
  go_wp2_with fail
  go_ret
  exact across_post rfl (endCells_2 (by simp [go_sem]) (by simp [go_sem]) (by simp [go_sem]) (by simp [go_sem])) blo
theorem l1across_3_1 (s:ByteArray)(x0 x1 x2:MEnd)(ea:Option Addr)(ec:Nat)(w:World)(he:Hid (EndsAt w ea [x0,x1,x2])):
  Calls Tryz.prog 48 #[.agg #[.int .i64 3,.string s,.slice ea 3 ec],.int .i64 1] w (AcrossPost w [x0]):=by
 obtain ⟨b,off,rfl,hpc⟩:=he.out.2.resolve_left (fun h=>by simp at h)
 obtain ⟨c0,d0⟩:=hpc 0 (by simp)
 obtain ⟨c1,d1⟩:=hpc 1 (by simp)
 obtain ⟨c2,d2⟩:=hpc 2 (by simp)
 simp only [Nat.zero_mul,Nat.one_mul,Nat.reduceMul,Nat.add_zero,List.getElem_cons_zero,List.getElem_cons_succ] at c0 d0 c1 d1 c2 d2;have hz:=cellLt c0;clear hpc
 go_enter Tryz.func48,Tryz.ntmps48
 go_wp2_with fail
 go_ret
 exact across_post rfl (endCells_1 (by simp [go_sem]) (by simp [go_sem])) blo
theorem l1across_3_2 (s:ByteArray)(x0 x1 x2:MEnd)(ea:Option Addr)(ec:Nat)(w:World)(he:Hid (EndsAt w ea [x0,x1,x2])):
  Calls Tryz.prog 48 #[.agg #[.int .i64 3,.string s,.slice ea 3 ec],.int .i64 2] w (AcrossPost w [x0]):=by
 obtain ⟨b,off,rfl,hpc⟩:=he.out.2.resolve_left (fun h=>by simp at h)
 obtain ⟨c0,d0⟩:=hpc 0 (by simp)
 obtain ⟨c1,d1⟩:=hpc 1 (by simp)
 obtain ⟨c2,d2⟩:=hpc 2 (by simp)
 simp only [Nat.zero_mul,Nat.one_mul,Nat.reduceMul,Nat.add_zero,List.getElem_cons_zero,List.getElem_cons_succ] at c0 d0 c1 d1 c2 d2;have hz:=cellLt c0;clear hpc
 go_enter Tryz.func48,Tryz.ntmps48
 go_wp2_with fail
 go_ret
 exact across_post rfl (endCells_1 (by simp [go_sem]) (by simp [go_sem])) blo
end Go.Proofs.YtmkdgnmmebldgaaGreatDoor
