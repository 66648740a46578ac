import Derived.Test.YtkdmfmllmndolaaMath
import Derived.RegionTactic
import Derived.Deep.RegionWith
import Derived.Deep.QuietTactic
import Derived.BigQuiet
namespace Go.Proofs.Ytkdmfmllmndolaa
open Go.RowKit

section
variable {P : Program} (w : World)
theorem run_typeAssert_hit (xt t : TypeId) (v : Value) (fs : Array Field) (hu : P.underlying t = some (.struct fs)) :
    (Instr.typeAssert (.iface t v) xt t true).run P w = .ok (.tuple #[v, .bool true]) w := by
  simp [Instr.typeAssert, run_underlying hu]
theorem run_typeAssert_miss (xt t t' : TypeId) (v z : Value) (i : TypeInfo) (fs : Array Field) (hu : P.underlying t = some (.struct fs)) (hne : t' ≠ t) (hi : P.info? t = some i) (hz : i.zero = some z) :
    (Instr.typeAssert (.iface t' v) xt t true).run P w = .ok (.tuple #[z, .bool false]) w := by
  simp [Instr.typeAssert, run_underlying hu, hne, zeroValue, typeInfo, hi, hz]
end

theorem Try.zeroS : (Try.prog.info? 159).map (·.zero) = some (some (.agg #[])) := by kernel_rfl
theorem Try.zeroC : (Try.prog.info? 160).map (·.zero) = some (some (.agg #[])) := by kernel_rfl

theorem missS (w : World) (xt t' : TypeId) (hne : t' ≠ 159) : (Instr.typeAssert (.iface t' (.agg #[])) xt 159 true).run Try.prog w = .ok (.tuple #[.agg #[], .bool false]) w := by
  obtain ⟨i, hi, hz⟩ := Option.map_eq_some_iff.1 Try.zeroS
  exact run_typeAssert_miss w xt _ t' _ _ i _ Try.underlying159 hne hi hz
theorem missC (w : World) (xt t' : TypeId) (hne : t' ≠ 160) : (Instr.typeAssert (.iface t' (.agg #[])) xt 160 true).run Try.prog w = .ok (.tuple #[.agg #[], .bool false]) w := by
  obtain ⟨i, hi, hz⟩ := Option.map_eq_some_iff.1 Try.zeroC
  exact run_typeAssert_miss w xt _ t' _ _ i _ Try.underlying160 hne hi hz

/-- What a kind stands for: the type's number. -/
def kindT (k : Int) : Nat := if k = 1 then 157 else if k = 2 then 158 else if k = 3 then 159 else 160

set_option maxHeartbeats 400000 in
theorem kindOf_1 (w : World) : Calls Try.prog 70 #[.int .i64 1] w fun e w' => e = .returned (.tuple #[.iface 157 (.agg #[]), .bool true]) ∧ w' = w := by
  go_enter Try.func70, Try.ntmps70
  go_wp2
  go_ret2
  exact ⟨rfl, rfl⟩
set_option maxHeartbeats 400000 in
theorem kindOf_2 (w : World) : Calls Try.prog 70 #[.int .i64 2] w fun e w' => e = .returned (.tuple #[.iface 158 (.agg #[]), .bool true]) ∧ w' = w := by
  go_enter Try.func70, Try.ntmps70
  go_wp2
  go_ret2
  exact ⟨rfl, rfl⟩
set_option maxHeartbeats 400000 in
theorem kindOf_3 (w : World) : Calls Try.prog 70 #[.int .i64 3] w fun e w' => e = .returned (.tuple #[.iface 159 (.agg #[]), .bool true]) ∧ w' = w := by
  go_enter Try.func70, Try.ntmps70
  go_wp2
  go_ret2
  exact ⟨rfl, rfl⟩
set_option maxHeartbeats 400000 in
theorem kindOf_4 (w : World) : Calls Try.prog 70 #[.int .i64 4] w fun e w' => e = .returned (.tuple #[.iface 160 (.agg #[]), .bool true]) ∧ w' = w := by
  go_enter Try.func70, Try.ntmps70
  go_wp2
  go_ret2
  exact ⟨rfl, rfl⟩
set_option maxHeartbeats 400000 in
theorem kindOf_no (k : Int) (h : inB k 1 4 = false) (w : World) : Calls Try.prog 70 #[.int .i64 k] w fun e w' => e = .returned (.tuple #[.nilIface, .bool false]) ∧ w' = w := by
  have h1 : (k == 1) = false ∧ (k == 2) = false ∧ (k == 3) = false ∧ (k == 4) = false := by
    unfold inB at h
    simp only [decide_eq_false_iff_not, beq_eq_false_iff_ne] at h ⊢
    omega
  obtain ⟨h1, h2, h3, h4⟩ := h1
  clear h
  go_enter Try.func70, Try.ntmps70
  go_wp2
  go_ret2
  exact ⟨rfl, rfl⟩

set_option maxHeartbeats 400000 in
theorem endCount_1 (w : World) : Calls Try.prog 119 #[.agg #[]] w fun e w' => e = .returned (.int .i64 1) ∧ Below w.heap.size w w' := by
  go_enter Try.func119, Try.ntmps119
  go_wp2
  go_ret
  exact ⟨rfl, (by repeat (first | exact Below.refl _ _ | assumption | refine Below.drew ?_ | refine bdrewN ?_ _ | refine Below.setCell ?_ (by first | omega | (simp; done) | (simp; omega)) _ | refine Below.alloc ?_ (by first | omega | (simp; done) | (simp; omega)) _))⟩
set_option maxHeartbeats 400000 in
theorem endCount_2 (w : World) : Calls Try.prog 120 #[.agg #[]] w fun e w' => e = .returned (.int .i64 2) ∧ Below w.heap.size w w' := by
  go_enter Try.func120, Try.ntmps120
  go_wp2
  go_ret
  exact ⟨rfl, (by repeat (first | exact Below.refl _ _ | assumption | refine Below.drew ?_ | refine bdrewN ?_ _ | refine Below.setCell ?_ (by first | omega | (simp; done) | (simp; omega)) _ | refine Below.alloc ?_ (by first | omega | (simp; done) | (simp; omega)) _))⟩
set_option maxHeartbeats 400000 in
theorem endCount_3 (w : World) : Calls Try.prog 121 #[.agg #[]] w fun e w' => e = .returned (.int .i64 3) ∧ Below w.heap.size w w' := by
  go_enter Try.func121, Try.ntmps121
  go_wp2
  go_ret
  exact ⟨rfl, (by repeat (first | exact Below.refl _ _ | assumption | refine Below.drew ?_ | refine bdrewN ?_ _ | refine Below.setCell ?_ (by first | omega | (simp; done) | (simp; omega)) _ | refine Below.alloc ?_ (by first | omega | (simp; done) | (simp; omega)) _))⟩
set_option maxHeartbeats 400000 in
theorem endCount_4 (w : World) : Calls Try.prog 122 #[.agg #[]] w fun e w' => e = .returned (.int .i64 4) ∧ Below w.heap.size w w' := by
  go_enter Try.func122, Try.ntmps122
  go_wp2
  go_ret
  exact ⟨rfl, (by repeat (first | exact Below.refl _ _ | assumption | refine Below.drew ?_ | refine bdrewN ?_ _ | refine Below.setCell ?_ (by first | omega | (simp; done) | (simp; omega)) _ | refine Below.alloc ?_ (by first | omega | (simp; done) | (simp; omega)) _))⟩

set_option maxRecDepth 100000 in
set_option maxHeartbeats 400000 in
theorem hasName_1 (w : World) : Calls Try.prog 94 #[.iface 157 (.agg #[])] w fun e w' => e = .returned (.bool false) ∧ w' = w := by
  have hs := missS w 116 157 (by decide)
  have hc := missC w 116 157 (by decide)
  go_enter Try.func94, Try.ntmps94
  go_wp2
  go_ret
  exact ⟨rfl, rfl⟩
set_option maxRecDepth 100000 in
set_option maxHeartbeats 400000 in
theorem hasName_2 (w : World) : Calls Try.prog 94 #[.iface 158 (.agg #[])] w fun e w' => e = .returned (.bool false) ∧ w' = w := by
  have hs := missS w 116 158 (by decide)
  have hc := missC w 116 158 (by decide)
  go_enter Try.func94, Try.ntmps94
  go_wp2
  go_ret
  exact ⟨rfl, rfl⟩
set_option maxRecDepth 100000 in
set_option maxHeartbeats 400000 in
theorem hasName_3 (w : World) : Calls Try.prog 94 #[.iface 159 (.agg #[])] w fun e w' => e = .returned (.bool true) ∧ w' = w := by
  have hs := run_typeAssert_hit (P := Try.prog) w 116 159 (.agg #[]) _ Try.underlying159
  have hc := missC w 116 159 (by decide)
  go_enter Try.func94, Try.ntmps94
  go_wp2
  go_ret
  exact ⟨rfl, rfl⟩
set_option maxRecDepth 100000 in
set_option maxHeartbeats 400000 in
theorem hasName_4 (w : World) : Calls Try.prog 94 #[.iface 160 (.agg #[])] w fun e w' => e = .returned (.bool true) ∧ w' = w := by
  have hs := missS w 116 160 (by decide)
  have hc := run_typeAssert_hit (P := Try.prog) w 116 160 (.agg #[]) _ Try.underlying160
  go_enter Try.func94, Try.ntmps94
  go_wp2
  go_ret
  exact ⟨rfl, rfl⟩

end Go.Proofs.Ytkdmfmllmndolaa
