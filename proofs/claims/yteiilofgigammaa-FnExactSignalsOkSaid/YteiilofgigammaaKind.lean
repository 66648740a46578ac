import Derived.Test.YteiilofgigammaaMath
import Derived.RegionTactic
import Derived.Deep.RegionWith
import Derived.Deep.QuietTactic
import Derived.BigQuiet
namespace Go.Proofs.Yteiilofgigammaa
open Go.RowKit

section
variable {P : Program} (w : World)
theorem run_typeAssert_hit (xt t : TypeId) (v : Value) (fs : Array Field) (hu : P.underlying t = some (.struct fs)) :
    (Instr.typeAssert (.iface t v) xt t true).run P w = .ok (.tuple #[v, .bool true]) w := by
  simp [Instr.typeAssert, run_underlying hu]
theorem run_typeAssert_miss (xt t t' : TypeId) (v z : Value) (i : TypeInfo) (fs : Array Field) (hu : P.underlying t = some (.struct fs)) (hne : t' ≠ t) (hi : P.info? t = some i) (hz : i.zero = some z) :
    (Instr.typeAssert (.iface t' v) xt t true).run P w = .ok (.tuple #[z, .bool false]) w := by
  simp [Instr.typeAssert, run_underlying hu, hne, zeroValue, typeInfo, hi, hz]
end

theorem Try.zeroS : (Try.prog.info? 170).map (·.zero) = some (some (.agg #[])) := by kernel_rfl
theorem Try.zeroC : (Try.prog.info? 171).map (·.zero) = some (some (.agg #[])) := by kernel_rfl

theorem missS (w : World) (xt t' : TypeId) (hne : t' ≠ 170) : (Instr.typeAssert (.iface t' (.agg #[])) xt 170 true).run Try.prog w = .ok (.tuple #[.agg #[], .bool false]) w := by
  obtain ⟨i, hi, hz⟩ := Option.map_eq_some_iff.1 Try.zeroS
  exact run_typeAssert_miss w xt _ t' _ _ i _ Try.underlying170 hne hi hz
theorem missC (w : World) (xt t' : TypeId) (hne : t' ≠ 171) : (Instr.typeAssert (.iface t' (.agg #[])) xt 171 true).run Try.prog w = .ok (.tuple #[.agg #[], .bool false]) w := by
  obtain ⟨i, hi, hz⟩ := Option.map_eq_some_iff.1 Try.zeroC
  exact run_typeAssert_miss w xt _ t' _ _ i _ Try.underlying171 hne hi hz

/-- What a kind stands for: the type's number. -/
def kindT (k : Int) : Nat := if k = 1 then 168 else if k = 2 then 169 else if k = 3 then 170 else 171

set_option maxHeartbeats 400000 in
theorem kindOf_1 (w : World) : Calls Try.prog 57 #[.int .i64 1] w fun e w' => e = .returned (.tuple #[.iface 168 (.agg #[]), .bool true]) ∧ w' = w := by
  go_enter Try.func57, Try.ntmps57
  go_wp2
  go_ret2
  exact ⟨rfl, rfl⟩
set_option maxHeartbeats 400000 in
theorem kindOf_2 (w : World) : Calls Try.prog 57 #[.int .i64 2] w fun e w' => e = .returned (.tuple #[.iface 169 (.agg #[]), .bool true]) ∧ w' = w := by
  go_enter Try.func57, Try.ntmps57
  go_wp2
  go_ret2
  exact ⟨rfl, rfl⟩
set_option maxHeartbeats 400000 in
theorem kindOf_3 (w : World) : Calls Try.prog 57 #[.int .i64 3] w fun e w' => e = .returned (.tuple #[.iface 170 (.agg #[]), .bool true]) ∧ w' = w := by
  go_enter Try.func57, Try.ntmps57
  go_wp2
  go_ret2
  exact ⟨rfl, rfl⟩
set_option maxHeartbeats 400000 in
theorem kindOf_4 (w : World) : Calls Try.prog 57 #[.int .i64 4] w fun e w' => e = .returned (.tuple #[.iface 171 (.agg #[]), .bool true]) ∧ w' = w := by
  go_enter Try.func57, Try.ntmps57
  go_wp2
  go_ret2
  exact ⟨rfl, rfl⟩
set_option maxHeartbeats 400000 in
theorem kindOf_no (k : Int) (h : inB k 1 4 = false) (w : World) : Calls Try.prog 57 #[.int .i64 k] w fun e w' => e = .returned (.tuple #[.nilIface, .bool false]) ∧ w' = w := by
  have h1 : (k == 1) = false ∧ (k == 2) = false ∧ (k == 3) = false ∧ (k == 4) = false := by
    unfold inB at h
    simp only [decide_eq_false_iff_not, beq_eq_false_iff_ne] at h ⊢
    omega
  obtain ⟨h1, h2, h3, h4⟩ := h1
  clear h
  go_enter Try.func57, Try.ntmps57
  go_wp2
  go_ret2
  exact ⟨rfl, rfl⟩

set_option maxHeartbeats 400000 in
theorem endCount_1 (w : World) : Calls Try.prog 136 #[.agg #[]] w fun e w' => e = .returned (.int .i64 1) ∧ Below w.heap.size w w' := by
  go_enter Try.func136, Try.ntmps136
  go_wp2
  go_ret
  exact ⟨rfl, (by repeat (first | exact Below.refl _ _ | assumption | refine Below.drew ?_ | refine bdrewN ?_ _ | refine Below.setCell ?_ (by first | omega | (simp; done) | (simp; omega)) _ | refine Below.alloc ?_ (by first | omega | (simp; done) | (simp; omega)) _))⟩
set_option maxHeartbeats 400000 in
theorem endCount_2 (w : World) : Calls Try.prog 138 #[.agg #[]] w fun e w' => e = .returned (.int .i64 2) ∧ Below w.heap.size w w' := by
  go_enter Try.func138, Try.ntmps138
  go_wp2
  go_ret
  exact ⟨rfl, (by repeat (first | exact Below.refl _ _ | assumption | refine Below.drew ?_ | refine bdrewN ?_ _ | refine Below.setCell ?_ (by first | omega | (simp; done) | (simp; omega)) _ | refine Below.alloc ?_ (by first | omega | (simp; done) | (simp; omega)) _))⟩
set_option maxHeartbeats 400000 in
theorem endCount_3 (w : World) : Calls Try.prog 140 #[.agg #[]] w fun e w' => e = .returned (.int .i64 3) ∧ Below w.heap.size w w' := by
  go_enter Try.func140, Try.ntmps140
  go_wp2
  go_ret
  exact ⟨rfl, (by repeat (first | exact Below.refl _ _ | assumption | refine Below.drew ?_ | refine bdrewN ?_ _ | refine Below.setCell ?_ (by first | omega | (simp; done) | (simp; omega)) _ | refine Below.alloc ?_ (by first | omega | (simp; done) | (simp; omega)) _))⟩
set_option maxHeartbeats 400000 in
theorem endCount_4 (w : World) : Calls Try.prog 142 #[.agg #[]] w fun e w' => e = .returned (.int .i64 4) ∧ Below w.heap.size w w' := by
  go_enter Try.func142, Try.ntmps142
  go_wp2
  go_ret
  exact ⟨rfl, (by repeat (first | exact Below.refl _ _ | assumption | refine Below.drew ?_ | refine bdrewN ?_ _ | refine Below.setCell ?_ (by first | omega | (simp; done) | (simp; omega)) _ | refine Below.alloc ?_ (by first | omega | (simp; done) | (simp; omega)) _))⟩

set_option maxRecDepth 100000 in
set_option maxHeartbeats 400000 in
theorem hasName_1 (w : World) : Calls Try.prog 97 #[.iface 168 (.agg #[])] w fun e w' => e = .returned (.bool false) ∧ w' = w := by
  have hs := missS w 122 168 (by decide)
  have hc := missC w 122 168 (by decide)
  go_enter Try.func97, Try.ntmps97
  go_wp2
  go_ret
  exact ⟨rfl, rfl⟩
set_option maxRecDepth 100000 in
set_option maxHeartbeats 400000 in
theorem hasName_2 (w : World) : Calls Try.prog 97 #[.iface 169 (.agg #[])] w fun e w' => e = .returned (.bool false) ∧ w' = w := by
  have hs := missS w 122 169 (by decide)
  have hc := missC w 122 169 (by decide)
  go_enter Try.func97, Try.ntmps97
  go_wp2
  go_ret
  exact ⟨rfl, rfl⟩
set_option maxRecDepth 100000 in
set_option maxHeartbeats 400000 in
theorem hasName_3 (w : World) : Calls Try.prog 97 #[.iface 170 (.agg #[])] w fun e w' => e = .returned (.bool true) ∧ w' = w := by
  have hs := run_typeAssert_hit (P := Try.prog) w 122 170 (.agg #[]) _ Try.underlying170
  have hc := missC w 122 170 (by decide)
  go_enter Try.func97, Try.ntmps97
  go_wp2
  go_ret
  exact ⟨rfl, rfl⟩
set_option maxRecDepth 100000 in
set_option maxHeartbeats 400000 in
theorem hasName_4 (w : World) : Calls Try.prog 97 #[.iface 171 (.agg #[])] w fun e w' => e = .returned (.bool true) ∧ w' = w := by
  have hs := missS w 122 171 (by decide)
  have hc := run_typeAssert_hit (P := Try.prog) w 122 171 (.agg #[]) _ Try.underlying171
  go_enter Try.func97, Try.ntmps97
  go_wp2
  go_ret
  exact ⟨rfl, rfl⟩

end Go.Proofs.Yteiilofgigammaa
