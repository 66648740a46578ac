import Derived.Test.YtmkdgnmmebldgaaMath
import Derived.RegionTactic
import Derived.Deep.RegionWith
import Derived.Deep.QuietTactic
import Derived.BigQuiet
namespace Go.Proofs.Ytmkdgnmmebldgaa
open Go.RowKit

section
variable {P : Program} (w : World)
theorem run_typeAssert_hit (xt t : TypeId) (v : Value) (fs : Array Field) (hu : P.underlying t = some (.struct fs)) :
    (Instr.typeAssert (.iface t v) xt t true).run P w = .ok (.tuple #[v, .bool true]) w := by
  simp [Instr.typeAssert, run_underlying hu]
theorem run_typeAssert_miss (xt t t' : TypeId) (v z : Value) (i : TypeInfo) (fs : Array Field) (hu : P.underlying t = some (.struct fs)) (hne : t' ≠ t) (hi : P.info? t = some i) (hz : i.zero = some z) :
    (Instr.typeAssert (.iface t' v) xt t true).run P w = .ok (.tuple #[z, .bool false]) w := by
  simp [Instr.typeAssert, run_underlying hu, hne, zeroValue, typeInfo, hi, hz]
end

theorem Try.zeroS : (Try.prog.info? 254).map (·.zero) = some (some (.agg #[])) := by kernel_rfl
theorem Try.zeroC : (Try.prog.info? 255).map (·.zero) = some (some (.agg #[])) := by kernel_rfl

theorem missS (w : World) (xt t' : TypeId) (hne : t' ≠ 254) : (Instr.typeAssert (.iface t' (.agg #[])) xt 254 true).run Try.prog w = .ok (.tuple #[.agg #[], .bool false]) w := by
  obtain ⟨i, hi, hz⟩ := Option.map_eq_some_iff.1 Try.zeroS
  exact run_typeAssert_miss w xt _ t' _ _ i _ Try.underlying254 hne hi hz
theorem missC (w : World) (xt t' : TypeId) (hne : t' ≠ 255) : (Instr.typeAssert (.iface t' (.agg #[])) xt 255 true).run Try.prog w = .ok (.tuple #[.agg #[], .bool false]) w := by
  obtain ⟨i, hi, hz⟩ := Option.map_eq_some_iff.1 Try.zeroC
  exact run_typeAssert_miss w xt _ t' _ _ i _ Try.underlying255 hne hi hz

/-- What a kind stands for: the type's number. -/
def kindT (k : Int) : Nat := if k = 1 then 252 else if k = 2 then 253 else if k = 3 then 254 else 255

set_option maxHeartbeats 400000 in
theorem kindOf_1 (w : World) : Calls Try.prog 122 #[.int .i64 1] w fun e w' => e = .returned (.tuple #[.iface 252 (.agg #[]), .bool true]) ∧ w' = w := by
  go_enter Try.func122, Try.ntmps122
  go_wp2
  go_ret2
  exact ⟨rfl, rfl⟩
set_option maxHeartbeats 400000 in
theorem kindOf_2 (w : World) : Calls Try.prog 122 #[.int .i64 2] w fun e w' => e = .returned (.tuple #[.iface 253 (.agg #[]), .bool true]) ∧ w' = w := by
  go_enter Try.func122, Try.ntmps122
  go_wp2
  go_ret2
  exact ⟨rfl, rfl⟩
set_option maxHeartbeats 400000 in
theorem kindOf_3 (w : World) : Calls Try.prog 122 #[.int .i64 3] w fun e w' => e = .returned (.tuple #[.iface 254 (.agg #[]), .bool true]) ∧ w' = w := by
  go_enter Try.func122, Try.ntmps122
  go_wp2
  go_ret2
  exact ⟨rfl, rfl⟩
set_option maxHeartbeats 400000 in
theorem kindOf_4 (w : World) : Calls Try.prog 122 #[.int .i64 4] w fun e w' => e = .returned (.tuple #[.iface 255 (.agg #[]), .bool true]) ∧ w' = w := by
  go_enter Try.func122, Try.ntmps122
  go_wp2
  go_ret2
  exact ⟨rfl, rfl⟩
set_option maxHeartbeats 400000 in
theorem kindOf_no (k : Int) (h : inB k 1 4 = false) (w : World) : Calls Try.prog 122 #[.int .i64 k] w fun e w' => e = .returned (.tuple #[.nilIface, .bool false]) ∧ w' = w := by
  have h1 : (k == 1) = false ∧ (k == 2) = false ∧ (k == 3) = false ∧ (k == 4) = false := by
    unfold inB at h
    simp only [decide_eq_false_iff_not, beq_eq_false_iff_ne] at h ⊢
    omega
  obtain ⟨h1, h2, h3, h4⟩ := h1
  clear h
  go_enter Try.func122, Try.ntmps122
  go_wp2
  go_ret2
  exact ⟨rfl, rfl⟩

set_option maxHeartbeats 400000 in
theorem endCount_1 (w : World) : Calls Try.prog 206 #[.agg #[]] w fun e w' => e = .returned (.int .i64 1) ∧ Below w.heap.size w w' := by
  go_enter Try.func206, Try.ntmps206
  go_wp2
  go_ret
  exact ⟨rfl, (by repeat (first | exact Below.refl _ _ | assumption | refine Below.drew ?_ | refine bdrewN ?_ _ | refine Below.setCell ?_ (by first | omega | (simp; done) | (simp; omega)) _ | refine Below.alloc ?_ (by first | omega | (simp; done) | (simp; omega)) _))⟩
set_option maxHeartbeats 400000 in
theorem endCount_2 (w : World) : Calls Try.prog 208 #[.agg #[]] w fun e w' => e = .returned (.int .i64 2) ∧ Below w.heap.size w w' := by
  go_enter Try.func208, Try.ntmps208
  go_wp2
  go_ret
  exact ⟨rfl, (by repeat (first | exact Below.refl _ _ | assumption | refine Below.drew ?_ | refine bdrewN ?_ _ | refine Below.setCell ?_ (by first | omega | (simp; done) | (simp; omega)) _ | refine Below.alloc ?_ (by first | omega | (simp; done) | (simp; omega)) _))⟩
set_option maxHeartbeats 400000 in
theorem endCount_3 (w : World) : Calls Try.prog 210 #[.agg #[]] w fun e w' => e = .returned (.int .i64 3) ∧ Below w.heap.size w w' := by
  go_enter Try.func210, Try.ntmps210
  go_wp2
  go_ret
  exact ⟨rfl, (by repeat (first | exact Below.refl _ _ | assumption | refine Below.drew ?_ | refine bdrewN ?_ _ | refine Below.setCell ?_ (by first | omega | (simp; done) | (simp; omega)) _ | refine Below.alloc ?_ (by first | omega | (simp; done) | (simp; omega)) _))⟩
set_option maxHeartbeats 400000 in
theorem endCount_4 (w : World) : Calls Try.prog 212 #[.agg #[]] w fun e w' => e = .returned (.int .i64 4) ∧ Below w.heap.size w w' := by
  go_enter Try.func212, Try.ntmps212
  go_wp2
  go_ret
  exact ⟨rfl, (by repeat (first | exact Below.refl _ _ | assumption | refine Below.drew ?_ | refine bdrewN ?_ _ | refine Below.setCell ?_ (by first | omega | (simp; done) | (simp; omega)) _ | refine Below.alloc ?_ (by first | omega | (simp; done) | (simp; omega)) _))⟩

set_option maxRecDepth 100000 in
set_option maxHeartbeats 400000 in
theorem hasName_1 (w : World) : Calls Try.prog 166 #[.iface 252 (.agg #[])] w fun e w' => e = .returned (.bool false) ∧ w' = w := by
  have hs := missS w 202 252 (by decide)
  have hc := missC w 202 252 (by decide)
  go_enter Try.func166, Try.ntmps166
  go_wp2
  go_ret
  exact ⟨rfl, rfl⟩
set_option maxRecDepth 100000 in
set_option maxHeartbeats 400000 in
theorem hasName_2 (w : World) : Calls Try.prog 166 #[.iface 253 (.agg #[])] w fun e w' => e = .returned (.bool false) ∧ w' = w := by
  have hs := missS w 202 253 (by decide)
  have hc := missC w 202 253 (by decide)
  go_enter Try.func166, Try.ntmps166
  go_wp2
  go_ret
  exact ⟨rfl, rfl⟩
set_option maxRecDepth 100000 in
set_option maxHeartbeats 400000 in
theorem hasName_3 (w : World) : Calls Try.prog 166 #[.iface 254 (.agg #[])] w fun e w' => e = .returned (.bool true) ∧ w' = w := by
  have hs := run_typeAssert_hit (P := Try.prog) w 202 254 (.agg #[]) _ Try.underlying254
  have hc := missC w 202 254 (by decide)
  go_enter Try.func166, Try.ntmps166
  go_wp2
  go_ret
  exact ⟨rfl, rfl⟩
set_option maxRecDepth 100000 in
set_option maxHeartbeats 400000 in
theorem hasName_4 (w : World) : Calls Try.prog 166 #[.iface 255 (.agg #[])] w fun e w' => e = .returned (.bool true) ∧ w' = w := by
  have hs := missS w 202 255 (by decide)
  have hc := run_typeAssert_hit (P := Try.prog) w 202 255 (.agg #[]) _ Try.underlying255
  go_enter Try.func166, Try.ntmps166
  go_wp2
  go_ret
  exact ⟨rfl, rfl⟩

end Go.Proofs.Ytmkdgnmmebldgaa
