import Derived.Test.YtmkdgnmmebldgaaMath
import Derived.RegionTactic
import Derived.Deep.RegionWith
import Derived.Deep.QuietTactic
import Derived.BigQuiet
namespace Go.Proofs.Ytmkdgnmmebldgaa
open Go.RowKit

theorem bcell' {W w1 : World} (hb : Below W.heap.size W w1) : (∀ b o, b < W.heap.size → w1.cell? ⟨b, o, none⟩ = W.cell? ⟨b, o, none⟩) :=
  fun b o h => hb.cell (p := ⟨b, o, none⟩) h

set_option maxHeartbeats 1000000 in
theorem l1uses_any (pa ja : Option Addr) (pl pc jc : Nat) (js : List MJoint) (p s : Int) (w : World) (hj : Hid (JointsAt w ja js)) (hn : endsNo js ≤ 1000000) :
    Calls Try.prog 60 #[.agg #[.slice pa pl pc, .slice ja js.length jc], .agg #[.int .i64 p, .int .i64 s]] w fun e w' => e = .returned (.int .i64 (uses js p s)) ∧ Below w.heap.size w w' := by
  have hl := hj.out.1
  unfold maxLen at hl
  have HU : Hid (∀ k, uses (js.take k) p s ≤ 1000000) := fun k => Nat.le_trans (uses_le js p s k) hn
  clear hn
  go_enter Try.func60, Try.ntmps60
  go_wp2_with fail
  generalize hW : (w.alloc (Obj.cells #[Value.slice pa pl pc, Value.slice ja js.length jc] 26)).alloc (Obj.cells #[Value.int IntKind.i64 p, Value.int IntKind.i64 s] 139) = W
  have e0 : W.cell? ⟨w.heap.size + 1, 0, none⟩ = some (.int .i64 p) := by rw [← hW]; simp [go_sem]
  have e1 : W.cell? ⟨w.heap.size + 1, 1, none⟩ = some (.int .i64 s) := by rw [← hW]; simp [go_sem]
  have hz : w.heap.size + 2 = W.heap.size := by rw [← hW]; simp
  have hbW : Below w.heap.size w W := by rw [← hW]; exact (by repeat (first | exact Below.refl _ _ | assumption | refine Below.drew ?_ | refine bdrewN ?_ _ | refine Below.setCell ?_ (by first | omega | (simp; done) | (simp; omega)) _ | refine Below.alloc ?_ (by first | omega | (simp; done) | (simp; omega)) _))
  clear hW
  go_loopw [5, 13] (fun c i wr => ∃ (k : Nat), k ≤ js.length ∧ i = .int .i64 k ∧ c = .int .i64 (uses (js.take k) p s) ∧ Below W.heap.size W wr) (fun _ i _ => js.length - (intOf i).toNat)
  case atStart => exact ⟨0, Nat.zero_le _, rfl, rfl, (by repeat (first | exact Below.refl _ _ | assumption | refine Below.drew ?_ | refine bdrewN ?_ _ | refine Below.setCell ?_ (by first | omega | (simp; done) | (simp; omega)) _ | refine Below.alloc ?_ (by first | omega | (simp; done) | (simp; omega)) _))⟩
  case round =>
    obtain ⟨k, hk, rfl, rfl, hb⟩ := hrel
    by_cases hk' : k < js.length
    · obtain ⟨b1, off1, rfl, hpc1⟩ := hj.out.2.2.resolve_left (fun h => by rw [h] at hk'; exact absurd hk' (Nat.not_lt_zero _))
      obtain ⟨c1, c2, ea, ec, c3, c4⟩ := (hpc1.below hbW) k hk'
      have C4 := hidQ c4
      replace c1 := cell_later hb c1
      replace c2 := cell_later hb c2
      replace c3 := cell_later hb c3
      have hel := c4.1
      unfold maxLen at hel
      clear hpc1 c4
      have hbs := hb.size
      have hu1 := HU.out k
      have hu2 := HU.out (k + 1)
      have HU2 : Hid (uses (js.take (k + 1)) p s = uses (js.take k) p s + usesIn js[k].ends p s) := uses_succ js p s k hk'
      have hu3 : usesIn js[k].ends p s ≤ 1000000 := by have := HU2.out; omega
      have HM : Hid (∀ m, usesIn (js[k].ends.take m) p s ≤ usesIn js[k].ends p s) := fun m => (List.take_sublist m js[k].ends).countP_le
      go_wp2_with fail
      go_loopw [5, 20] (fun c i wr2 => ∃ (m : Nat), m ≤ js[k].ends.length ∧ i = .int .i64 m ∧ c = .int .i64 ((uses (js.take k) p s : Int) + (usesIn (js[k].ends.take m) p s : Int)) ∧ Below W.heap.size W wr2) (fun _ i _ => js[k].ends.length - (intOf i).toNat)
      case atStart => exact ⟨0, Nat.zero_le _, rfl, (congrArg (Value.int IntKind.i64) (Int.add_zero _)).symm, (by repeat (first | exact Below.refl _ _ | assumption | refine Below.drew ?_ | refine bdrewN ?_ _ | refine Below.setCell ?_ (by first | omega | (simp; done) | (simp; omega)) _ | refine Below.alloc ?_ (by first | omega | (simp; done) | (simp; omega)) _))⟩
      case round =>
        clear c1 c2 c3 hb hbs
        obtain ⟨m, hm, rfl, rfl, hb⟩ := hrel
        have hbs := hb.size
        have hu4 := HM.out m
        by_cases hm' : m < js[k].ends.length
        · obtain ⟨b2, off2, rfl, hpc2⟩ := C4.out.2.resolve_left (fun h => by rw [h] at hm'; exact absurd hm' (Nat.not_lt_zero _))
          obtain ⟨d1, d2⟩ := (hpc2.below hb) m hm'
          have hz2 : w.heap.size + 1 < _ := Nat.lt_of_lt_of_le (by omega : w.heap.size + 1 < W.heap.size) hb.size
          have f0 := cell_later hb e0
          have f1 := cell_later hb e1
          clear hpc2
          have HS : Hid (usesIn (js[k].ends.take (m + 1)) p s = usesIn (js[k].ends.take m) p s + if (js[k].ends[m].piece == p && js[k].ends[m].side == s) = true then 1 else 0) := usesIn_succ _ p s m hm'
          cases h1 : (js[k].ends[m].piece == p) <;> cases h2 : (js[k].ends[m].side == s)
          all_goals
            have HS2 := HS.out
            rw [h1, h2] at HS2
            simp at HS2
            have HS3 := hidQ HS2
            clear HS HS2
            go_wp2_with fail
            go_roundw
            case rel => exact ⟨m + 1, by omega, by go_num, by rw [HS3.out] <;> go_num, (by repeat (first | exact Below.refl _ _ | assumption | refine Below.drew ?_ | refine bdrewN ?_ _ | refine Below.setCell ?_ (by first | omega | (simp; done) | (simp; omega)) _ | refine Below.alloc ?_ (by first | omega | (simp; done) | (simp; omega)) _))⟩
            case measure => simp [intOf]; omega
        · have HX : Hid ((uses (js.take k) p s : Int) + (usesIn (js[k].ends.take m) p s : Int) = (uses (js.take (k + 1)) p s : Int)) := by
            have := HU2.out
            rw [List.take_of_length_le (l := js[k].ends) (by omega)]
            unfold Hid
            omega
          go_wp2_with fail
          go_roundw
          case rel => exact ⟨k + 1, by omega, by go_num, by rw [HX.out], hb⟩
          case measure => simp [intOf]; omega
    · have HX : Hid (js.take k = js) := List.take_of_length_le (by omega)
      go_wp2_with fail
      go_ret
      exact ⟨ret_int (by rw [HX.out]), hbW.trans (hb.mono hbW.size)⟩

end Go.Proofs.Ytmkdgnmmebldgaa
