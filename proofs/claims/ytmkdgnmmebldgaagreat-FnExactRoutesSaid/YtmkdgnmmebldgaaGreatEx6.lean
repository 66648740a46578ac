import Derived.Test.YtmkdgnmmebldgaaGreatEx2
namespace Go.Proofs.YtmkdgnmmebldgaaGreat
open Go.RowKit

theorem meth_4 (w : World) : (method 340 160 (.agg #[]) "loop.example/lockbar/impl.endCount").run Tryz.prog w = .ok (159, .agg #[]) w := by kernel_rfl

set_option maxHeartbeats 1000000 in
theorem jointOk_4 (s : ByteArray) (es : List MEnd) (ea : Option Addr) (ec np : Nat) (w : World) (he : Hid (EndsAt w ea es)) (hnp : np ≤ maxLen) :
    Calls Tryz.prog 121 #[.agg #[.int .i64 4, .string s, .slice ea es.length ec], .int .i64 np] w fun e w' => e = .returned (.bool (ok3 np ⟨4, s, es⟩)) ∧ Below w.heap.size w w' := by
  have hel := he.out.1
  unfold maxLen at hel hnp
  have hm := meth_4
  cases hk2 : ((es.length : Int) == 4)
  · have HX := hidQ (ok3_len (np := np) (j := ⟨4, s, es⟩) hk2)
    go_enter Tryz.func121, Tryz.ntmps121
    go_wp2_with (go_at_call 64; refine (kindOf_4 _).mono ?_; rintro e w' ⟨rfl, rfl⟩)
    go_region_with (go_at_call 159; refine (endCount_4 _).mono ?_; rintro e w2 ⟨rfl, hb2⟩; have hc2 := bcellK hb2)
    all_goals
      go_wp2_with fail
      go_ret
      exact ⟨ret_bool HX.out.symm, Below.trans (by repeat (first | exact Below.refl _ _ | assumption | refine Below.drew ?_ | refine bdrewN ?_ _ | refine Below.setCell ?_ (by first | omega | (simp; done) | (simp; omega)) _ | refine Below.alloc ?_ (by first | omega | (simp; done) | (simp; omega)) _)) (hb2.mono (by simp))⟩
  · have HK2 := hidQ hk2
    go_enter Tryz.func121, Tryz.ntmps121
    go_wp2_with (go_at_call 64; refine (kindOf_4 _).mono ?_; rintro e w' ⟨rfl, rfl⟩)
    go_region_with (go_at_call 159; refine (endCount_4 _).mono ?_; rintro e w2 ⟨rfl, hb2⟩; have hc2 := bcellK hb2)
    all_goals
      have hbn : ((es.length : Int) != 4) = false := by rw [bne, HK2.out]; rfl
      simp only [hbn]
      have hb3 : Below w.heap.size w w2 := Below.trans (by repeat (first | exact Below.refl _ _ | assumption | refine Below.drew ?_ | refine bdrewN ?_ _ | refine Below.setCell ?_ (by first | omega | (simp; done) | (simp; omega)) _ | refine Below.alloc ?_ (by first | omega | (simp; done) | (simp; omega)) _)) (hb2.mono (by simp))
      clear hbn hm hk2
      go_wp2_with fail
      clear hb2 hc2
      go_loopw [28] (fun c wr => ∃ (m : Nat), m ≤ es.length ∧ c = .int .i64 m ∧ Hid (∀ q (hq : q < es.length), q < m → endB np es[q].piece es[q].side = true) ∧ Below w.heap.size w wr) (fun c _ => es.length - (intOf c).toNat)
      case atStart => exact ⟨0, Nat.zero_le _, rfl, (fun q _ h => absurd h (Nat.not_lt_zero q)), hb3⟩
      case round =>
        clear hb3
        obtain ⟨m, hm, rfl, HQ, hb⟩ := hrel
        have hbs := hb.size
        by_cases hm' : m < es.length
        · obtain ⟨b2, off2, rfl, hpc2⟩ := he.out.2.resolve_left (fun h => by rw [h] at hm'; exact absurd hm' (Nat.not_lt_zero _))
          obtain ⟨d1, d2⟩ := (hpc2.below hb) m hm'
          clear hpc2
          cases hE : endB np es[m].piece es[m].side
          · have HX := hidQ (ok3_end (j := ⟨4, s, es⟩) m hm' hE)
            have hcs : inB es[m].piece 0 ((np : Int) - 1) = false ∨ inB es[m].piece 0 ((np : Int) - 1) = true ∧ inB es[m].side 0 1 = false := by
              unfold endB at hE
              revert hE
              cases inB es[m].piece 0 ((np : Int) - 1) <;> simp
            clear hE
            rcases hcs with q1 | ⟨q1, q2⟩
            all_goals
              go_wp2_with (go_at_call 63; refine (within_any _ _ _ _).mono ?_; rintro e w' ⟨rfl, rfl⟩)
              go_ret
              exact ⟨ret_bool HX.out.symm, (by repeat (first | exact Below.refl _ _ | assumption | refine Below.drew ?_ | refine bdrewN ?_ _ | refine Below.setCell ?_ (by first | omega | (simp; done) | (simp; omega)) _ | refine Below.alloc ?_ (by first | omega | (simp; done) | (simp; omega)) _))⟩
          · have HQ2 : Hid (∀ q (hq : q < es.length), q < m + 1 → endB np es[q].piece es[q].side = true) := by
              intro q hq hqm
              by_cases e : q < m
              · exact HQ.out q hq e
              · have : q = m := by omega
                subst this; exact hE
            have q1 : inB es[m].piece 0 ((np : Int) - 1) = true := by
              unfold endB at hE; revert hE; cases inB es[m].piece 0 ((np : Int) - 1) <;> simp
            have q2 : inB es[m].side 0 1 = true := by
              unfold endB at hE; revert hE; cases inB es[m].side 0 1 <;> simp
            clear hE HQ
            go_wp2_with (go_at_call 63; refine (within_any _ _ _ _).mono ?_; rintro e w' ⟨rfl, rfl⟩)
            go_roundw
            case rel => exact ⟨m + 1, by omega, by go_num, HQ2, (by repeat (first | exact Below.refl _ _ | assumption | refine Below.drew ?_ | refine bdrewN ?_ _ | refine Below.setCell ?_ (by first | omega | (simp; done) | (simp; omega)) _ | refine Below.alloc ?_ (by first | omega | (simp; done) | (simp; omega)) _))⟩
            case measure => simp [intOf]; omega
        · have HX : Hid (ok3 np ⟨4, s, es⟩ = true) := ok3_of (by rfl) HK2.out (fun q hq => HQ.out q hq (by have hq2 : q < es.length := hq; omega))
          clear HQ
          go_wp2_with fail
          go_ret
          exact ⟨ret_bool HX.out.symm, hb⟩

end Go.Proofs.YtmkdgnmmebldgaaGreat
