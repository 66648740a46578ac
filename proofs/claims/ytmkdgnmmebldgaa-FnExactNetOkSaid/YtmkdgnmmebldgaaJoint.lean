import Derived.Test.YtmkdgnmmebldgaaUses
namespace Go.Proofs.Ytmkdgnmmebldgaa
open Go.RowKit

set_option maxHeartbeats 1000000 in
theorem l1joint_any (pa ja : Option Addr) (pl pc jc : Nat) (js : List MJoint) (i : Nat) (hi : i < js.length) (w : World) (hj : Hid (JointsAt w ja js)) (hpl : pl ≤ maxLen) :
    Calls Try.prog 59 #[.agg #[.slice pa pl pc, .slice ja js.length jc], .int .i64 i] w fun e w' => e = .returned (.int .i64 (jointC js pl i js[i])) ∧ Below w.heap.size w w' := by
  have hl := hj.out.1
  unfold maxLen at hl
  obtain ⟨b1, off1, rfl, hpc1⟩ := hj.out.2.2.resolve_left (fun h => by rw [h] at hi; exact absurd hi (Nat.not_lt_zero _))
  have HPC := hidQ hpc1
  have HN := hidQ hj.out.2.1
  clear hj
  obtain ⟨c1, c2, ea, ec, c3, c4⟩ := hpc1 i hi
  have C4 := hidQ c4
  have hel := c4.1
  unfold maxLen at hel
  have hz1 : b1 < w.heap.size := cellLt c1
  clear hpc1 c4
  cases hk : inB js[i].kind 1 4
  · have HX := hidQ (jointC_3a (js := js) (np := pl) (i := i) hk)
    go_enter Try.func59, Try.ntmps59
    go_wp2_with (go_at_call 43; refine (l1in_any _ _ _ _).mono ?_; rintro e w' ⟨rfl, rfl⟩)
    go_ret
    exact ⟨ret_int HX.out.symm, (by repeat (first | exact Below.refl _ _ | assumption | refine Below.drew ?_ | refine bdrewN ?_ _ | refine Below.setCell ?_ (by first | omega | (simp; done) | (simp; omega)) _ | refine Below.alloc ?_ (by first | omega | (simp; done) | (simp; omega)) _))⟩
  · cases hk2 : ((js[i].ends.length : Int) == js[i].kind)
    · have HX := hidQ (jointC_3b (js := js) (np := pl) (i := i) hk2)
      go_enter Try.func59, Try.ntmps59
      go_wp2_with (go_at_call 43; refine (l1in_any _ _ _ _).mono ?_; rintro e w' ⟨rfl, rfl⟩)
      go_ret
      exact ⟨ret_int HX.out.symm, (by repeat (first | exact Below.refl _ _ | assumption | refine Below.drew ?_ | refine bdrewN ?_ _ | refine Below.setCell ?_ (by first | omega | (simp; done) | (simp; omega)) _ | refine Below.alloc ?_ (by first | omega | (simp; done) | (simp; omega)) _))⟩
    · go_enter Try.func59, Try.ntmps59
      go_wp2_with (go_at_call 43; refine (l1in_any _ _ _ _).mono ?_; rintro e w' ⟨rfl, rfl⟩)
      have HK := hidQ hk
      have HK2 := hidQ hk2
      have hbn : ((js[i].ends.length : Int) != js[i].kind) = false := by rw [bne, hk2]; rfl
      simp only [hbn]
      clear hk hk2 hbn
      generalize hW : (w.alloc (Obj.cells #[Value.slice pa pl pc, Value.slice (some ⟨b1, off1, none⟩) js.length jc] 26)).alloc (Obj.cells #[Value.int IntKind.i64 js[i].kind, Value.string js[i].name, Value.slice ea js[i].ends.length ec] 182) = W
      have e0 : W.cell? ⟨w.heap.size, 0, none⟩ = some (.slice pa pl pc) := by rw [← hW]; simp [go_sem]
      have e1 : W.cell? ⟨w.heap.size, 1, none⟩ = some (.slice (some ⟨b1, off1, none⟩) js.length jc) := by rw [← hW]; simp [go_sem]
      have g0 : W.cell? ⟨w.heap.size + 1, 0, none⟩ = some (.int .i64 js[i].kind) := by rw [← hW]; simp [go_sem]
      have g1 : W.cell? ⟨w.heap.size + 1, 1, none⟩ = some (.string js[i].name) := by rw [← hW]; simp [go_sem]
      have g2 : W.cell? ⟨w.heap.size + 1, 2, none⟩ = some (.slice ea js[i].ends.length ec) := by rw [← hW]; simp [go_sem]
      have hz : w.heap.size + 2 = W.heap.size := by rw [← hW]; simp
      have hbW : Below w.heap.size w W := by rw [← hW]; exact (by repeat (first | exact Below.refl _ _ | assumption | refine Below.drew ?_ | refine bdrewN ?_ _ | refine Below.setCell ?_ (by first | omega | (simp; done) | (simp; omega)) _ | refine Below.alloc ?_ (by first | omega | (simp; done) | (simp; omega)) _))
      clear hW c1 c2 c3
      go_loopw [29] (fun c wr => ∃ (m : Nat), m ≤ js[i].ends.length ∧ c = .int .i64 m ∧ Hid (∀ q (hq : q < js[i].ends.length), q < m → endB pl js[i].ends[q].piece js[i].ends[q].side = true) ∧ Below W.heap.size W wr) (fun c _ => js[i].ends.length - (intOf c).toNat)
      case atStart => exact ⟨0, Nat.zero_le _, rfl, (fun q _ h => absurd h (Nat.not_lt_zero q)), (by repeat (first | exact Below.refl _ _ | assumption | refine Below.drew ?_ | refine bdrewN ?_ _ | refine Below.setCell ?_ (by first | omega | (simp; done) | (simp; omega)) _ | refine Below.alloc ?_ (by first | omega | (simp; done) | (simp; omega)) _))⟩
      case round =>
        obtain ⟨m, hm, rfl, HQ, hb⟩ := hrel
        have hbs := hb.size
        have hz2 : w.heap.size + 1 < wr.heap.size := by omega
        have hz3 : w.heap.size < wr.heap.size := by omega
        have e0' := cell_later hb e0
        have e1' := cell_later hb e1
        have g0' := cell_later hb g0
        have g1' := cell_later hb g1
        by_cases hm' : m < js[i].ends.length
        · obtain ⟨b2, off2, rfl, hpc2⟩ := C4.out.2.resolve_left (fun h => by rw [h] at hm'; exact absurd hm' (Nat.not_lt_zero _))
          obtain ⟨d1, d2⟩ := ((hpc2.below hbW).below hb) m hm'
          clear hpc2
          go_wp2_with fail
          refine (l1end_any _ _ _ _ _ _ _ _ _ hpl).mono ?_
          rintro e w2 ⟨rfl, hb2⟩
          have hb3 : Below W.heap.size W w2 := Below.trans (by repeat (first | exact Below.refl _ _ | assumption | refine Below.drew ?_ | refine bdrewN ?_ _ | refine Below.setCell ?_ (by first | omega | (simp; done) | (simp; omega)) _ | refine Below.alloc ?_ (by first | omega | (simp; done) | (simp; omega)) _)) (hb2.mono (by simp; omega))
          clear hb2 d1 d2 e0' e1' g0' g1' hb
          cases hE : endB pl js[i].ends[m].piece js[i].ends[m].side
          · have HX := hidQ (jointC_3c (js := js) (np := pl) (i := i) m hm' hE)
            clear hE
            go_wp2_with fail
            go_ret
            exact ⟨ret_int HX.out.symm, hbW.trans (hb3.mono hbW.size)⟩
          · have HQ2 : Hid (∀ q (hq : q < js[i].ends.length), q < m + 1 → endB pl js[i].ends[q].piece js[i].ends[q].side = true) := by
              intro q hq hqm
              by_cases e : q < m
              · exact HQ.out q hq e
              · have : q = m := by omega
                subst this; exact hE
            clear hE HQ
            go_wp2_with fail
            go_roundw
            case rel => exact ⟨m + 1, by omega, by go_num, HQ2, hb3⟩
            case measure => simp [intOf]; omega
        · have H3 : Hid (ok3 pl js[i] = true) := ok3_of HK.out HK2.out (fun q hq => HQ.out q hq (by omega))
          clear HQ
          have hbF := hidQ (hbW.trans (hb.mono hbW.size))
          have HB := hidQ hb
          by_cases hk3 : js[i].kind < 3
          · by_cases hne : js[i].name = ⟨#[]⟩
            · have HX := hidQ (jointC_0a (js := js) (i := i) H3.out hk3 hne)
              rw [hne] at g1'
              clear hne
              go_wp2_with fail
              go_ret
              exact ⟨ret_int HX.out.symm, hbF.out⟩
            · have HX := hidQ (jointC_4a (js := js) (i := i) H3.out hk3 hne)
              have hne' := emptyS_ne hne
              go_wp2_with fail
              go_ret
              exact ⟨ret_int HX.out.symm, hbF.out⟩
          · have HK3 := hidQ hk3
            cases hnb : nameB js[i].name
            · have HX := hidQ (jointC_4b (js := js) (i := i) H3.out hk3 hnb)
              go_wp2_with (go_at_call 58; refine (l1name_any _ _ (HN.out _ (List.getElem_mem hi))).mono ?_; rintro e w' ⟨rfl, rfl⟩)
              go_ret
              exact ⟨ret_int HX.out.symm, hbF.out⟩
            · go_wp2_with (go_at_call 58; refine (l1name_any _ _ (HN.out _ (List.getElem_mem hi))).mono ?_; rintro e w' ⟨rfl, rfl⟩)
              have HNB := hidQ hnb
              clear hnb
              clear hb
              go_loopw [8] (fun c wr => ∃ (q : Nat), q ≤ i ∧ c = .int .i64 q ∧ Hid (∀ m (hm : m < js.length), m < q → js[m].name ≠ js[i].name) ∧ Below W.heap.size W wr) (fun c _ => i - (intOf c).toNat)
              case atStart => exact ⟨0, Nat.zero_le _, rfl, (fun q _ h => absurd h (Nat.not_lt_zero q)), HB.out⟩
              case round =>
                clear e0' e1' g0' g1' hbF hbs hz2 hz3
                obtain ⟨q, hq, rfl, HQ, hb⟩ := hrel
                have hbs := hb.size
                have hz2 : w.heap.size + 1 < wr.heap.size := by omega
                have hz3 : w.heap.size < wr.heap.size := by omega
                have e1' := cell_later hb e1
                have g1' := cell_later hb g1
                have hbF := hidQ (hbW.trans (hb.mono hbW.size))
                by_cases hq' : q < i
                · have hqj : q < js.length := by omega
                  obtain ⟨x1, c2, x2⟩ := ((HPC.out.below hbW).below hb) q hqj
                  clear x1 x2
                  by_cases hne : js[q].name = js[i].name
                  · have HX := hidQ (jointC_4c (js := js) (i := i) H3.out (by have := HK3.out; omega) (aheadB_hit hq' hqj hne))
                    rw [hne] at c2
                    clear hne
                    go_wp2_with fail
                    go_quiet (fail)
                    go_wp2_with fail
                    go_ret
                    exact ⟨ret_int HX.out.symm, (by have := hbF.out; exact (by repeat (first | exact Below.refl _ _ | assumption | refine Below.drew ?_ | refine bdrewN ?_ _ | refine Below.setCell ?_ (by first | omega | (simp; done) | (simp; omega)) _ | refine Below.alloc ?_ (by first | omega | (simp; done) | (simp; omega)) _)))⟩
                  · have HQ2 : Hid (∀ m (hm : m < js.length), m < q + 1 → js[m].name ≠ js[i].name) := by
                      intro m hm hmq
                      by_cases e : m < q
                      · exact HQ.out m hm e
                      · have : m = q := by omega
                        subst this; exact hne
                    have hne' := beqS_ne hne
                    clear hne HQ
                    go_wp2_with fail
                    go_quiet (fail)
                    go_wp2_with fail
                    go_roundw
                    case rel => exact ⟨q + 1, by omega, by go_num, HQ2, (by repeat (first | exact Below.refl _ _ | assumption | refine Below.drew ?_ | refine bdrewN ?_ _ | refine Below.setCell ?_ (by first | omega | (simp; done) | (simp; omega)) _ | refine Below.alloc ?_ (by first | omega | (simp; done) | (simp; omega)) _))⟩
                    case measure => simp [intOf]; omega
                · have HX := hidQ (jointC_0b (js := js) (i := i) H3.out (by have := HK3.out; omega) HNB.out (aheadB_none (fun m hm hmi => HQ.out m hm (by omega))))
                  go_wp2_with fail
                  go_ret
                  exact ⟨ret_int HX.out.symm, hbF.out⟩

end Go.Proofs.Ytmkdgnmmebldgaa
