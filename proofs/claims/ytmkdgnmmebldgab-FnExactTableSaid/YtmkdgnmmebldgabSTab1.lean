import Derived.Test.YtmkdgnmmebldgabSTabM
namespace Go.Proofs.Ytmkdgnmmebldgab
open Go.RowKit Go.Deep

set_option maxRecDepth 8000 in
set_option maxHeartbeats 8000000 in
theorem tableOf_any (a : Option Addr) (cap : Nat) (cs : List MClaim) (w : World) (ha : Hid (ClaimsAt w a cs)) (hcap : cs.length ≤ cap) (hn3 : cs.length ≤ 300) :
    Calls Try.prog 38 #[.slice a cs.length cap, fnV 32] w fun e w' => ∃ x y cells, e = .returned (.slice x cs.length y) ∧ Hid (w'.ownsRow w.heap.size 24 1 (.slice x cs.length y) cs.length cells) ∧ Hid (RowsOwn w' w.heap.size cells (rowsM cs.length (exM cs))) ∧ Hid (RowsApart cells) ∧ Below w.heap.size w w' := by
  unfold fnV
  go_enter Try.func38, Try.ntmps38
  go_wp2_with fail
  go_loopw [5, 13] (fun v i wr => ∃ (k : Nat) (x : Option Addr) (y : Nat) (cells : List Value), k ≤ cs.length ∧ i = .int .i64 k ∧ v = .slice x k y ∧ Hid (wr.ownsRow w.heap.size 24 1 (.slice x k y) k cells) ∧ Hid (RowsOwn wr w.heap.size cells (List.replicate k (List.replicate cs.length 0))) ∧ Hid (RowsApart cells) ∧ Below w.heap.size w wr) (fun _ i _ => cs.length - (intOf i).toNat)
  case atStart => exact ⟨0, none, 0, [], Nat.zero_le _, rfl, rfl, World.ownsRow_nil _ _ _ _, ⟨rfl, fun i h => absurd h (by simp)⟩, rowsApart_nil, Below.refl _ _⟩
  case round =>
    obtain ⟨k, x, y, cells, hk, rfl, rfl, ho, hR, hAp, hb⟩ := hrel
    have hbs := hb.size
    by_cases hk' : k < cs.length
    · obtain ⟨w1, hm, hrow, hb1⟩ := make_zero wr cs.length (by omega)
      have hz1 : wr.heap.size < w1.heap.size := (hrow.lt wr.heap.size rfl).2
      have hb2 := hb.trans (hb1.mono hb.size)
      have HO1 := hidP (owns_below ho.out hb1)
      have HR1 := hidP (hR.out.below hb1)
      have HNew : Hid (w1.ownsRow w.heap.size 3 1 (.slice (some ⟨wr.heap.size, 0, none⟩) cs.length cs.length) (List.replicate cs.length (0 : Int)).length (flatN (List.replicate cs.length 0))) := by rw [List.length_replicate]; exact owns_base hrow hbs
      have HAp := hidP (hAp.out.push hR.out (Nat.le_refl _) (r := .slice (some ⟨wr.heap.size, 0, none⟩) cs.length cs.length) (fun b hb => by cases hb; exact Nat.le_refl _))
      have HRS : Hid (List.replicate k (List.replicate cs.length (0 : Int)) ++ [List.replicate cs.length 0] = List.replicate (k + 1) (List.replicate cs.length 0)) := List.replicate_succ'.symm
      have hbs2 := hb2.size
      clear ho hR hAp hrow hb1 hb hbs
      go_wp2_with (at_builtin; refine wpList_push rfl (.tmp 15) (.tmp 19) 42 rfl w.heap.size 24 _ 1 24 Try.underlying42 Try.infoInts rfl (by decide) (.slice x k y) k cells rfl HO1.out w1.heap.size rfl [.slice (some ⟨wr.heap.size, 0, none⟩) cs.length cs.length] rfl rfl (by simp [Value.oneCell']) (by unfold maxLen; omega) (by omega) (by omega) ?_; intro x' y' w4 ho4 hg4; have hb6 := push_below hb2 HO1.out hg4 (by omega); have HO4 := hidP ho4; have HR4 := hidP (HR1.out.push HO1.out HNew.out hg4); clear ho4 hg4)
      go_roundw
      case rel => exact ⟨k + 1, x', y', _, by omega, by go_num, rfl, HO4, by rw [← HRS.out]; exact HR4, HAp, hb6⟩
      case measure => simp [intOf]; omega
    · have hkk : k = cs.length := by omega
      have HR2 : Hid (RowsOwn wr w.heap.size cells (rowsM cs.length (cellM (exM cs) 0 0))) := by have h := hR.out; rw [hkk, rows_zero cs.length (exM cs)] at h; exact h
      have HO2 : Hid (wr.ownsRow w.heap.size 24 1 (.slice x cs.length y) cs.length cells) := by have h := ho.out; rw [hkk] at h; exact h
      have HB := hidP hb
      rw [hkk]
      clear hR ho hk hk' hkk
      go_wp2_with fail
      clear hb hbs
      go_loopw [24] (fun i wr => ∃ (i' : Nat), i' ≤ cs.length ∧ i = .int .i64 i' ∧ Hid (wr.ownsRow w.heap.size 24 1 (.slice x cs.length y) cs.length cells) ∧ Hid (RowsOwn wr w.heap.size cells (rowsM cs.length (cellM (exM cs) i' 0))) ∧ Below w.heap.size w wr) (fun i _ => cs.length - (intOf i).toNat)
      case atStart => exact ⟨0, Nat.zero_le _, rfl, HO2, HR2, HB.out⟩
      case round =>
        clear HO2 HR2 HB
        obtain ⟨i, hi, rfl, ho, hR, hb⟩ := hrel
        have hbs := hb.size
        by_cases hi' : i < cs.length
        · obtain ⟨b1, off1, hba, hpc⟩ := ha.out.2.resolve_left (fun h => by rw [h] at hi'; exact absurd hi' (Nat.not_lt_zero _))
          subst hba
          have HPC := hidP hpc
          clear hpc
          obtain ⟨d1, q1, l1⟩ := HPC.out i hi'
          have Q1 := q1.below hb
          obtain ⟨c0, c1, c2, c3, c4, c5, c6, c7, c8, c9, c10, c11⟩ := Q1
          have HL1 := hidP l1
          clear q1 l1
          go_wp2_with fail
          generalize hW2 : wr.alloc _ = W2
          have HBox : Hid (ClaimCell W2 wr.heap.size 0 d1 cs[i]) := by rw [← hW2]; exact claimCell_box wr d1 cs[i] _
          have hbw2 : Below wr.heap.size wr W2 := by rw [← hW2]; exact (by repeat (first | exact Below.refl _ _ | assumption | refine Below.drew ?_ | refine bdrewN ?_ _ | refine Below.setCell ?_ (by first | omega | (simp; done) | (simp; omega)) _ | refine Below.alloc ?_ (by first | omega | (simp; done) | (simp; omega)) _))
          have HO2 := hidP (owns_below ho.out hbw2)
          have HR2 := hidP (hR.out.below hbw2)
          have hb2 := hb.trans (hbw2.mono hb.size)
          have HB2 := hidP hb2
          have HLt : Hid (∀ (p : Nat) (v : Value) (b : Nat), cells[p]? = some v → v.ownBlock = some b → b < wr.heap.size) := by
            intro p v b hv hvb
            have hp : p < cs.length := by
              have h1 := (List.getElem?_eq_some_iff.1 hv).1
              have h2 := hR.out.1
              rw [rowsM_len] at h2
              omega
            obtain ⟨u, h1, h2⟩ := hR.out.2 p (by rw [rowsM_len]; exact hp)
            rw [hv] at h1
            cases h1
            exact (h2.lt b hvb).2
          clear hW2 ho hR hb hbs hbw2 c0 c1 c2 c3 c4 c5 c6 c7 c8 c9 c10 c11 hb2
          generalize wr.heap.size = Bi at HBox HLt ⊢
          go_loopw [34] (fun j wr => ∃ (m : Nat), m ≤ i + 1 ∧ j = .int .i64 m ∧ Hid (wr.ownsRow w.heap.size 24 1 (.slice x cs.length y) cs.length cells) ∧ Hid (RowsOwn wr w.heap.size cells (rowsM cs.length (cellM (exM cs) i m))) ∧ Hid (ClaimCell wr Bi 0 d1 cs[i]) ∧ Below w.heap.size w wr) (fun j _ => i + 1 - (intOf j).toNat)
          case atStart => exact ⟨0, Nat.zero_le _, rfl, HO2, HR2, HBox, HB2.out⟩
          case round =>
            clear HO2 HR2 HBox HB2
            obtain ⟨m, hm, rfl, ho, hR, HBox, hb⟩ := hrel
            have hbs := hb.size
            by_cases hm' : m < i + 1
            · have hmc : m < cs.length := by omega
              obtain ⟨d2, q2, l2⟩ := HPC.out m hmc
              have Q2 := q2.below hb
              obtain ⟨c0, c1, c2, c3, c4, c5, c6, c7, c8, c9, c10, c11⟩ := Q2
              have HL2 := hidP l2
              have e0 : wr.cell? ⟨Bi, 0, none⟩ = some (.slice d1.pa cs[i].parts.length d1.pc) := HBox.out.k0
              have e1 : wr.cell? ⟨Bi, 1, none⟩ = some (.int .u64 d1.ps.a) := HBox.out.k1
              have e2 : wr.cell? ⟨Bi, 2, none⟩ = some (.int .u64 d1.ps.b) := HBox.out.k2
              have e3 : wr.cell? ⟨Bi, 3, none⟩ = some (.slice d1.oa cs[i].over.length d1.oc) := HBox.out.k3
              have e4 : wr.cell? ⟨Bi, 4, none⟩ = some (.int .u64 d1.os.a) := HBox.out.k4
              have e5 : wr.cell? ⟨Bi, 5, none⟩ = some (.int .u64 d1.os.b) := HBox.out.k5
              have e6 : wr.cell? ⟨Bi, 6, none⟩ = some (.slice d1.xa cs[i].crosses.length d1.xc) := HBox.out.k6
              have e7 : wr.cell? ⟨Bi, 7, none⟩ = some (.int .u64 d1.xs.a) := HBox.out.k7
              have e8 : wr.cell? ⟨Bi, 8, none⟩ = some (.int .u64 d1.xs.b) := HBox.out.k8
              have e9 : wr.cell? ⟨Bi, 9, none⟩ = some (.slice d1.na cs[i].needs.length d1.nc) := HBox.out.k9
              have e10 : wr.cell? ⟨Bi, 10, none⟩ = some (.int .u64 d1.ns.a) := HBox.out.k10
              have e11 : wr.cell? ⟨Bi, 11, none⟩ = some (.int .u64 d1.ns.b) := HBox.out.k11
              have hzB := HBox.out.lt
              clear q2 l2
              go_wp2_with fail
              generalize hW3 : wr.alloc _ = W3
              have hbw3 : Below wr.heap.size wr W3 := by rw [← hW3]; exact (by repeat (first | exact Below.refl _ _ | assumption | refine Below.drew ?_ | refine bdrewN ?_ _ | refine Below.setCell ?_ (by first | omega | (simp; done) | (simp; omega)) _ | refine Below.alloc ?_ (by first | omega | (simp; done) | (simp; omega)) _))
              clear hW3 c0 c1 c2 c3 c4 c5 c6 c7 c8 c9 c10 c11 e0 e1 e2 e3 e4 e5 e6 e7 e8 e9 e10 e11
              have hb3 := hb.trans (hbw3.mono hb.size)
              refine (against_any d1 d2 cs[i] cs[m] _ (HL1.out.below hb3) (HL2.out.below hb3)).mono ?_
              rintro e w4 ⟨rfl, hb4'⟩
              have hb34 := hbw3.trans (hb4'.mono hbw3.size)
              have HO4 := hidP (owns_below ho.out hb34)
              have HR4 := hidP (hR.out.below hb34)
              have HBox4 := hidP (HBox.out.below hb34)
              have hb4 := hb.trans (hb34.mono hb.size)
              have HV : Hid (exM cs i m = exclC cs[i] cs[m]) := exM_at hi' hmc
              generalize exclC cs[i] cs[m] = v at HV ⊢
              clear ho hR HBox hb hbs hbw3 hb4' hb34 hb3 hzB
              obtain ⟨gi, ci, hci, ri⟩ := HR4.out.row (by omega) i hi'
              obtain ⟨gm, cm, hcmm, rm⟩ := HR4.out.row (by omega) m hmc
              obtain ⟨gT, hxT⟩ : ∃ gT, x = some (⟨gT, 0, none⟩ : Addr) := by
                rcases HO4.out.2 with ⟨_, h0⟩ | ⟨g, cap', cur, h1, _⟩
                · omega
                · cases h1; exact ⟨g, rfl⟩
              subst hxT
              have tI : w4.cell? ⟨gT, i, none⟩ = some (.slice (some ⟨gi, 0, none⟩) cs.length ci) := (HO4.out.cellAt i (by omega)).trans hci
              have tM : w4.cell? ⟨gT, m, none⟩ = some (.slice (some ⟨gm, 0, none⟩) cs.length cm) := (HO4.out.cellAt m (by omega)).trans hcmm
              have uI : ∃ u, w4.cell? ⟨gi, m, none⟩ = some u := by
                rw [ri.cellAt m (by omega)]
                exact ⟨_, List.getElem?_eq_getElem (by rw [flatN_len]; simp; omega)⟩
              have uM : ∃ u, w4.cell? ⟨gm, i, none⟩ = some u := by
                rw [rm.cellAt i (by omega)]
                exact ⟨_, List.getElem?_eq_getElem (by rw [flatN_len]; simp; omega)⟩
              obtain ⟨uI, huI⟩ := uI
              obtain ⟨uM, huM⟩ := uM
              have fI := ri.frozenAt m
              have fM := rm.frozenAt i
              have hzT := cellLt tI
              have hzI := cellLt huI
              have hzM := cellLt huM
              dsimp only at hzT hzI hzM
              have HStep : Hid (RowsOwn ((w4.setCell ⟨gi, m, none⟩ (.int .i64 v)).setCell ⟨gm, i, none⟩ (.int .i64 v)) w.heap.size cells (rowsM cs.length (cellM (exM cs) i (m + 1)))) := by
                have h := (HR4.out.set hAp.out hi' hci v (k := m)).set hAp.out hmc hcmm v (k := i)
                rw [rowsM_congr (M' := cellM (exM cs) i (m + 1)) (fun p q _ _ => by rw [← HV.out]; exact cellM_step (exM_symm cs) i m p q)] at h
                exact h
              have hgI : gi ≠ gT := by
                have h := owns_ne (by decide) ri HO4.out
                simp only [Value.ownBlock] at h
                rcases h with h | h
                · cases h
                · exact fun e => h (by rw [e])
              have hgM : gm ≠ gT := by
                have h := owns_ne (by decide) rm HO4.out
                simp only [Value.ownBlock] at h
                rcases h with h | h
                · cases h
                · exact fun e => h (by rw [e])
              have hgI1 : gi < Bi := HLt.out i _ gi hci rfl
              have hgM1 : gm < Bi := HLt.out m _ gm hcmm rfl
              have hgI0 : w.heap.size ≤ gi := (ri.lt gi rfl).1
              have hgM0 : w.heap.size ≤ gm := (rm.lt gm rfl).1
              have HNext : Hid (((w4.setCell ⟨gi, m, none⟩ (.int .i64 v)).setCell ⟨gm, i, none⟩ (.int .i64 v)).ownsRow w.heap.size 24 1 (.slice (some ⟨gT, 0, none⟩) cs.length y) cs.length cells) := ownsRow_setCell_other (ownsRow_setCell_other HO4.out (a := ⟨gi, m, none⟩) (by simp only [Value.ownBlock]; intro e; cases e; exact hgI rfl) _) (a := ⟨gm, i, none⟩) (by simp only [Value.ownBlock]; intro e; cases e; exact hgM rfl) _
              have HBoxN : Hid (ClaimCell ((w4.setCell ⟨gi, m, none⟩ (.int .i64 v)).setCell ⟨gm, i, none⟩ (.int .i64 v)) Bi 0 d1 cs[i]) := HBox4.out.kept (by rw [Below.heap_setCell _ _ _ _ (by simp only [ne_eq]; omega), Below.heap_setCell _ _ _ _ (by simp only [ne_eq]; omega)])
              have hbN : Below w.heap.size w ((w4.setCell ⟨gi, m, none⟩ (.int .i64 v)).setCell ⟨gm, i, none⟩ (.int .i64 v)) := (hb4.setCell (p := ⟨gi, m, none⟩) hgI0 _).setCell (p := ⟨gm, i, none⟩) hgM0 _
              have HBN := hidP hbN
              clear HO4 HR4 HBox4 ri rm hgI1 hgM1 hbN
              by_cases him : m = i
              · subst him
                rw [hci] at hcmm
                cases hcmm
                clear hci
                go_wp2_with fail
                go_region
                all_goals
                  go_wp2_with fail
                  go_roundw
                  case rel => exact ⟨m + 1, by omega, by go_num, HNext, HStep, HBoxN.out.kept rfl, HBN.out.drew⟩
                  case measure => first | (simp [intOf]; done) | (simp [intOf]; omega)
              · have hgg : gi ≠ gm := fun e => him (hAp.out m i _ _ gm hcmm hci rfl (congrArg some e))
                clear hci hcmm
                go_wp2_with fail
                go_region
                all_goals
                  go_wp2_with fail
                  go_roundw
                  case rel => exact ⟨m + 1, by omega, by go_num, HNext, HStep, HBoxN.out.kept rfl, HBN.out.drew⟩
                  case measure => first | (simp [intOf]; done) | (simp [intOf]; omega)
            · have HR5 : Hid (RowsOwn wr w.heap.size cells (rowsM cs.length (cellM (exM cs) (i + 1) 0))) := by
                have h := hR.out
                have e : m = i + 1 := by omega
                rw [e, rowsM_congr (M' := cellM (exM cs) (i + 1) 0) (fun p q _ _ => cellM_next (exM cs) i p q)] at h
                exact h
              clear hR HBox
              go_wp2_with fail
              go_roundw
              case rel => exact ⟨i + 1, by omega, by go_num, ho, HR5, hb⟩
              case measure => simp [intOf]; omega
        · have HT : Hid (RowsOwn wr w.heap.size cells (rowsM cs.length (exM cs))) := by
            have h := hR.out
            have e : i = cs.length := by omega
            rw [e, rowsM_congr (fun p q hp hq => cellM_all (exM cs) cs.length p q hp hq)] at h
            exact h
          clear hR
          go_wp2_with fail
          go_ret
          exact ⟨x, y, cells, rfl, ho, HT, hAp, hb⟩

end Go.Proofs.Ytmkdgnmmebldgab
