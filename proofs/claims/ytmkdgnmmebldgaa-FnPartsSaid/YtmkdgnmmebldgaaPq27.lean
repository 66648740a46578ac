import Derived.Test.YtmkdgnmmebldgaaPq26
namespace Go.Proofs.Ytmkdgnmmebldgaa
open Go.RowKit Go.Deep Go.Maps
structure KC (w : World) (K M : Nat) (pa ja sa : Option Addr) (pc jc sc pl jl sl : Nat) : Prop where
  c0 : w.cell? ⟨K, 0, none⟩ = some (.slice pa pl pc)
  c1 : w.cell? ⟨K, 1, none⟩ = some (.slice ja jl jc)
  c2 : w.cell? ⟨K, 2, none⟩ = some (.slice sa sl sc)
  c3 : w.cell? ⟨K, 3, none⟩ = some (.map (some M))
theorem KC.below {w w' : World} {K M : Nat} {pa ja sa : Option Addr} {pc jc sc pl jl sl : Nat} (h : KC w K M pa ja sa pc jc sc pl jl sl) (hb : Below w.heap.size w w') : KC w' K M pa ja sa pc jc sc pl jl sl :=
  ⟨cell_later hb h.c0, cell_later hb h.c1, cell_later hb h.c2, cell_later hb h.c3⟩
theorem KC.grown {w w' : World} {K M : Nat} {pa ja sa : Option Addr} {pc jc sc pl jl sl : Nat} (h : KC w K M pa ja sa pc jc sc pl jl sl) (hg : w.grownBy w' (some M)) (hne : K ≠ M) : KC w' K M pa ja sa pc jc sc pl jl sl :=
  ⟨hg.cell h.c0 (by simpa using hne), hg.cell h.c1 (by simpa using hne), hg.cell h.c2 (by simpa using hne), hg.cell h.c3 (by simpa using hne)⟩
def HasTrack (w : World) (K : Nat) (pa ja sa : Option Addr) (pc jc sc : Nat) (ps : List MPiece) (js : List MJoint) (ss : List MPiece) : Prop := ∃ M, TTrack w K M pa ja sa pc jc sc ps js ss
set_option maxRecDepth 100000 in
set_option maxHeartbeats 8000000 in
theorem trackOf_any (pa ja sa : Option Addr) (pc jc sc : Nat) (ps : List MPiece) (js : List MJoint) (ss : List MPiece) (R : Hid (Right ps js ss)) (w : World) (hp : Hid (PiecesAt w pa ps)) (hj : Hid (JointsAt w ja js)) (hs : Hid (PiecesAt w sa ss)) :
    Calls Try.prog 51 #[.agg #[.slice pa ps.length pc, .slice ja js.length jc], .slice sa ss.length sc] w fun e w' => ∃ K, e = .returned (.pointer (some ⟨K, 0, none⟩)) ∧ w.heap.size ≤ K ∧ HasTrack w' K pa ja sa pc jc sc ps js ss ∧ Below w.heap.size w w' := by
  have hmm := @run_makeMap Try.prog
  have hjl := R.out.nj
  go_enter Try.func51, Try.ntmps51
  go_upto_region 2 with fail
  generalize hW : w.alloc (Obj.cells #[Value.slice pa ps.length pc, Value.slice ja js.length jc] 26) = W
  have e1 : W.cell? ⟨w.heap.size, 1, none⟩ = some (.slice ja js.length jc) := by rw [← hW]; simp [go_sem]
  have hz : w.heap.size + 1 = W.heap.size := by rw [← hW]; simp
  have HBW : Hid (Below w.heap.size w W) := by rw [← hW]; exact blo
  have HM0 : Hid (SpotsTo (W.alloc (.map #[] 0)) (w.heap.size + 1) js 0 0) := by
    refine ⟨fun _ => zspot, 0, Nat.zero_le _, ?_, fun i q hi hq h => by omega⟩
    rw [hz]
    exact SMap.made W
  clear hW
  generalize hV : (W.alloc (Obj.map #[] 0)).alloc _ = V
  have HMV : Hid (SpotsTo V (w.heap.size + 1) js 0 0) := by rw [← hV]; exact HM0.out.below blo
  have HKV : Hid (KC V (w.heap.size + 1 + 1) (w.heap.size + 1) pa ja sa pc jc sc ps.length js.length ss.length) := by
    unfold Hid
    rw [← hV, hz]
    constructor <;> simp [go_sem]
  have HBV : Hid (Below W.heap.size W V) := by rw [← hV]; exact blo
  have e1V := cell_later HBV.out e1
  have hzA : w.heap.size + 1 ≤ W.heap.size := Nat.le_of_eq hz
  have hzB : W.heap.size ≤ w.heap.size + 1 := Nat.le_of_eq hz.symm
  have hzV : w.heap.size + 1 + 1 < V.heap.size := by
    rw [← hV]
    simp
    omega
  have hzV0 : w.heap.size < V.heap.size := by omega
  clear hV HM0 hz hmm
  go_wp2_with fail
  go_loopw [20] (fun c wr => ∃ (k : Nat), k ≤ js.length ∧ c = .int .i64 k ∧ Hid (SpotsTo wr (w.heap.size + 1) js k 0) ∧ Hid (KC wr (w.heap.size + 1 + 1) (w.heap.size + 1) pa ja sa pc jc sc ps.length js.length ss.length) ∧ Below W.heap.size W wr) (fun c _ => js.length - (intOf c).toNat)
  case atStart => exact ⟨0, Nat.zero_le _, rfl, HMV, HKV, HBV.out⟩
  case round =>
    clear HMV HKV HBV e1V hzV hzV0
    obtain ⟨k, hk, rfl, HM, HK, hb⟩ := hrel
    have hbs := hb.size
    have hz2 : w.heap.size < wr.heap.size := by omega
    by_cases hk' : k < js.length
    · have hki : (k : Int) < js.length := by omega
      obtain ⟨b1, off1, rfl, hpc⟩ := hj.out.2.2.resolve_left (fun h => by rw [h] at hk'; exact absurd hk' (Nat.not_lt_zero _))
      have hbF := HBW.out.trans (hb.mono HBW.out.size)
      obtain ⟨c1, c2, ea, ec, c3, c4⟩ := hpc k hk'
      have C4 := hidP c4
      replace c1 := cell_later hbF c1
      replace c2 := cell_later hbF c2
      replace c3 := cell_later hbF c3
      have hkd := R.out.kind k hk'
      have hkd1 := hkd.1
      have hkd4 := hkd.2.1
      have hel : js[k].ends.length ≤ 4 := by omega
      have hzc := cellLt c1
      dsimp only at hzc
      clear hpc c4 hbF hkd
      go_upto_region 5 with fail
      generalize hU : World.alloc wr _ = U
      have hbU : Below wr.heap.size wr U := by rw [← hU]; exact (Below.refl _ _).alloc (Nat.le_refl _) _
      have u0 : U.cell? ⟨wr.heap.size, 0, none⟩ = some (.int .i64 js[k].kind) := by rw [← hU]; simp [go_sem]
      have u2 : U.cell? ⟨wr.heap.size, 2, none⟩ = some (.slice ea js[k].ends.length ec) := by rw [← hU]; simp [go_sem]
      have hzU := cellLt u0
      dsimp only at hzU
      have HMU := hidP (HM.out.below hbU)
      have HKU := hidP (HK.out.below hbU)
      have HBU := hidP (hb.trans (hbU.mono hbs))
      clear hU hbU c1 c2 c3 HM HK hb
      have HKO : Hid (∀ u : World, Calls Try.prog 122 #[.int .i64 js[k].kind] u fun e w' => e = .returned (.tuple #[.iface (kindT js[k].kind) (.agg #[]), .bool true]) ∧ w' = u) := fun u => kindOf_any js[k].kind hkd1 hkd4 u
      go_wp2_with (go_at_call 122; refine (HKO.out _).mono ?_; rintro e w2 ⟨rfl, rfl⟩)
      go_loopw [35] (fun c wx => ∃ (m : Nat), m ≤ js[k].ends.length ∧ c = .int .i64 m ∧ Hid (SpotsTo wx (w.heap.size + 1) js k m) ∧ Hid (KC wx (w.heap.size + 1 + 1) (w.heap.size + 1) pa (some ⟨b1, off1, none⟩) sa pc jc sc ps.length js.length ss.length) ∧ Below W.heap.size W wx) (fun c _ => js[k].ends.length - (intOf c).toNat)
      case atStart => exact ⟨0, Nat.zero_le _, rfl, HMU, HKU, HBU.out⟩
      case round =>
        clear HMU HKU HBU u0 u2 hzU hbs hz2 hzc HKO
        obtain ⟨m, hm, rfl, HM, HK, hb⟩ := hrel
        have hbs := hb.size
        by_cases hm' : m < js[k].ends.length
        · have hmi : (m : Int) < js[k].ends.length := by omega
          obtain ⟨b2, off2, rfl, hpc2⟩ := (C4.out.below (HBW.out.trans (hb.mono HBW.out.size))).2.resolve_left (fun h => by rw [h] at hm'; exact absurd hm' (Nat.not_lt_zero _))
          obtain ⟨d1, d2⟩ := hpc2 m hm'
          have hzd := cellLt d1
          dsimp only at hzd
          clear hpc2
          have hbD : Below wr.heap.size wr (wr.alloc (Obj.cells #[Value.int IntKind.i64 js[k].ends[m].piece, Value.int IntKind.i64 js[k].ends[m].side] 139)).drew := blo
          obtain ⟨w2, hme, hM3, hg⟩ := (HM.out.below hbD).put R.out hk' hm'
          have HM3 := hidP hM3
          have HK3 := hidP ((HK.out.below hbD).grown hg (by omega))
          have hb3 : Below W.heap.size W w2 := Below.grown (hb.trans (hbD.mono hbs)) hg (by simp; omega) (fun j hj => by cases hj; omega)
          have k3 := (HK.out.below hbD).c3
          have hk3 := HK.out.c3
          have hzk := cellLt hk3
          dsimp only at hzk
          unfold endV spotV at hme
          clear hM3 hg HM HK hbD
          go_upto_region 10 with fail
          go_region
          all_goals
            go_wp2_with fail
            go_roundw
            case rel => exact ⟨m + 1, by omega, by go_num, HM3, HK3, hb3⟩
            case measure => simp [intOf]; omega
        · have HM4 : Hid (SpotsTo wr (w.heap.size + 1) js (k + 1) 0) := HM.out.next hk' (by omega) (by omega)
          have hmi : ¬ (m : Int) < js[k].ends.length := by omega
          clear HM
          go_wp2_with fail
          go_roundw
          case rel => exact ⟨k + 1, by omega, by go_num, HM4, HK, hb⟩
          case measure => simp [intOf]; omega
    · obtain rfl : k = js.length := by omega
      have hki : ¬ (js.length : Int) < js.length := by omega
      have HBF := hidP (HBW.out.trans (hb.mono HBW.out.size))
      have HTT : Hid (TTrack wr (w.heap.size + 1 + 1) (w.heap.size + 1) pa ja sa pc jc sc ps js ss) :=
        ⟨⟨HK.out.c0, HK.out.c1, HK.out.c2, hp.out.below HBF.out, hj.out.below HBF.out, hs.out.below HBF.out⟩, HK.out.c3, HM.out⟩
      clear HM HK hb
      go_wp2_with fail
      exact bodyPost_ret (v := .pointer (some ⟨w.heap.size + 1 + 1, 0, none⟩)) (by simp [results, Try.results51, go_sem]) rfl ⟨_, rfl, by omega, ⟨_, HTT.out⟩, HBF.out⟩
end Go.Proofs.Ytmkdgnmmebldgaa

namespace Go.Proofs.Ytmkdgnmmebldgaa
open Go.RowKit Go.Deep Go.Maps
theorem Try.zeroP : (Try.prog.info? 253).map (·.zero) = some (some (.agg #[])) := by kernel_rfl
theorem Try.zeroB : (Try.prog.info? 252).map (·.zero) = some (some (.agg #[])) := by kernel_rfl
theorem missP (w : World) (xt t' : TypeId) (hne : t' ≠ 253) : (Instr.typeAssert (.iface t' (.agg #[])) xt 253 true).run Try.prog w = .ok (.tuple #[.agg #[], .bool false]) w := by
  obtain ⟨i, hi, hz⟩ := Option.map_eq_some_iff.1 Try.zeroP
  exact run_typeAssert_miss w xt _ t' _ _ i _ Try.underlying253 hne hi hz
theorem missB (w : World) (xt t' : TypeId) (hne : t' ≠ 252) : (Instr.typeAssert (.iface t' (.agg #[])) xt 252 true).run Try.prog w = .ok (.tuple #[.agg #[], .bool false]) w := by
  obtain ⟨i, hi, hz⟩ := Option.map_eq_some_iff.1 Try.zeroB
  exact run_typeAssert_miss w xt _ t' _ _ i _ Try.underlying252 hne hi hz
theorem isP (w : World) (xt : TypeId) (k : Int) : (Instr.typeAssert (.iface (kindT k) (.agg #[])) xt 253 true).run Try.prog w = .ok (.tuple #[.agg #[], .bool (decide (k = 2))]) w := by
  unfold kindT
  by_cases h1 : k = 1
  · subst h1
    rw [if_pos rfl]
    exact missP w xt _ (by decide)
  · rw [if_neg h1]
    by_cases h2 : k = 2
    · subst h2
      rw [if_pos rfl]
      exact run_typeAssert_hit (P := Try.prog) w xt 253 (.agg #[]) _ Try.underlying253
    · rw [if_neg h2, decide_eq_false h2]
      split
      · exact missP w xt _ (by decide)
      · exact missP w xt _ (by decide)
theorem isB (w : World) (xt : TypeId) (k : Int) : (Instr.typeAssert (.iface (kindT k) (.agg #[])) xt 252 true).run Try.prog w = .ok (.tuple #[.agg #[], .bool (decide (k = 1))]) w := by
  unfold kindT
  by_cases h1 : k = 1
  · subst h1
    rw [if_pos rfl]
    exact run_typeAssert_hit (P := Try.prog) w xt 252 (.agg #[]) _ Try.underlying252
  · rw [if_neg h1, decide_eq_false h1]
    split
    · exact missB w xt _ (by decide)
    · split
      · exact missB w xt _ (by decide)
      · exact missB w xt _ (by decide)
def overPlainF (js : List MJoint) (s : MStep) : MStep × Bool :=
  if kindE js (spotE js (aheadE s)).1 = 2 then (stepFromE (endE js (spotE js (aheadE s)).1 (1 - (spotE js (aheadE s)).2)), true) else (⟨0, 0⟩, false)
set_option maxRecDepth 100000 in
set_option maxHeartbeats 8000000 in
theorem overPlain_any (K M : Nat) (pa ja sa : Option Addr) (pc jc sc : Nat) (ps : List MPiece) (js : List MJoint) (ss : List MPiece) (R : Hid (Right ps js ss)) (s : MStep) (w : World) (hT : Hid (TTrack w K M pa ja sa pc jc sc ps js ss)) (hv : Hid (ValidS ps s)) :
    Calls Try.prog 174 #[.pointer (some ⟨K, 0, none⟩), endV s] w fun e w' => e = .returned (.tuple #[endV (overPlainF js s).1, .bool (overPlainF js s).2]) ∧ Below w.heap.size w w' := by
  obtain ⟨sp, sw⟩ := s
  obtain ⟨es, hes⟩ : ∃ es, aheadE ⟨sp, sw⟩ = es := ⟨_, rfl⟩
  have HVE : Hid (ValidE ps es) := by unfold Hid; rw [← hes]; exact aheadE_valid hv.out
  have HAH : Hid (∀ u : World, Calls Try.prog 156 #[.agg #[.int .i64 sp, .int .i64 sw]] u fun e w' => e = .returned (endV es) ∧ Below u.heap.size u w') := fun u => by
    have hh := ahead_any sp sw u
    rw [hes] at hh
    exact hh
  have c3 := hT.out.c3
  have c1 := hT.out.net.c1
  have hK := cellLt c3
  dsimp only at hK
  have HLK : Hid (∀ u : World, Below w.heap.size w u → (Instr.lookup 198 (.map (some M)) (endV es) false).run Try.prog u = .ok (spotV (spotE js es).1 (spotE js es).2 (kindE js (spotE js es).1)) u) := fun u hu => (hT.out.below hu).lookup R.out HVE.out
  have HF : Hid (overPlainF js ⟨sp, sw⟩ = if kindE js (spotE js es).1 = 2 then (stepFromE (endE js (spotE js es).1 (1 - (spotE js es).2)), true) else (⟨0, 0⟩, false)) := by
    unfold Hid overPlainF
    rw [hes]
  obtain ⟨j, k, g1, g2⟩ := R.out.spot HVE.out
  rw [g2] at HLK HF
  dsimp only at HLK HF
  clear hes
  unfold endV
  go_enter Try.func174, Try.ntmps174
  go_upto_region 1 with fail
  generalize hW : World.alloc (World.alloc w _) _ = W
  have hbW : Below w.heap.size w W := by rw [← hW]; exact blo
  have x0 : W.cell? ⟨w.heap.size, 0, none⟩ = some (.int .i64 sp) := by rw [← hW]; simp [go_sem]
  have x1 : W.cell? ⟨w.heap.size, 1, none⟩ = some (.int .i64 sw) := by rw [← hW]; simp [go_sem]
  have y3 := cell_later hbW c3
  have y1 := cell_later hbW c1
  have HBW := hidP hbW
  have hzW : w.heap.size + 1 < W.heap.size := by rw [← hW]; simp
  obtain ⟨S, hS⟩ : ∃ S : World → Prop, ∀ u, S u ↔ Below W.heap.size W u := ⟨_, fun _ => Iff.rfl⟩
  have HS0 := hidP hS
  have r0 : ∀ u : Held S, World.cell? u.val ⟨w.heap.size, 0, none⟩ = some (.int .i64 sp) := fun u => cell_later ((hS u.val).1 u.2) x0
  have r1 : ∀ u : Held S, World.cell? u.val ⟨w.heap.size, 1, none⟩ = some (.int .i64 sw) := fun u => cell_later ((hS u.val).1 u.2) x1
  have r3 : ∀ u : Held S, World.cell? u.val ⟨K, 3, none⟩ = some (.map (some M)) := fun u => cell_later ((hS u.val).1 u.2) y3
  have r4 : ∀ u : Held S, (Instr.lookup 198 (.map (some M)) (endV es) false).run Try.prog u.val = .ok (spotV j k (kindE js j)) u.val := fun u => HLK.out u.val (HBW.out.trans (((hS u.val).1 u.2).mono HBW.out.size))
  have hS1 : S W.drew := (hS _).2 ((Below.refl _ _).drew)
  have hne := held_ne hS1
  have HQW : Hid (W.rowIs (w.heap.size + 1) 51 2 (fun _ => .int .i64 0)) := by
    unfold Hid
    rw [← hW]
    have := World.rowIs_alloc (w.alloc (Obj.cells #[Value.int IntKind.i64 sp, Value.int IntKind.i64 sw] 51)) #[.int .i64 0, .int .i64 0] 51 (fun _ => .int .i64 0) (by intro i hi; have hi' : i < 2 := hi; match i, hi' with | 0, _ => rfl | 1, _ => rfl)
    simpa using this
  clear hS hW hbW
  go_cut [6] (fun v wx => ∃ b, v = .pointer (some ⟨b, 0, none⟩) ∧ W.heap.size ≤ b ∧ wx.cell? ⟨b, 0, none⟩ = some (.int .i64 (j : Int)) ∧ wx.cell? ⟨b, 1, none⟩ = some (.int .i64 (k : Int)) ∧ wx.cell? ⟨b, 2, none⟩ = some (.iface (kindT (kindE js j)) (.agg #[])) ∧ Below W.heap.size W wx)
  case first =>
    refine wp_region_tree (fun w' => ∃ u : Held S, w' = u.val) 8 (by kernel_rfl) (by kernel_rfl) (held_some hS1) ?_
    (refine wpT_see 0 (by rfl) (by kernel_rfl) (by kernel_rfl) ?_; intro K hK; go_big_quiet_op; go_big_quiet_on); (refine wpT_see 1 (by rfl) (by kernel_rfl) (by kernel_rfl) ?_; intro K hK; go_big_quiet_op; go_big_quiet_on); (refine wpT_see 2 (by rfl) (by kernel_rfl) (by kernel_rfl) ?_; intro K hK; go_big_quiet_op; go_big_quiet_on); (refine wpT_see 3 (by rfl) (by kernel_rfl) (by kernel_rfl) ?_; intro K hK; go_big_quiet_op; go_big_quiet_on); (refine wpT_see 4 (by rfl) (by kernel_rfl) (by kernel_rfl) ?_; intro K hK; go_big_quiet_op; go_big_quiet_on)
    refine wpT_loud2 5 7 (by rfl) (by rfl) (by kernel_rfl) (by kernel_rfl) (by kernel_rfl) ?_ ?_
    · intro K hK
      go_wp2_with (go_at_call 156; refine (HAH.out _).mono ?_; rintro e w2 ⟨rfl, hb2'⟩)
      have hb2 : Below W.heap.size W w2 := (Below.refl _ _).drew.trans hb2'
      have hS2 : S w2 := (HS0.out _).2 hb2
      clear hb2'
      refine hK _ _ (held_some hS2) ?_
      clear hK K
      (refine wpT_see 6 (by rfl) (by kernel_rfl) (by kernel_rfl) ?_; intro K hK; go_big_quiet_op; go_big_quiet_on)
      refine wpT_loud 7 (by rfl) (by kernel_rfl) (by kernel_rfl) ?_
      intro K hK
      go_wp2_with fail
      have hb3 : Below W.heap.size W (w2.alloc (Obj.cells #[Value.int IntKind.i64 0, Value.int IntKind.i64 0, Value.nilIface] 206)) := hb2.trans (((Below.refl _ _).alloc (Nat.le_refl _) _).mono hb2.size)
      refine hK _ _ (held_some ((HS0.out _).2 hb3)) ?_
      clear hK K
      refine wpT_done (by kernel_rfl) ?_
      have hz2 := hb2.size
      unfold spotV
      clear r0 r1 r3 r4 hS1 hne hS2 hb3
      go_wp2_with fail
      go_meet
      exact ⟨_, rfl, hz2, by simp [go_sem], by simp [go_sem], by simp [go_sem], hb2.trans (((Below.refl _ _).alloc (Nat.le_refl _) _).mono hb2.size)⟩
    · intro K hK
      go_wp2_with fail
      have hb3 : Below W.heap.size W (W.alloc (Obj.cells #[Value.int IntKind.i64 0, Value.int IntKind.i64 0, Value.nilIface] 206)).drew := ((Below.refl _ _).alloc (Nat.le_refl _) _).drew
      refine hK _ _ (held_some ((HS0.out _).2 hb3)) ?_
      clear hK K
      generalize hV : (W.alloc (Obj.cells #[Value.int IntKind.i64 0, Value.int IntKind.i64 0, Value.nilIface] 206)).drew = V at hb3 ⊢
      have v0 : V.rowIs W.heap.size 206 3 (fun i => if i = 2 then .nilIface else .int .i64 0) := by
        rw [← hV]
        exact World.rowIs_alloc W _ _ _ (by intro i hi; have hi' : i < 3 := hi; match i, hi' with | 0, _ => rfl | 1, _ => rfl | 2, _ => rfl)
      clear hV
      refine wpT_loud 5 (by rfl) (by kernel_rfl) (by kernel_rfl) ?_
      intro K hK
      go_wp2_with (go_at_call 156; refine (HAH.out _).mono ?_; rintro e w2 ⟨rfl, hb2'⟩)
      have hb2 : Below W.heap.size W w2 := hb3.trans (hb2'.mono hb3.size)
      have hS2 : S w2 := (HS0.out _).2 hb2
      have hr2 := v0.of_block (hb2'.block _ v0.lt)
      refine hK _ _ (held_some hS2) ?_
      clear hK K v0 hb2' hb3
      (refine wpT_see 6 (by rfl) (by kernel_rfl) (by kernel_rfl) ?_; intro K hK; go_big_quiet_op; go_big_quiet_on)
      refine wpT_done (by kernel_rfl) ?_
      have hz2 := hb2.size
      have hz3 := hr2.lt
      have s0 := hr2.cell (i := 0) (by omega)
      have s1 := hr2.cell (i := 1) (by omega)
      have s2 := hr2.cell (i := 2) (by omega)
      have f0 := hr2.frozen 0
      have f1 := hr2.frozen 1
      have f2 := hr2.frozen 2
      unfold spotV
      have HR3 := hidP (((hr2.set 0 (.int .i64 (j : Int))).set 1 (.int .i64 (k : Int))).set 2 (.iface (kindT (kindE js j)) (.agg #[])))
      clear r0 r1 r3 r4 hS1 hne hS2 hr2
      go_wp2_with fail
      go_meet
      exact ⟨_, rfl, Nat.le_refl _, (HR3.out.cell (i := 0) (by omega)).trans (by simp), (HR3.out.cell (i := 1) (by omega)).trans (by simp), (HR3.out.cell (i := 2) (by omega)).trans (by simp), ((hb2.setCell (Nat.le_refl _) _).setCell (Nat.le_refl _) _).setCell (Nat.le_refl _) _⟩
  case rest =>
    obtain ⟨b, rfl, hbb, d0, d1, d2, hbc⟩ := hcut
    have HBC := hidP (HBW.out.trans (hbc.mono HBW.out.size))
    have hzb := cellLt d0
    dsimp only at hzb
    replace y1 := cell_later hbc y1
    have hzc := hbc.size
    have q4 := HQW.out.of_block (hbc.block _ HQW.out.lt)
    have s0 := q4.cell (i := 0) (by omega)
    have s1 := q4.cell (i := 1) (by omega)
    have f0 := q4.frozen 0
    have f1 := q4.frozen 1
    have hz4 := q4.lt
    have Q4 := hidP q4
    clear r0 r1 r3 r4 hS1 hne x0 x1 y3 HLK HAH HS0 hbc q4 HQW
    by_cases hkd : kindE js j = 2
    · have hta : ∀ u : World, (Instr.typeAssert (.iface (kindT (kindE js j)) (.agg #[])) 202 253 true).run Try.prog u = .ok (.tuple #[.agg #[], .bool true]) u := fun u => by rw [isP u, decide_eq_true hkd]
      generalize kindT (kindE js j) = kt at hta d2
      obtain ⟨_, hj, hkk, g3, _⟩ := spotF_some g1
      simp only [Nat.sub_zero] at hj hkk g3
      have hkn := (R.out.kind j hj).2.2
      rw [kindE_at hj] at hkd
      have hl2 : js[j].ends.length = 2 := by omega
      obtain ⟨k', hk'⟩ : ∃ k', k' = 1 - k := ⟨_, rfl⟩
      have hk1 : (1 : Int) - (k : Int) = (k' : Int) := by omega
      have hk2 : k' < js[j].ends.length := by omega
      have HE : Hid (overPlainF js ⟨sp, sw⟩ = (stepFromE js[j].ends[k'], true)) := by
        unfold Hid
        rw [HF.out, if_pos (by rw [kindE_at hj]; exact hkd), ← hk', endE_at hj hk2]
      clear hk'
      go_upto_region 5 with fail
      generalize hU : World.alloc wc _ = U
      have hbU : Below wc.heap.size wc U := by rw [← hU]; exact blo
      have HBU := hidP (HBC.out.trans (hbU.mono HBC.out.size))
      obtain ⟨b1, off1, hja, hpc⟩ := (hT.out.net.J.below HBU.out).2.2.resolve_left (fun h => by rw [h] at hj; exact absurd hj (Nat.not_lt_zero _))
      obtain ⟨_, _, ea, ec, m3, m4⟩ := hpc j hj
      obtain ⟨b2, off2, rfl, hpc2⟩ := m4.2.resolve_left (fun h => by rw [h] at hl2; simp at hl2)
      obtain ⟨m5, m6⟩ := hpc2 k' hk2
      subst hja
      have HSF : Hid (∀ u : World, Calls Try.prog 185 #[.agg #[.int .i64 js[j].ends[k'].piece, .int .i64 js[j].ends[k'].side]] u fun e w' => e = .returned (endV (stepFromE js[j].ends[k'])) ∧ Below u.heap.size u w') := fun u => stepFrom_any _ _ u
      have hji : (j : Int) < js.length := by omega
      have hki : (k' : Int) < js[j].ends.length := by omega
      generalize js[j].ends[k'] = en at m5 m6 HSF HE
      obtain ⟨e1, e2⟩ := en
      generalize js[j].ends.length = nl at m3 hki
      dsimp only at m5 m6 HSF
      replace d0 := cell_later hbU d0
      replace d1 := cell_later hbU d1
      replace y1 := cell_later hbU y1
      have Q5 := hidP (Q4.out.of_block (hbU.block _ Q4.out.lt))
      have hzm := cellLt m3
      have hzm2 := cellLt m5
      have hzd := cellLt d0
      have hzy := cellLt y1
      dsimp only at hzm hzm2 hzd hzy
      clear hpc hpc2 m4 hU hbU d2 s0 s1 f0 f1 hz4 Q4 hzb hK
      obtain ⟨S5, hS5⟩ : ∃ S : World → Prop, ∀ u, S u ↔ Below U.heap.size U u := ⟨_, fun _ => Iff.rfl⟩
      have r0 : ∀ u : Held S5, World.cell? u.val ⟨b, 0, none⟩ = some (.int .i64 (j : Int)) := fun u => cell_later ((hS5 u.val).1 u.2) d0
      have r1 : ∀ u : Held S5, World.cell? u.val ⟨b, 1, none⟩ = some (.int .i64 (k : Int)) := fun u => cell_later ((hS5 u.val).1 u.2) d1
      have r2 : ∀ u : Held S5, World.cell? u.val ⟨K, 1, none⟩ = some (.slice (some ⟨b1, off1, none⟩) js.length jc) := fun u => cell_later ((hS5 u.val).1 u.2) y1
      have r3 : ∀ u : Held S5, World.cell? u.val ⟨b1, off1 + j * 3 + 2, none⟩ = some (.slice (some ⟨b2, off2, none⟩) nl ec) := fun u => cell_later ((hS5 u.val).1 u.2) m3
      have r4 : ∀ u : Held S5, World.cell? u.val ⟨b2, off2 + k' * 2, none⟩ = some (.int .i64 e1) := fun u => cell_later ((hS5 u.val).1 u.2) m5
      have r5 : ∀ u : Held S5, World.cell? u.val ⟨b2, off2 + k' * 2 + 1, none⟩ = some (.int .i64 e2) := fun u => cell_later ((hS5 u.val).1 u.2) m6
      have hS1 : S5 U.drew := (hS5 _).2 ((Below.refl _ _).drew)
      have hne := held_ne hS1
      clear hS5
      refine wp_region_tree (fun w' => ∃ u : Held S5, w' = u.val) 15 (by kernel_rfl) (by kernel_rfl) (held_some hS1) ?_
      (refine wpT_see 0 (by rfl) (by kernel_rfl) (by kernel_rfl) ?_; intro K hK; go_big_quiet_op; go_big_quiet_on); (refine wpT_see 1 (by rfl) (by kernel_rfl) (by kernel_rfl) ?_; intro K hK; go_big_quiet_op; go_big_quiet_on); (refine wpT_see 2 (by rfl) (by kernel_rfl) (by kernel_rfl) ?_; intro K hK; go_big_quiet_op; go_big_quiet_on); (refine wpT_see 3 (by rfl) (by kernel_rfl) (by kernel_rfl) ?_; intro K hK; go_big_quiet_op; go_big_quiet_on); (refine wpT_see 4 (by rfl) (by kernel_rfl) (by kernel_rfl) ?_; intro K hK; go_big_quiet_op; go_big_quiet_on); (refine wpT_see 5 (by rfl) (by kernel_rfl) (by kernel_rfl) ?_; intro K hK; go_big_quiet_op; go_big_quiet_on); (refine wpT_see 6 (by rfl) (by kernel_rfl) (by kernel_rfl) ?_; intro K hK; go_big_quiet_op; go_big_quiet_on); (refine wpT_see 7 (by rfl) (by kernel_rfl) (by kernel_rfl) ?_; intro K hK; go_big_quiet_op; go_big_quiet_on); (refine wpT_see 8 (by rfl) (by kernel_rfl) (by kernel_rfl) ?_; intro K hK; go_big_quiet_op; go_big_quiet_on); (refine wpT_see 9 (by rfl) (by kernel_rfl) (by kernel_rfl) ?_; intro K hK; go_big_quiet_op; go_big_quiet_on); (refine wpT_see 10 (by rfl) (by kernel_rfl) (by kernel_rfl) ?_; intro K hK; go_big_quiet_op; go_big_quiet_on); (refine wpT_see 11 (by rfl) (by kernel_rfl) (by kernel_rfl) ?_; intro K hK; go_big_quiet_op; go_big_quiet_on); (refine wpT_see 12 (by rfl) (by kernel_rfl) (by kernel_rfl) ?_; intro K hK; go_big_quiet_op; go_big_quiet_on); (refine wpT_see 13 (by rfl) (by kernel_rfl) (by kernel_rfl) ?_; intro K hK; go_big_quiet_op; go_big_quiet_on); (refine wpT_see 14 (by rfl) (by kernel_rfl) (by kernel_rfl) ?_; intro K hK; go_big_quiet_op; go_big_quiet_on)
      refine wpT_done (by kernel_rfl) ?_
      clear r0 r1 r2 r3 r4 r5 hne hS1
      obtain ⟨en', hen⟩ : ∃ en', stepFromE ⟨e1, e2⟩ = en' := ⟨_, rfl⟩
      rw [hen] at HSF HE
      unfold endV at HSF
      go_wp2_with (go_at_call 185; refine (HSF.out _).mono ?_; rintro e w6 ⟨rfl, hb6'⟩; have hb6 : Below U.heap.size U w6 := (Below.refl _ _).drew.trans hb6'; have Q6 := hidP (Q5.out.of_block (hb6.block _ Q5.out.lt)); have HB6 := hidP (HBU.out.trans (hb6.mono HBU.out.size)); have s0 := Q6.out.cell (i := 0) (by omega); have s1 := Q6.out.cell (i := 1) (by omega); have f0 := Q6.out.frozen 0; have f1 := Q6.out.frozen 1; have hz4 := Q6.out.lt; clear hb6' hb6)
      have HR := hidP ((Q6.out.set 0 (.int .i64 en'.piece)).set 1 (.int .i64 en'.side))
      have t0 := HR.out.cell (i := 0) (by omega)
      have t1 := HR.out.cell (i := 1) (by omega)
      simp only [] at t0 t1
      exact bodyPost_ret (v := .tuple #[.agg #[.int .i64 en'.piece, .int .i64 en'.side], .bool true]) (by simp [results, Try.results174, go_sem, t0, t1]) rfl ⟨by rw [HE.out], blo⟩
    · have hta : ∀ u : World, (Instr.typeAssert (.iface (kindT (kindE js j)) (.agg #[])) 202 253 true).run Try.prog u = .ok (.tuple #[.agg #[], .bool false]) u := fun u => by rw [isP u, decide_eq_false hkd]
      have HE : Hid (overPlainF js ⟨sp, sw⟩ = (⟨0, 0⟩, false)) := by unfold Hid; rw [HF.out, if_neg hkd]
      generalize kindT (kindE js j) = kt at hta d2
      clear HF
      go_wp2_with fail
      have HR := hidP (((Q4.out.set 0 (.int .i64 0)).set 1 (.int .i64 0)).alloc (Obj.cells #[] 253))
      have t0 := HR.out.cell (i := 0) (by omega)
      have t1 := HR.out.cell (i := 1) (by omega)
      simp only [] at t0 t1
      have hb7 := HBC.out
      exact bodyPost_ret (v := .tuple #[.agg #[.int .i64 0, .int .i64 0], .bool false]) (by simp [results, Try.results174, go_sem, t0, t1]) rfl ⟨by rw [HE.out], blo⟩
end Go.Proofs.Ytmkdgnmmebldgaa
