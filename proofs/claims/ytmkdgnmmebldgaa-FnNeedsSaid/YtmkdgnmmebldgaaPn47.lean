import Derived.Test.YtmkdgnmmebldgaaPn43
import Derived.Test.YtmkdgnmmebldgaaPn44
import Derived.Test.YtmkdgnmmebldgaaPn45
import Derived.Test.YtmkdgnmmebldgaaPn46
import Derived.Test.YtmkdgnmmebldgaaPn2
import Derived.Test.YtmkdgnmmebldgaaPn6
import Derived.Test.YtmkdgnmmebldgaaPn4
import Derived.Laws.BitsAllLaws
namespace Go.Proofs.Ytmkdgnmmebldgaa
open Go.RowKit Go.Deep
theorem walk_step (w0 : World) (F : Nat) (pa ja sa : Option Addr) (pc jc sc : Nat) (ps : List MPiece) (js : List MJoint) (ss : List MPiece) (over : Int) (n : Nat) (R : Hid (Right ps js ss)) (HP : Hid (PiecesAt w0 pa ps)) (HJ : Hid (JointsAt w0 ja js)) (HS : Hid (PiecesAt w0 sa ss)) (ho0 : 0 ≤ over) (ho1 : over ≤ 100000)
    (hfl : Hid (∀ (B Q : Nat) (la : Option Addr) (lc : Nat) (lies : List MLie) (pl : Int) (n : Nat), LB w0 B F Q pa ja sa la ps js ss lies → LookSpec w0 B F Q pa ja sa la pc jc sc lc ps js ss lies pl n))
    (ih : Hid (WalkSpec w0 F pa ja sa pc jc sc ps js ss over n))
    (a0 : Option Addr) (k0 : Nat) (a1 : Option Addr) (k1 : Nat) (a2 : Option Addr) (k2 : Nat) (a3 : Option Addr) (k3 : Nat) (i : Nat) (pre : List MStep) (p : Nat) (way : Int) (lies : List MLie) (crosses : List Int) (pos : Int) (xo : Option Addr) (yo t : Nat) (pr : List (RAddr × MRoute)) (w : World) (ok : Hid (WalkOk ps js ss i pre ⟨p, way⟩ lies crosses pos)) (hn : Hid (n + 1 + pre.length = 2 * ps.length + 2))
    (hs : Hid (WS w0 w F pa ja sa pc jc sc ps.length js.length ss.length over xo yo t pr)) (hk : Hid (RKeep w F ⟨a0, k0, a1, k1, a2, k2, a3, k3, none, 0, none, 0⟩ (walkR ps ss i pre lies crosses))) (hnil : Hid (NilR ⟨a0, k0, a1, k1, a2, k2, a3, k3, none, 0, none, 0⟩ (walkR ps ss i pre lies crosses))) (ht : t ≤ 100000) (hpr : pr.length ≤ 301) :
    Calls Try.prog 44 #[.pointer (some ⟨F, 0, none⟩), .agg #[.int .i64 i, .int .i64 0, .slice a0 pre.length k0, .slice a1 lies.length k1, .slice a2 crosses.length k2, .slice a3 pre.length k3, .slice none 0 0, .slice none 0 0], .int .i64 p, .int .i64 way, .int .i64 (farI ps p pos way)] w (WalkPost w0 w F pa ja sa pc jc sc ps js ss over (n + 1) t (.slice xo pr.length yo) (pr.map Prod.snd) (evs ps js ss (n + 1) (pathOf i (pre ++ [⟨p, way⟩]) lies crosses) pos)) := by
  by_cases hl : pr.length ≤ 300 ∧ t + 1 ≤ 20000
  rotate_left
  · exact walk_first w0 F pa ja sa pc jc sc ps js ss over n R HP HJ HS ho0 ho1 hfl ih a0 k0 a1 k1 a2 k2 a3 k3 i pre p way lies crosses pos xo yo t pr w ok hn hs hk hnil ht hpr (Or.inl hl)
  by_cases hnb : 0 ≤ nextB ss p way pos ss.length
  · exact walk_first w0 F pa ja sa pc jc sc ps js ss over n R HP HJ HS ho0 ho1 hfl ih a0 k0 a1 k1 a2 k2 a3 k3 i pre p way lies crosses pos xo yo t pr w ok hn hs hk hnil ht hpr (Or.inr (Or.inl hnb))
  by_cases hin : (⟨(p : Int), way⟩ : MStep) ∈ pre
  · exact walk_first w0 F pa ja sa pc jc sc ps js ss over n R HP HJ HS ho0 ho1 hfl ih a0 k0 a1 k1 a2 k2 a3 k3 i pre p way lies crosses pos xo yo t pr w ok hn hs hk hnil ht hpr (Or.inr (Or.inr hin))
  have hnb' : nextB ss p way pos ss.length < 0 := by omega
  exact walk_on w0 F pa ja sa pc jc sc ps js ss over n R HP HJ HS ho0 ho1 hfl ih a0 k0 a1 k1 a2 k2 a3 k3 i pre p way lies crosses pos xo yo t pr w ok hn hs hk hnil ht hpr hl hnb' hin
theorem walkS_any (w0 : World) (F : Nat) (pa ja sa : Option Addr) (pc jc sc : Nat) (ps : List MPiece) (js : List MJoint) (ss : List MPiece) (over : Int) (R : Hid (Right ps js ss)) (HP : Hid (PiecesAt w0 pa ps)) (HJ : Hid (JointsAt w0 ja js)) (HS : Hid (PiecesAt w0 sa ss)) (ho0 : 0 ≤ over) (ho1 : over ≤ 100000) : ∀ n, WalkSpec w0 F pa ja sa pc jc sc ps js ss over n
  | 0 => fun a0 k0 a1 k1 a2 k2 a3 k3 i pre p way lies crosses pos xo yo t pr w ok hn _ _ _ _ _ => absurd hn (by have := ok.few; omega)
  | n + 1 => fun a0 k0 a1 k1 a2 k2 a3 k3 i pre p way lies crosses pos xo yo t pr w ok hn hs hk hnil ht hpr =>
    walk_step w0 F pa ja sa pc jc sc ps js ss over n R HP HJ HS ho0 ho1 (fun B Q la lc lies pl n hb => flank_any w0 B F Q pa ja sa la pc jc sc lc ps js ss lies pl R hb n) (walkS_any w0 F pa ja sa pc jc sc ps js ss over R HP HJ HS ho0 ho1 n) a0 k0 a1 k1 a2 k2 a3 k3 i pre p way lies crosses pos xo yo t pr w ok hn hs hk hnil ht hpr
theorem specRoutes_any (pa ja sa : Option Addr) (pc jc sc : Nat) (ps : List MPiece) (js : List MJoint) (ss : List MPiece) (over : Int) (w : World) (hp : Hid (PiecesAt w pa ps)) (hj : Hid (JointsAt w ja js)) (hs : Hid (PiecesAt w sa ss)) :
    Calls Try.prog 10 #[.agg #[.slice pa ps.length pc, .slice ja js.length jc], .slice sa ss.length sc, .int .i64 over] w fun e w' => ∃ a c, e = .returned (.slice a (routesF ps js ss over).length c) ∧ RoutesAt w' a (routesF ps js ss over) ∧ (a = none → c = 0) ∧ Below w.heap.size w w' :=
  specRoutes_of pa ja sa pc jc sc ps js ss over w hp hj hs (fun F _ R h0 h1 n => walkS_any w F pa ja sa pc jc sc ps js ss over R hp hj hs h0 h1 n)
end Go.Proofs.Ytmkdgnmmebldgaa

namespace Go.Proofs.Ytmkdgnmmebldgaa
open Go.RowKit
def metL (out : List MEnd) (f : MFlank) : Bool := out.any fun x => x.piece == f.of && x.side == f.lie
def needStep (out : List MEnd) (f : MFlank) : List MEnd := if f.kind = 3 ∧ metL out f = false then out ++ [⟨f.of, f.lie⟩] else out
def needsF (lies : List MEnd) (flanks : List MFlank) : List MEnd := flanks.foldl needStep lies
theorem any_take_succ {α : Type} (p : α → Bool) (l : List α) (k : Nat) (hk : k < l.length) : (l.take (k + 1)).any p = ((l.take k).any p || p l[k]) := by
  rw [List.take_succ_eq_append_getElem hk, List.any_append]
  simp
theorem fold_take_succ {α β : Type} (f : β → α → β) (b : β) (l : List α) (k : Nat) (hk : k < l.length) : (l.take (k + 1)).foldl f b = f ((l.take k).foldl f b) l[k] := by
  rw [List.take_succ_eq_append_getElem hk, List.foldl_append]
  rfl
theorem needStep_len (out : List MEnd) (f : MFlank) : (needStep out f).length ≤ out.length + 1 := by
  unfold needStep
  split <;> simp
theorem needs_len : ∀ (fs : List MFlank) (out : List MEnd), (fs.foldl needStep out).length ≤ out.length + fs.length
  | [], out => by simp
  | f :: r, out => by
    have h1 := needs_len r (needStep out f)
    have h2 := needStep_len out f
    simp only [List.foldl_cons, List.length_cons]
    omega
end Go.Proofs.Ytmkdgnmmebldgaa

namespace Go.Proofs.Ytmkdgnmmebldgaa
open Go.RowKit Go.Deep
theorem flatE_take (es : List MEnd) (k : Nat) (hk : k < es.length) : flatE (es.take k) ++ [.int .i64 es[k].piece, .int .i64 es[k].side] = flatE (es.take (k + 1)) := by
  rw [List.take_succ_eq_append_getElem hk, flatE_snoc]
  rfl
theorem needs_succ (lies : List MEnd) (fs : List MFlank) (m : Nat) (hm : m < fs.length) : needsF lies (fs.take (m + 1)) = needStep (needsF lies (fs.take m)) fs[m] := fold_take_succ needStep lies fs m hm
theorem needs_take_len (lies : List MEnd) (fs : List MFlank) (m : Nat) : (needsF lies (fs.take m)).length ≤ lies.length + fs.length := by
  have h1 := needs_len (fs.take m) lies
  have h2 : (fs.take m).length ≤ fs.length := by rw [List.length_take]; omega
  unfold needsF
  omega
set_option maxRecDepth 4000 in
set_option maxHeartbeats 4000000 in
theorem specNeeds_any (d : RAddr) (r : MRoute) (w : World) (h1 : Hid (EndsAt w d.a1 r.lies)) (h5 : Hid (FlanksAt w d.a5 r.flanks)) (hl1 : r.lies.length ≤ 1048576) (hl5 : r.flanks.length ≤ 1048576) :
    Calls Try.prog 19 #[routeV d r] w fun e w' => ∃ x y, e = .returned (.slice x (needsF r.lies r.flanks).length y) ∧ w'.ownsRow w.heap.size 48 2 (.slice x (needsF r.lies r.flanks).length y) (needsF r.lies r.flanks).length (flatE (needsF r.lies r.flanks)) ∧ Below w.heap.size w w' := by
  unfold routeV
  obtain ⟨a0, c0, a1, c1, a2, c2, a3, c3, a4, c4, a5, c5⟩ := d
  dsimp only at h1 h5 ⊢
  go_enter Try.func19, Try.ntmps19
  go_wp2_with fail
  generalize hW : w.alloc _ = W
  have e3 : W.cell? ⟨w.heap.size, 3, none⟩ = some (.slice a1 r.lies.length c1) := by rw [← hW]; simp [go_sem]
  have e7 : W.cell? ⟨w.heap.size, 7, none⟩ = some (.slice a5 r.flanks.length c5) := by rw [← hW]; simp [go_sem]
  have hz : w.heap.size + 1 = W.heap.size := by rw [← hW]; simp
  have hbW : Below w.heap.size w W := by rw [← hW]; exact blo
  have H1 := hidP (h1.out.below hbW)
  have H5 := hidP (h5.out.below hbW)
  clear hW h1 h5
  go_loopw [3, 14] (fun v i wr => ∃ (k : Nat) (x : Option Addr) (y : Nat), k ≤ r.lies.length ∧ i = .int .i64 k ∧ v = .slice x k y ∧ Hid (wr.ownsRow W.heap.size 48 2 (.slice x k y) k (flatE (r.lies.take k))) ∧ Below W.heap.size W wr) (fun _ i _ => r.lies.length - (intOf i).toNat)
  case atStart => exact ⟨0, none, 0, Nat.zero_le _, rfl, rfl, World.ownsRow_nil _ _ _ _, Below.refl _ _⟩
  case round =>
    obtain ⟨k, x, y, hk, rfl, rfl, ho, hb⟩ := hrel
    have hbs := hb.size
    by_cases hk' : k < r.lies.length
    · obtain ⟨b1, off1, rfl, hpc⟩ := H1.out.2.resolve_left (fun h => by rw [h] at hk'; exact absurd hk' (Nat.not_lt_zero _))
      obtain ⟨d0, d1⟩ := (hpc.below hb) k hk'
      have hz1 := cellLt d0
      clear hpc
      go_wp2_with (at_builtin; refine wpList_push rfl (.tmp 18) (.tmp 20) 38 rfl W.heap.size 48 _ 2 16 Try.underlying38 Try.infoLie rfl (by decide) (.slice x k y) k (flatE (r.lies.take k)) rfl (ho.out.alloc _) (wr.heap.size + 1) (by simp) [.int .i64 r.lies[k].piece, .int .i64 r.lies[k].side] rfl rfl (by simp [Value.oneCell']) (by unfold maxLen; omega) (by omega) (by simp; omega) ?_; intro x' y' w2 ho2 hg2; have hb2 := push_below (show Below W.heap.size W _ from blo) (ho.out.alloc _) hg2 (by simp; omega); rw [flatE_take _ _ hk'] at ho2; have HO2 := hidP ho2; clear ho2 hg2)
      go_roundw
      case rel => exact ⟨k + 1, x', y', by omega, by go_num, rfl, HO2, hb2⟩
      case measure => simp [intOf]; omega
    · have HT : Hid (r.lies.take k = r.lies) := List.take_of_length_le (by omega)
      have hkk : k = r.lies.length := by omega
      have HO : Hid (wr.ownsRow W.heap.size 48 2 (.slice x k y) (needsF r.lies (r.flanks.take 0)).length (flatE (needsF r.lies (r.flanks.take 0)))) := by have := ho.out; rw [HT.out] at this; rw [hkk] at this ⊢; exact this
      have e7' := cell_later hb e7
      have hz2 : w.heap.size < wr.heap.size := by omega
      have HB := hidP hb
      clear ho HT
      go_wp2_with fail
      clear e7' hz2 hb hbs
      go_loopw [3, 26] (fun v i wr => ∃ (m : Nat) (x : Option Addr) (y : Nat), m ≤ r.flanks.length ∧ i = .int .i64 m ∧ v = .slice x (needsF r.lies (r.flanks.take m)).length y ∧ Hid (wr.ownsRow W.heap.size 48 2 (.slice x (needsF r.lies (r.flanks.take m)).length y) (needsF r.lies (r.flanks.take m)).length (flatE (needsF r.lies (r.flanks.take m)))) ∧ Below W.heap.size W wr) (fun _ i _ => r.flanks.length - (intOf i).toNat)
      case atStart => exact ⟨0, x, y, Nat.zero_le _, rfl, by rw [hkk]; rfl, by rw [hkk] at HO; exact HO, HB.out⟩
      case round =>
        clear HO HB hkk hk hk'
        obtain ⟨m, x, y, hm, rfl, rfl, ho, hb⟩ := hrel
        have hbs := hb.size
        by_cases hm' : m < r.flanks.length
        · have HNL := hidP (needs_take_len r.lies r.flanks m)
          have HNS := hidP (needs_succ r.lies r.flanks m hm')
          generalize hN : needsF r.lies (r.flanks.take m) = out at *
          clear hN
          have hol : out.length ≤ 2097152 := by have := HNL.out; omega
          obtain ⟨b1, off1, rfl, hpc⟩ := H5.out.2.resolve_left (fun h => by rw [h] at hm'; exact absurd hm' (Nat.not_lt_zero _))
          obtain ⟨d0, d1, d2, d3⟩ := (hpc.below hb) m hm'
          have hz1 := cellLt d0
          clear hpc
          cases hK : (r.flanks[m].kind != 3)
          rotate_left
          · have HE : Hid (needsF r.lies (r.flanks.take (m + 1)) = out) := by
              unfold Hid
              rw [HNS.out, needStep, if_neg (by rintro ⟨h, _⟩; rw [h] at hK; simp at hK)]
            go_wp2_with fail
            go_roundw
            case rel => exact ⟨m + 1, x, y, by omega, by go_num, by rw [HE.out], by rw [HE.out]; exact (ho.out.alloc _), blo⟩
            case measure => simp [intOf]; omega
          · have hK3 : r.flanks[m].kind = 3 := by simpa using hK
            have HK3 := hidP hK3
            clear hK3
            go_wp2_with fail
            generalize hW2 : wr.alloc _ = W2
            have f2 : W2.cell? ⟨wr.heap.size, 2, none⟩ = some (.int .i64 r.flanks[m].of) := by rw [← hW2]; simp [go_sem]
            have f3 : W2.cell? ⟨wr.heap.size, 3, none⟩ = some (.int .i64 r.flanks[m].lie) := by rw [← hW2]; simp [go_sem]
            have HO2 : Hid (W2.ownsRow W.heap.size 48 2 (.slice x out.length y) out.length (flatE out)) := by rw [← hW2]; exact ho.out.alloc _
            have hb2 : Below W.heap.size W W2 := by rw [← hW2]; exact blo
            have hz3 : wr.heap.size < W2.heap.size := by rw [← hW2]; simp
            clear hW2 ho hb hbs d0 d1 d2 d3 hK hz1
            obtain ⟨xa, ya, hxy, HEA, _, _⟩ := ownE HO2.out (by unfold maxLen; omega)
            cases hxy
            have HEA' := hidP HEA
            clear HEA
            have hbs2 := hb2.size
            go_loopw [8, 35] (fun mt i wr3 => ∃ (q : Nat), q ≤ out.length ∧ i = .int .i64 q ∧ mt = .bool (metL (out.take q) r.flanks[m]) ∧ Below W2.heap.size W2 wr3) (fun _ i _ => out.length - (intOf i).toNat)
            case atStart => exact ⟨0, Nat.zero_le _, rfl, rfl, Below.refl _ _⟩
            case round =>
              obtain ⟨q, hq, rfl, rfl, hb3⟩ := hrel
              have hbs3 := hb3.size
              have g2 := cell_later hb3 f2
              have g3 := cell_later hb3 f3
              have hz4 := Nat.lt_of_lt_of_le hz3 hb3.size
              by_cases hq' : q < out.length
              · obtain ⟨b4, off4, rfl, hpc4⟩ := HEA'.out.2.resolve_left (fun h => by rw [h] at hq'; exact absurd hq' (Nat.not_lt_zero _))
                obtain ⟨k0, k1⟩ := (hpc4.below hb3) q hq'
                clear hpc4
                have HS : Hid (metL (out.take (q + 1)) r.flanks[m] = (metL (out.take q) r.flanks[m] || (out[q].piece == r.flanks[m].of && out[q].side == r.flanks[m].lie))) := any_take_succ _ out q hq'
                cases t0 : metL (out.take q) r.flanks[m] <;> cases t1 : (out[q].piece == r.flanks[m].of) <;> cases t2 : (out[q].side == r.flanks[m].lie)
                all_goals
                  have HS2 := HS.out
                  rw [t0, t1, t2] at HS2
                  simp only [Bool.or_true, Bool.or_false, Bool.and_true, Bool.and_false, Bool.and_self] at HS2
                  have HS3 := hidP HS2
                  clear HS HS2 t0
                  go_wp2_with fail
                  go_roundw
                  case rel => exact ⟨q + 1, by omega, by go_num, by rw [HS3.out], blo⟩
                  case measure => simp [intOf]; omega
              · have HTk : Hid (out.take q = out) := List.take_of_length_le (by omega)
                rw [HTk.out]
                have HO3 := hidP (owns_below HO2.out hb3)
                have hb4 := hb2.trans (hb3.mono hb2.size)
                have hbs4 := hb4.size
                clear HTk HO2
                cases hM : metL out r.flanks[m]
                · have HE : Hid (needsF r.lies (r.flanks.take (m + 1)) = out ++ [⟨r.flanks[m].of, r.flanks[m].lie⟩]) := by
                    unfold Hid
                    rw [HNS.out, needStep, if_pos ⟨HK3.out, hM⟩]
                  have HL : Hid ((out ++ [(⟨r.flanks[m].of, r.flanks[m].lie⟩ : MEnd)]).length = out.length + 1) := by unfold Hid; simp
                  have HF : Hid (flatE out ++ [.int .i64 r.flanks[m].of, .int .i64 r.flanks[m].lie] = flatE (out ++ [⟨r.flanks[m].of, r.flanks[m].lie⟩])) := by unfold Hid; rw [flatE_snoc]; rfl
                  clear hM
                  go_wp2_with (at_builtin; refine wpList_push rfl (.tmp 57) (.tmp 63) 38 rfl W.heap.size 48 _ 2 16 Try.underlying38 Try.infoLie rfl (by decide) (.slice x out.length y) out.length (flatE out) rfl HO3.out wr.heap.size rfl [.int .i64 r.flanks[m].of, .int .i64 r.flanks[m].lie] rfl rfl (by simp [Value.oneCell']) (by unfold maxLen; omega) (by omega) (by omega) ?_; intro x' y' w2 ho2 hg2; have hb5 := push_below hb4 HO3.out hg2 (by omega); rw [HF.out] at ho2; have HO4 := hidP ho2; clear ho2 hg2)
                  go_roundw
                  case rel => exact ⟨m + 1, x', y', by omega, by go_num, by rw [HE.out, HL.out], by rw [HE.out, HL.out]; exact HO4, hb5⟩
                  case measure => simp [intOf]; omega
                · have HE : Hid (needsF r.lies (r.flanks.take (m + 1)) = out) := by
                    unfold Hid
                    rw [HNS.out, needStep, if_neg (by rintro ⟨_, h⟩; rw [hM] at h; simp at h)]
                  clear hM
                  go_wp2_with fail
                  go_roundw
                  case rel => exact ⟨m + 1, x, y, by omega, by go_num, by rw [HE.out], by rw [HE.out]; exact HO3, hb4⟩
                  case measure => simp [intOf]; omega
        · have HT : Hid (r.flanks.take m = r.flanks) := List.take_of_length_le (by omega)
          rw [HT.out] at ho ⊢
          clear HT
          go_wp2_with fail
          go_ret
          exact ⟨x, y, rfl, owns_base ho.out (by omega), hbW.trans (hb.mono hbW.size)⟩
end Go.Proofs.Ytmkdgnmmebldgaa

namespace Go.Proofs.Ytmkdgnmmebldgaa
open Go.RowKit Go.Deep
end Go.Proofs.Ytmkdgnmmebldgaa

namespace Go.Proofs.Ytmkdgnmmebldgaa
open Go.RowKit Go.Deep
structure ShortN (r : MRoute) : Prop where
  lies : r.lies.length ≤ 1048576
  flanks : r.flanks.length ≤ 1048576
end Go.Proofs.Ytmkdgnmmebldgaa

namespace Go.Proofs.Ytmkdgnmmebldgaa
open Go.RowKit Go.Deep
def RowsOwn (w : World) (B : Nat) (cells : List Value) (tt : List (List Int)) : Prop :=
  cells.length = tt.length ∧ ∀ i (h : i < tt.length), ∃ v, cells[i]? = some v ∧ w.ownsRow B 3 1 v tt[i].length (flatN tt[i])
theorem RowsOwn.below {w w' : World} {B : Nat} {cells : List Value} {tt : List (List Int)} (h : RowsOwn w B cells tt) (hb : Below w.heap.size w w') : RowsOwn w' B cells tt := by
  refine ⟨h.1, fun i hi => ?_⟩
  obtain ⟨v, h1, h2⟩ := h.2 i hi
  exact ⟨v, h1, owns_below h2 hb⟩
theorem RowsOwn.push {w w' : World} {B B' n : Nat} {v r : Value} {cells xs : List Value} {tt : List (List Int)} {row : List Int} (h : RowsOwn w B cells tt) (ho : w.ownsRow B' 34 1 v n xs) (hr : w.ownsRow B 3 1 r row.length (flatN row)) (hg : w.grownBy w' v.ownBlock) : RowsOwn w' B (cells ++ [r]) (tt ++ [row]) := by
  refine ⟨by simp [h.1], fun i hi => ?_⟩
  by_cases e : i < tt.length
  · obtain ⟨u, h1, h2⟩ := h.2 i e
    refine ⟨u, by rw [List.getElem?_append_left (by rw [h.1]; exact e)]; exact h1, ?_⟩
    rw [List.getElem_append_left e]
    exact h2.kept hg (owns_ne (by decide) h2 ho)
  · have : i = tt.length := by simp at hi; omega
    subst this
    refine ⟨r, by rw [← h.1]; simp, ?_⟩
    rw [List.getElem_append_right (Nat.le_refl _)]
    simp only [Nat.sub_self, List.getElem_cons_zero]
    exact hr.kept hg (owns_ne (by decide) hr ho)
def RowsApart (cells : List Value) : Prop := ∀ (i j : Nat) (u v : Value) (b : Nat), cells[i]? = some u → cells[j]? = some v → u.ownBlock = some b → v.ownBlock = some b → i = j
theorem RowsApart.push {w : World} {B M : Nat} {cells : List Value} {tt : List (List Int)} {r : Value} (h : RowsApart cells) (ho : RowsOwn w B cells tt) (hM : w.heap.size ≤ M) (hr : ∀ b, r.ownBlock = some b → M ≤ b) : RowsApart (cells ++ [r]) := by
  have old : ∀ i u b, i < cells.length → cells[i]? = some u → u.ownBlock = some b → b < w.heap.size := by
    intro i u b hi hu hb
    obtain ⟨v, h1, h2⟩ := ho.2 i (by rw [← ho.1]; exact hi)
    rw [hu] at h1
    cases h1
    exact (h2.lt b hb).2
  intro i j u v b hu hv hub hvb
  by_cases hi : i < cells.length <;> by_cases hj : j < cells.length
  · rw [List.getElem?_append_left hi] at hu
    rw [List.getElem?_append_left hj] at hv
    exact h i j u v b hu hv hub hvb
  · rw [List.getElem?_append_left hi] at hu
    have h1 := old i u b hi hu hub
    rw [List.getElem?_append_right (by omega)] at hv
    have hj0 : j - cells.length = 0 := by have := (List.getElem?_eq_some_iff.1 hv).1; simp at this; omega
    rw [hj0] at hv
    simp at hv
    subst hv
    have := hr b hvb
    omega
  · rw [List.getElem?_append_left hj] at hv
    have h1 := old j v b hj hv hvb
    rw [List.getElem?_append_right (by omega)] at hu
    have hi0 : i - cells.length = 0 := by have := (List.getElem?_eq_some_iff.1 hu).1; simp at this; omega
    rw [hi0] at hu
    simp at hu
    subst hu
    have := hr b hub
    omega
  · have h1 := (List.getElem?_eq_some_iff.1 hu).1
    have h2 := (List.getElem?_eq_some_iff.1 hv).1
    simp at h1 h2
    omega
end Go.Proofs.Ytmkdgnmmebldgaa

namespace Go.Proofs.Ytmkdgnmmebldgaa
open Go.RowKit
structure WfR (r : MRoute) : Prop where
  lies : ∀ i (h : i < r.lies.length), (Lit.int .i64 r.lies[i].piece).wf = true ∧ (Lit.int .i64 r.lies[i].side).wf = true
  flanks : ∀ i (h : i < r.flanks.length), (Lit.int .i64 r.flanks[i].of).wf = true ∧ (Lit.int .i64 r.flanks[i].lie).wf = true
end Go.Proofs.Ytmkdgnmmebldgaa
