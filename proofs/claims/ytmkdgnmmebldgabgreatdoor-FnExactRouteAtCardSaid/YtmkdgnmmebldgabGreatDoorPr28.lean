import Derived.Test.YtmkdgnmmebldgabGreatDoorPr27
import Derived.RangeFuncSeq
import Derived.OwnWalkIn
import Derived.RangeFuncLeaves
import Derived.RangeFuncNested
import Derived.Test.YtmkdgnmmebldgabGreatDoorPr20
import Derived.RangeFuncIn
import Derived.Deep.LoopGhost
set_option maxRecDepth 100000
set_option maxHeartbeats 8000000
namespace Go.Proofs.YtmkdgnmmebldgabGreatDoor
open Go.RowKit Go.Deep Go.Maps
theorem beyond3 {k t:Nat}(hk:k<3)(ht:t ∈ beyondF 3 k):max k t=1∨max k t=2:=by
 have:k=0∨k=1∨k=2:=by omega
 rcases this with rfl | rfl | rfl
 ·have:t=1∨t=2:=by simpa [beyondF] using ht
  omega
 ·have:t=0:=by simpa [beyondF] using ht
  omega
 ·have:t=0:=by simpa [beyondF] using ht
  omega
theorem WalkOk.over {ps:List MPiece}{js:List MJoint}{ss:List MPiece}(R:Right ps js ss){i:Nat}{pre:List MStep}{s:MStep}{lies:List MLie}{crosses:List Int}{pos:Int}(h:WalkOk ps js ss i pre s lies crosses pos)(hr:s ∉ pre)
  {j k t:Nat} (hj:j<js.length) (hk:k<js[j].ends.length) (ht:t ∈ beyondF (kindE js j) k) {q:MPath} (hq:overP js (pathOf i (pre++[s]) lies crosses) j k t=some q) :
  ∃ lies' crosses',q=pathOf i (pre++[s]++[stepFromE (endE js j t)]) lies' crosses'∧WalkOk ps js ss i (pre++[s]) (stepFromE (endE js j t)) lies' crosses' (endAt ps (endE js j t)):=by
 have hkd:=R.kind j hj
 have hke:=kindE_at hj
 have htl:t<js[j].ends.length:=beyond_lt hkd.2.2 hk (by rw [← hke];exact ht)
 have hve:ValidE ps (endE js j t):=by
  rw [endE_at hj htl]
  exact R.ends j hj t htl
 have hcl:=h.cl
 by_cases h4:kindE js j=4
 ·rw [over_cross h4] at hq
  injection hq with hq
  exact ⟨lies,crosses++[(j:Int)],hq.symm,h.next R hr hve h.lv h.ld (by simp;exact hcl)⟩
 ·by_cases h3:kindE js j=3
  ·by_cases hz:lieF lies j=0
   ·rw [over_new h3 hz] at hq
    injection hq with hq
    have hna:¬ lies.any (fun l=>l.piece==(j:Int))=true:=fun ha=>lieF_any h.lv ha hz
    have hk3:js[j].kind=3:=by rw [← hke];exact h3
    have hmx:=beyond3 (k:=k) (t:=t) (by have:=hkd.2.2;omega) (by rw [← h3];exact ht)
    exact ⟨_,crosses,hq.symm,h.next R hr hve (lies_push h.lv hj hk3 (by omega)) (lies_pushd h.ld hna) (by omega)⟩
   ·by_cases hm:lieF lies j=(max k t:Nat)
    ·rw [over_same h3 hm hz] at hq
     injection hq with hq
     exact ⟨lies,crosses,hq.symm,h.next R hr hve h.lv h.ld (by omega)⟩
    ·rw [over_other h3 hm hz] at hq
     exact absurd hq (by simp)
  ·have hq2:overP js (pathOf i (pre++[s]) lies crosses) j k t=some (pathOf i (pre++[s]++[stepFromE (endE js j t)]) lies crosses):=by
    unfold overP
    dsimp only
    rw [if_neg h4,if_neg h3]
    rfl
   rw [hq2] at hq
   injection hq with hq
   exact ⟨lies,crosses,hq.symm,h.next R hr hve h.lv h.ld (by omega)⟩
def PAway (K:Nat→Prop)(w:World)(d:PAddr)(p:MPath):Prop := ∀ u,Only K w u→PListsAt u d p
theorem PAway.at {K:Nat→Prop}{w:World}{d:PAddr}{p:MPath}(h:PAway K w d p):PListsAt w d p:=h w (Only.refl K w)
theorem PAway.below {K:Nat→Prop}{w w':World}{d:PAddr}{p:MPath}(h:PAway K w d p)(hb:Below w.heap.size w w'):PAway K w' d p:=fun u hu=>h u ((Only.of_below hb).trans hu)
theorem PAway.thru {K K':Nat→Prop}{w w':World}{d:PAddr}{p:MPath}(h:PAway K w d p)(ho:Only K w w')(hg:Grow K K' w):PAway K' w' d p:=fun u hu=>h u (ho.thru hg hu)
def walkerV (KT:Nat)(d:PAddr)(p:MPath)(l:Nat):Value:=.agg #[.pointer (some ⟨KT,0,none⟩),.int .i64 p.start,.int .i64 p.stop,.bool p.ended,.slice d.a0 p.steps.length d.c0,.slice d.a1 p.lies.length d.c1,.slice d.a2 p.crosses.length d.c2,.func (.yield l) #[] #[]]
structure Rounds (w0:World)(l:Nat)(Inv:(Nat→Prop)→List MPath→World→Prop)(Stop:List MPath→World→Prop):Prop where
 lt:∀ K E W,Inv K E W→∀ k,K k→k<W.heap.size
 base:∀ K E W,Inv K E W→Below w0.heap.size w0 W
 keep:∀ K E W W',Inv K E W→Below W.heap.size W W'→Inv K E W'
 keepS:∀ E W W',Stop E W→Below W.heap.size W W'→Stop E W'
 yield:∀ K E W d p,Inv K E W→PAway K W d p→YieldAt Fence.wide 0 Tryz.prog l #[pathV d p] W (Visited (fun K' u=>Inv K' (E++[p]) u) (fun u=>Stop (E++[p]) u) K W)
def StopIn (Stop:List MPath→World→Prop)(E:List MPath)(u:World):Prop := ∃ E1 E2,E=E1++E2∧Stop E1 u
def ComeAt (KT l:Nat)(ps:List MPiece)(js:List MJoint)(ss:List MPiece)(Inv:(Nat→Prop)→List MPath→World→Prop)(Stop:List MPath→World→Prop)(n:Nat):Prop:=
 ∀ i pre s lies crosses pos d K E w,WalkOk ps js ss i pre s lies crosses pos→2*ps.length+2≤n+pre.length→Inv K E w→PAway K w d (pathOf i (pre++[s]) lies crosses) →
  Calls Tryz.prog 172 #[walkerV KT d (pathOf i (pre++[s]) lies crosses) l,.int .i64 pos] w
   (Visited (fun K' u=>Inv K' (E++evs ps js ss n (pathOf i (pre++[s]) lies crosses) pos) u) (StopIn Stop (E++evs ps js ss n (pathOf i (pre++[s]) lies crosses) pos)) K w)
theorem pass_any (w0:World)(KT M:Nat)(pa ja sa:Option Addr)(pc jc sc:Nat)(ps:List MPiece)(js:List MJoint)(ss:List MPiece)(R:Hid (Right ps js ss))(hT:Hid (TTrack w0 KT M pa ja sa pc jc sc ps js ss))
  (l:Nat) (Inv:(Nat→Prop)→List MPath→World→Prop) (Stop:List MPath→World→Prop) (RD:Hid (Rounds w0 l Inv Stop)) (n:Nat) (IH:Hid (ComeAt KT l ps js ss Inv Stop n))
  (i:Nat) (pre:List MStep) (s:MStep) (lies:List MLie) (crosses:List Int) (pos:Int) (d:PAddr) (K:Nat→Prop) (E:List MPath) (w:World) (hwk:Hid (WalkOk ps js ss i pre s lies crosses pos)) (hr:Hid (s ∉ pre)) (hn:Hid (2*ps.length+2≤n+1+pre.length))
  (j k t:Nat) (hj:j<js.length) (hk:Hid (k<js[j].ends.length)) (ht:Hid (t ∈ beyondF (kindE js j) k)) (hI:Hid (Inv K E w)) (hP:Hid (PAway K w d (pathOf i (pre++[s]) lies crosses))) :
  Calls Tryz.prog 193 #[walkerV KT d (pathOf i (pre++[s]) lies crosses) l,passV j k t (kindE js j)] w
   (Visited (fun K' u=>Inv K' (E++kidF ps js ss n (pathOf i (pre++[s]) lies crosses) j k t) u) (StopIn Stop (E++kidF ps js ss n (pathOf i (pre++[s]) lies crosses) j k t)) K w):=by
 have hkd:=R.out.kind j hj
 have hke:=kindE_at hj
 have htl:t<js[j].ends.length:=beyond_lt hkd.2.2 hk.out (by rw [← hke];exact ht.out)
 have h1:1≤kindE js j:=by rw [hke];exact hkd.1
 have h4:kindE js j≤4:=by rw [hke];exact hkd.2.1
 have hee:=endE_at hj htl
 have HVE:Hid (ValidE ps (endE js j t)):=by
  unfold Hid
  rw [hee]
  exact R.out.ends j hj t htl
 obtain ⟨p,hp⟩:∃ p,pathOf i (pre++[s]) lies crosses=p:=⟨_,rfl⟩
 have hbw:=RD.out.base _ _ _ hI.out
 have hlt:=RD.out.lt _ _ _ hI.out
 have HB:Hid (∀ u:World,Below w.heap.size w u→TTrack u KT M pa ja sa pc jc sc ps js ss):=fun u hu=>hT.out.below (hbw.trans (hu.mono hbw.size))
 have HEB:Hid (∀ u:World,Below w.heap.size w u→∀ fr kd:Value,Calls Tryz.prog 204 #[.pointer (some ⟨KT,0,none⟩),.agg #[.int .i64 j,fr,.int .i64 t,kd]] u fun e w'=>e = .returned (endV (endE js j t))∧Below u.heap.size u w'):=fun u hu fr kd=>by
  have h:=endBehind_any KT pa ja sa pc jc sc ps js ss j t fr kd u (HB.out u hu).net hj htl
  rw [← hee] at h
  exact h
 have hcl:=hwk.out.cl
 have hfew:=hwk.out.few
 have hlf:=lies_few hwk.out.lv hwk.out.ld
 have hnp:=R.out.np
 have hnj:=R.out.nj
 have HOV:Hid (∀ u:World,PListsAt u d p→Calls Tryz.prog 205 #[pathV d p,passV j k t (kindE js j),endV (endE js j t)] u fun e w' => ∃ d',e = .returned (.tuple #[pathV d' (overI p j k t (kindE js j) (endE js j t)).1,.bool (overI p j k t (kindE js j) (endE js j t)).2])∧PSound u w' d d' p (overI p j k t (kindE js j) (endE js j t)).1∧Below u.heap.size u w'):=fun u hu =>
  path_over_any d p j k t (kindE js j) (endE js j t) u hu (by rw [← hp];simp [pathOf];omega) (by rw [← hp];simp [pathOf];omega) (by rw [← hp];simp [pathOf];omega) h1 h4
 have HAT:Hid (∀ u:World,Below w.heap.size w u→Calls Tryz.prog 173 #[.pointer (some ⟨KT,0,none⟩),endV (endE js j t)] u fun e w'=>e = .returned (.int .i64 (endAt ps (endE js j t)))∧Below u.heap.size u w'):=fun u hu=>by
  obtain ⟨x,hx,e1,e2⟩:=HVE.out
  obtain ⟨en,hen⟩:∃ en,endE js j t=en:=⟨_,rfl⟩
  rw [hen] at e1 ⊢
  obtain ⟨ep,es⟩:=en
  simp only at e1
  subst e1
  exact at_any KT pa ja sa pc jc sc ps js ss x es u (HB.out u hu).net hx
 have HKF:Hid (∀ q,overP js p j k t=some q→kidF ps js ss n p j k t=evs ps js ss n q (endAt ps (endE js j t))):=fun q hq=>by unfold kidF;rw [hq]
 have HKN:Hid (overP js p j k t=none→kidF ps js ss n p j k t=[]):=fun hq=>by unfold kidF;rw [hq]
 have HNX:Hid (∀ q,overP js p j k t=some q→∃ lies' crosses',q=pathOf i (pre++[s]++[stepFromE (endE js j t)]) lies' crosses'∧WalkOk ps js ss i (pre++[s]) (stepFromE (endE js j t)) lies' crosses' (endAt ps (endE js j t))):=fun q hq=>hwk.out.over R.out hr.out hj hk.out ht.out (by rw [hp];exact hq)
 have HOS:Hid (∀ q,overP js p j k t=some q→overI p j k t (kindE js j) (endE js j t)=(q,true)):=fun q hq=>overI_some hq
 have HON:Hid (overP js p j k t=none→(overI p j k t (kindE js j) (endE js j t)).2=false):=fun hq=>overI_none hq
 rw [hp] at hP ⊢
 have HLT:=hidP hlt
 generalize kidF ps js ss n p j k t=kids at HKF HKN ⊢
 generalize overI p j k t (kindE js j) (endE js j t)=oi at HOV HOS HON
 generalize overP js p j k t=op at HKF HKN HNX HOS HON
 generalize kindE js j=kd at HOV h1 h4 ht hke ⊢
 generalize endE js j t=en at HEB HVE HOV HAT HKF HNX hee
 obtain ⟨oq,ob⟩:=oi
 clear hkd hke htl hee hbw hlt hcl hfew hlf hnp hnj hp h1 h4 hk hj ht
 unfold walkerV passV
 unfold passV at HOV
 unfold pathV endV at HOV
 unfold endV at HEB HAT
 go_enter Tryz.func193,Tryz.ntmps193
 go_upto_region 1 with fail
 generalize hWF:(fun i:Nat=>(#[Value.pointer (some ⟨KT,0,none⟩),.int .i64 p.start,.int .i64 p.stop,.bool p.ended,.slice d.a0 p.steps.length d.c0,.slice d.a1 p.lies.length d.c1,.slice d.a2 p.crosses.length d.c2,.func (.yield l) #[] #[]]:Array Value).getD i (.bool false))=wf
 generalize hW:World.alloc (World.alloc w _) _=W
 have HRP:Hid (W.rowIs w.heap.size 305 8 wf):=by
  unfold Hid
  rw [← hW,← hWF]
  exact (row_of_alloc2 w _ _).alloc _
 have q0:W.cell? ⟨w.heap.size+1,0,none⟩=some (.int .i64 (j:Int)):=by rw [← hW];simp [go_sem]
 have q1:W.cell? ⟨w.heap.size+1,1,none⟩=some (.int .i64 (k:Int)):=by rw [← hW];simp [go_sem]
 have q2:W.cell? ⟨w.heap.size+1,2,none⟩=some (.int .i64 (t:Int)):=by rw [← hW];simp [go_sem]
 have q3:W.cell? ⟨w.heap.size+1,3,none⟩=some (.iface (kindT kd) (.agg #[])):=by rw [← hW];simp [go_sem]
 have HBW:Hid (Below w.heap.size w W):=by rw [← hW];exact blo
 have hzW:w.heap.size+1<W.heap.size:=by rw [← hW];simp
 clear hW
 have c0:W.cell? ⟨w.heap.size,0,none⟩=some (.pointer (some ⟨KT,0,none⟩)):=(HRP.out.cell (i:=0) (by omega)).trans (by rw [← hWF];rfl)
 have c1:W.cell? ⟨w.heap.size,1,none⟩=some (.int .i64 p.start):=(HRP.out.cell (i:=1) (by omega)).trans (by rw [← hWF];rfl)
 have c2:W.cell? ⟨w.heap.size,2,none⟩=some (.int .i64 p.stop):=(HRP.out.cell (i:=2) (by omega)).trans (by rw [← hWF];rfl)
 have c3:W.cell? ⟨w.heap.size,3,none⟩=some (.bool p.ended):=(HRP.out.cell (i:=3) (by omega)).trans (by rw [← hWF];rfl)
 have c4:W.cell? ⟨w.heap.size,4,none⟩=some (.slice d.a0 p.steps.length d.c0):=(HRP.out.cell (i:=4) (by omega)).trans (by rw [← hWF];rfl)
 have c5:W.cell? ⟨w.heap.size,5,none⟩=some (.slice d.a1 p.lies.length d.c1):=(HRP.out.cell (i:=5) (by omega)).trans (by rw [← hWF];rfl)
 have c6:W.cell? ⟨w.heap.size,6,none⟩=some (.slice d.a2 p.crosses.length d.c2):=(HRP.out.cell (i:=6) (by omega)).trans (by rw [← hWF];rfl)
 have c7:W.cell? ⟨w.heap.size,7,none⟩=some (.func (.yield l) #[] #[]):=(HRP.out.cell (i:=7) (by omega)).trans (by rw [← hWF];rfl)
 go_upto_region 2 with (go_at_call 204;refine (HEB.out _ HBW.out _ _).mono ?_;rintro e w2 ⟨rfl,hb2⟩)
 generalize hV:World.alloc w2 _=V
 have hbV:Below W.heap.size W V:=by rw [← hV];exact hb2.trans (((Below.refl _ _).alloc (Nat.le_refl _) _).mono hb2.size)
 have e0:V.cell? ⟨w2.heap.size,0,none⟩=some (.int .i64 en.piece):=by rw [← hV];simp [go_sem]
 have e1:V.cell? ⟨w2.heap.size,1,none⟩=some (.int .i64 en.side):=by rw [← hV];simp [go_sem]
 have hz2:=hb2.size
 have hzV:w2.heap.size<V.heap.size:=by rw [← hV];simp
 clear hV hb2
 replace q0:=cell_later hbV q0
 replace q1:=cell_later hbV q1
 replace q2:=cell_later hbV q2
 replace q3:=cell_later hbV q3
 have HRV:=hidP (HRP.out.of_block (hbV.block _ HRP.out.lt))
 have HBV:=hidP (HBW.out.trans (hbV.mono HBW.out.size))
 replace c0:=cell_later hbV c0
 replace c1:=cell_later hbV c1
 replace c2:=cell_later hbV c2
 replace c3:=cell_later hbV c3
 replace c4:=cell_later hbV c4
 replace c5:=cell_later hbV c5
 replace c6:=cell_later hbV c6
 replace c7:=cell_later hbV c7
 clear hbV HRP HBW
 have HPV:=hidP ((hP.out.below HBV.out).at)
 go_upto_region 3 with (go_at_call 205;refine (HOV.out _ HPV.out).mono ?_;rintro e w3 ⟨d',rfl,hps,hb3⟩)
 generalize hU:World.alloc w3 _=U
 have hbU:Below V.heap.size V U:=by rw [← hU];exact hb3.trans (((Below.refl _ _).alloc (Nat.le_refl _) _).mono hb3.size)
 have hb3U:Below w3.heap.size w3 U:=by rw [← hU];exact (Below.refl _ _).alloc (Nat.le_refl _) _
 have m0:U.cell? ⟨w3.heap.size,0,none⟩=some (.int .i64 oq.start):=by rw [← hU];simp [go_sem]
 have m1:U.cell? ⟨w3.heap.size,1,none⟩=some (.int .i64 oq.stop):=by rw [← hU];simp [go_sem]
 have m2:U.cell? ⟨w3.heap.size,2,none⟩=some (.bool oq.ended):=by rw [← hU];simp [go_sem]
 have m3:U.cell? ⟨w3.heap.size,3,none⟩=some (.slice d'.a0 oq.steps.length d'.c0):=by rw [← hU];simp [go_sem]
 have m4:U.cell? ⟨w3.heap.size,4,none⟩=some (.slice d'.a1 oq.lies.length d'.c1):=by rw [← hU];simp [go_sem]
 have m5:U.cell? ⟨w3.heap.size,5,none⟩=some (.slice d'.a2 oq.crosses.length d'.c2):=by rw [← hU];simp [go_sem]
 have hz3:=hb3.size
 have hzU:w3.heap.size<U.heap.size:=by rw [← hU];simp
 have HB3:=hidP hb3
 have HB3U:=hidP hb3U
 have HPS:=hidP hps
 have HRU:=hidP (HRV.out.of_block (hbU.block _ HRV.out.lt))
 have HBU:=hidP (HBV.out.trans (hbU.mono HBV.out.size))
 replace e0:=cell_later hbU e0
 replace e1:=cell_later hbU e1
 clear hU hbU hb3 hb3U hps q0 q1 q2 q3 c0 c1 c2 c3 c4 c5 c6 c7 HPV HOV HRV
 cases op with
 | none =>
  have hob:ob=false:=HON.out rfl
  subst hob
  have HI2:=hidP (RD.out.keep _ _ _ _ hI.out HBU.out)
  have HKD:=hidP (HKN.out rfl)
  go_wp2_with fail
  go_ret
  exact ⟨true,rfl,Only.of_below HBU.out,fun _=>⟨K,by rw [HKD.out,List.append_nil];exact HI2.out,Grow.refl _ _⟩,fun h=>by cases h⟩
 | some q =>
  have hoq:=HOS.out q rfl
  injection hoq with hq1 hq2
  subst hq1 hq2
  have hz8:=HRU.out.lt
  have HR7:=hidP ((((((HRU.out.set 1 (.int .i64 oq.start)).set 2 (.int .i64 oq.stop)).set 3 (.bool oq.ended)).set 4 (.slice d'.a0 oq.steps.length d'.c0)).set 5 (.slice d'.a1 oq.lies.length d'.c1)).set 6 (.slice d'.a2 oq.crosses.length d'.c2))
  have f1:=HRU.out.frozen 1
  have f2:=HRU.out.frozen 2
  have f3:=HRU.out.frozen 3
  have f4:=HRU.out.frozen 4
  have f5:=HRU.out.frozen 5
  have f6:=HRU.out.frozen 6
  have c1:=HRU.out.cell (i:=1) (by omega)
  have c2:=HRU.out.cell (i:=2) (by omega)
  have c3:=HRU.out.cell (i:=3) (by omega)
  have c4:=HRU.out.cell (i:=4) (by omega)
  have c5:=HRU.out.cell (i:=5) (by omega)
  have c6:=HRU.out.cell (i:=6) (by omega)
  have HKD:=hidP (HKF.out oq rfl)
  go_upto_region 6 with fail
  generalize hZ:World.setCell (World.setCell (World.setCell (World.setCell (World.setCell (World.setCell U _ _) _ _) _ _) _ _) _ _) _ _=Z
  have HRZ:=hidP HR7.out
  rw [hZ] at HRZ
  have hOU:Only (fun k=>k=w.heap.size) U Z:=by
   rw [← hZ]
   exact ((((((Only.refl (fun k=>k=w.heap.size) U).setCell (p:=⟨w.heap.size,1,none⟩) (Or.inl rfl) _).setCell (p:=⟨w.heap.size,2,none⟩) (Or.inl rfl) _).setCell (p:=⟨w.heap.size,3,none⟩) (Or.inl rfl) _).setCell (p:=⟨w.heap.size,4,none⟩) (Or.inl rfl) _).setCell (p:=⟨w.heap.size,5,none⟩) (Or.inl rfl) _).setCell (p:=⟨w.heap.size,6,none⟩) (Or.inl rfl) _
  clear hZ HR7 f1 f2 f3 f4 f5 f6 c1 c2 c3 c4 c5 c6 m0 m1 m2 m3 m4 m5
  replace e0:=hOU.cell e0 (by show ¬ w2.heap.size=w.heap.size;omega)
  replace e1:=hOU.cell e1 (by show ¬ w2.heap.size=w.heap.size;omega)
  have hbZ:Below w.heap.size w Z:=HBU.out.trans (hOU.below (by have h1:=HBU.out.size;omega) (fun k hk e=>by omega))
  have HBZ:=hidP hbZ
  have HO3:Hid (Only (fun x=>K x∨x=w.heap.size) w3 Z):=(Only.of_below HB3U.out).trans (hOU.mono (fun k hk=>Or.inr hk))
  have HPQ:Hid (∀ u,Only K Z u→PListsAt u d' oq):=fun u hu =>
   HPS.out (fun x=>K x∨x=w.heap.size) u (fun x hx=>by rcases hx with hx | hx;exact Nat.lt_of_lt_of_le (HLT.out x hx) HBV.out.size;omega) (HO3.out.trans (hu.mono (fun k hk=>Or.inl hk))) (hP.out u ((Only.of_below HBZ.out).trans hu))
  have x0:Z.cell? ⟨w.heap.size,0,none⟩=some (.pointer (some ⟨KT,0,none⟩)):=(HRZ.out.cell (i:=0) (by omega)).trans (by rw [← hWF];rfl)
  have x1:Z.cell? ⟨w.heap.size,1,none⟩=some (.int .i64 oq.start):=(HRZ.out.cell (i:=1) (by omega)).trans (by simp)
  have x2:Z.cell? ⟨w.heap.size,2,none⟩=some (.int .i64 oq.stop):=(HRZ.out.cell (i:=2) (by omega)).trans (by simp)
  have x3:Z.cell? ⟨w.heap.size,3,none⟩=some (.bool oq.ended):=(HRZ.out.cell (i:=3) (by omega)).trans (by simp)
  have x4:Z.cell? ⟨w.heap.size,4,none⟩=some (.slice d'.a0 oq.steps.length d'.c0):=(HRZ.out.cell (i:=4) (by omega)).trans (by simp)
  have x5:Z.cell? ⟨w.heap.size,5,none⟩=some (.slice d'.a1 oq.lies.length d'.c1):=(HRZ.out.cell (i:=5) (by omega)).trans (by simp)
  have x6:Z.cell? ⟨w.heap.size,6,none⟩=some (.slice d'.a2 oq.crosses.length d'.c2):=(HRZ.out.cell (i:=6) (by omega)).trans (by simp)
  have x7:Z.cell? ⟨w.heap.size,7,none⟩=some (.func (.yield l) #[] #[]):=(HRZ.out.cell (i:=7) (by omega)).trans (by rw [← hWF];rfl)
  obtain ⟨lies',crosses',hoq,hwk'⟩:=HNX.out oq rfl
  have HCM:Hid (∀ u:World,Below Z.heap.size Z u→Calls Tryz.prog 172 #[walkerV KT d' oq l,.int .i64 (endAt ps en)] u (Visited (fun K' u=>Inv K' (E++evs ps js ss n oq (endAt ps en)) u) (StopIn Stop (E++evs ps js ss n oq (endAt ps en))) K u)):=fun u hu=>by
   have hb:Below w.heap.size w u:=HBZ.out.trans (hu.mono HBZ.out.size)
   have hpw:PAway K u d' oq:=fun v hv=>HPQ.out v ((Only.of_below hu).trans hv)
   rw [hoq] at hpw ⊢
   exact IH.out i (pre++[s]) (stepFromE en) lies' crosses' (endAt ps en) d' K E u hwk' (by have h1:=hn.out;simp;omega) (RD.out.keep _ _ _ _ hI.out hb) hpw
  unfold walkerV at HCM
  obtain ⟨S,hS⟩:∃ S:World→Prop,∀ u,S u↔Below Z.heap.size Z u:=⟨_,fun _=>Iff.rfl⟩
  have HS0:=hidP hS
  have r0:∀ u:Held S,World.cell? u.val ⟨w.heap.size,0,none⟩=some (.pointer (some ⟨KT,0,none⟩)):=fun u=>cell_later ((hS u.val).1 u.2) x0
  have r1:∀ u:Held S,World.cell? u.val ⟨w.heap.size,1,none⟩=some (.int .i64 oq.start):=fun u=>cell_later ((hS u.val).1 u.2) x1
  have r2:∀ u:Held S,World.cell? u.val ⟨w.heap.size,2,none⟩=some (.int .i64 oq.stop):=fun u=>cell_later ((hS u.val).1 u.2) x2
  have r3:∀ u:Held S,World.cell? u.val ⟨w.heap.size,3,none⟩=some (.bool oq.ended):=fun u=>cell_later ((hS u.val).1 u.2) x3
  have r4:∀ u:Held S,World.cell? u.val ⟨w.heap.size,4,none⟩=some (.slice d'.a0 oq.steps.length d'.c0):=fun u=>cell_later ((hS u.val).1 u.2) x4
  have r5:∀ u:Held S,World.cell? u.val ⟨w.heap.size,5,none⟩=some (.slice d'.a1 oq.lies.length d'.c1):=fun u=>cell_later ((hS u.val).1 u.2) x5
  have r6:∀ u:Held S,World.cell? u.val ⟨w.heap.size,6,none⟩=some (.slice d'.a2 oq.crosses.length d'.c2):=fun u=>cell_later ((hS u.val).1 u.2) x6
  have r7:∀ u:Held S,World.cell? u.val ⟨w.heap.size,7,none⟩=some (.func (.yield l) #[] #[]):=fun u=>cell_later ((hS u.val).1 u.2) x7
  have r8:∀ u:Held S,World.cell? u.val ⟨w2.heap.size,0,none⟩=some (.int .i64 en.piece):=fun u=>cell_later ((hS u.val).1 u.2) e0
  have r9:∀ u:Held S,World.cell? u.val ⟨w2.heap.size,1,none⟩=some (.int .i64 en.side):=fun u=>cell_later ((hS u.val).1 u.2) e1
  have hS1:S Z.drew:=(hS _).2 ((Below.refl _ _).drew)
  have hne:=held_ne hS1
  clear hS hOU hbZ hoq hwk' x0 x1 x2 x3 x4 x5 x6 x7 e0 e1
  refine wp_region_tree (fun w' => ∃ u:Held S,w'=u.val) 5 (by kernel_rfl) (by kernel_rfl) (held_some hS1) ?_
  (refine wpT_sea 0 ?_;intro K hK;go_big_quiet_op;go_big_quiet_on);(refine wpT_sea 1 ?_;intro K hK;go_big_quiet_op;go_big_quiet_on);(refine wpT_sea 2 ?_;intro K hK;go_big_quiet_op;go_big_quiet_on);(refine wpT_sea 3 ?_;intro K hK;go_big_quiet_op;go_big_quiet_on)
  refine wpT_loud 4 (by rfl) (by kernel_rfl) (by kernel_rfl) ?_
  intro K' hK'
  go_wp2_with (go_at_call 173;refine (HAT.out _ (HBZ.out.trans ((Below.refl _ _).drew.mono HBZ.out.size))).mono ?_;rintro e z2 ⟨rfl,hb2'⟩)
  have hb2:Below Z.heap.size Z z2:=(Below.refl _ _).drew.trans hb2'
  refine hK' _ _ (held_some ((HS0.out _).2 hb2)) ?_
  clear hK' K' hb2' r0 r1 r2 r3 r4 r5 r6 r7 r8 r9 hS1 hne
  have HB2:=hidP hb2
  clear hb2
  refine wpT_done (by kernel_rfl) ?_
  go_wp2_with (go_at_call 172;refine (HCM.out _ HB2.out).mono ?_;rintro e z3 ⟨bb,rfl,ho3,hi3,hs3⟩)
  go_ret
  have hbz:Below w.heap.size w z2:=HBZ.out.trans (HB2.out.mono HBZ.out.size)
  rw [HKD.out]
  exact ⟨bb,rfl,(Only.of_below hbz).trans ho3,fun h=>by obtain ⟨K',h1,h2⟩:=hi3 h;exact ⟨K',h1,h2.mono hbz.size⟩,hs3⟩
theorem stopP_form (js:List MJoint)(ss:List MPiece)(p:MPath)(pos:Int):∃ st en,stopP js ss p pos=⟨p.start,st,en,p.steps,p.lies,p.crosses⟩:=by
 unfold stopP
 split
 ·exact ⟨_,_,rfl⟩
 ·split
  ·exact ⟨_,_,rfl⟩
  ·exact ⟨_,_,rfl⟩
theorem stopP_on {js:List MJoint}{ss:List MPiece}{i:Nat}{L:List MStep}{lies:List MLie}{crosses:List Int}{pos:Int}{st:Int}{en:Bool}(h:stopP js ss (pathOf i L lies crosses) pos=⟨(i:Int),st,en,L,lies,crosses⟩)(he:en=false):st=0:=by
 unfold stopP at h
 split at h
 ·injection h with _ _ h3
  rw [he] at h3
  cases h3
 ·split at h
  ·injection h with _ _ h3
   rw [he] at h3
   cases h3
  ·injection h with _ h2
   exact h2.symm
theorem PListsAt.other {w:World}{d:PAddr}{p:MPath}(h:PListsAt w d p)(st:Int)(en:Bool):PListsAt w d ⟨p.start,st,en,p.steps,p.lies,p.crosses⟩:=
 ⟨h.steps,h.lies,h.crosses,h.nil0,h.nil1,h.nil2,h.cap⟩
theorem PAway.other {K:Nat→Prop}{w:World}{d:PAddr}{p:MPath}(h:PAway K w d p)(st:Int)(en:Bool):PAway K w d ⟨p.start,st,en,p.steps,p.lies,p.crosses⟩:=fun u hu=>(h u hu).other st en
theorem kidsF_app (ps:List MPiece)(js:List MJoint)(ss:List MPiece)(n:Nat)(p:MPath)(j k:Nat)(A B:List Nat):kidsF ps js ss n p j k (A++B)=kidsF ps js ss n p j k A++kidsF ps js ss n p j k B:=by
 simp [kidsF]
def AmidW (Inv:(Nat→Prop)→List MPath→World→Prop)(E:List MPath)(ps:List MPiece)(js:List MJoint)(ss:List MPiece)(n:Nat)(p:MPath)(j k:Nat)(d:PAddr)(L:List Nat)(m:Nat)(K:Nat→Prop)(u:World):Prop:=
 Inv K (E++kidsF ps js ss n p j k (L.take m)) u∧PAway K u d p
theorem Visited.amid {Inv:(Nat→Prop)→List MPath→World→Prop}{Stop:List MPath→World→Prop}{E:List MPath}{ps:List MPiece}{js:List MJoint}{ss:List MPiece}{n:Nat}{p:MPath}{j k:Nat}{d:PAddr}{L:List Nat}{m t:Nat}{K:Nat→Prop}{u:World}{e:Ending}{u':World}
  (ht:L[m]? = some t) (hp:PAway K u d p) (h:Visited (fun K' u=>Inv K' (E++kidsF ps js ss n p j k (L.take m)++kidF ps js ss n p j k t) u) (StopIn Stop (E++kidsF ps js ss n p j k (L.take m)++kidF ps js ss n p j k t)) K u e u') :
  Visited (AmidW Inv E ps js ss n p j k d L (m+1)) (StopIn Stop (E++kidsF ps js ss n p j k L)) K u e u':=by
 obtain ⟨b,e1,ho,h1,h2⟩:=h
 have ht2:L.take (m+1)=L.take m++[t]:=by rw [List.take_add_one,ht,Option.toList]
 refine ⟨b,e1,ho,fun hb=>?_,fun hb=>?_⟩
 ·obtain ⟨K',h3,h4⟩:=h1 hb
  refine ⟨K',⟨?_,hp.thru ho h4⟩,h4⟩
  rw [ht2,kidsF_snoc,← List.append_assoc]
  exact h3
 ·obtain ⟨E1,E2,h3,h4⟩:=h2 hb
  refine ⟨E1,E2++kidsF ps js ss n p j k (L.drop (m+1)),?_,h4⟩
  rw [← List.append_assoc,← h3]
  have:kidsF ps js ss n p j k L=kidsF ps js ss n p j k (L.take (m+1))++kidsF ps js ss n p j k (L.drop (m+1)):=by rw [← kidsF_app,List.take_append_drop]
  rw [this,ht2,kidsF_snoc]
  simp [List.append_assoc]
theorem come_step (w0:World)(KT M:Nat)(pa ja sa:Option Addr)(pc jc sc:Nat)(ps:List MPiece)(js:List MJoint)(ss:List MPiece)(R:Hid (Right ps js ss))(hT:Hid (TTrack w0 KT M pa ja sa pc jc sc ps js ss))
  (l:Nat) (Inv:(Nat→Prop)→List MPath→World→Prop) (Stop:List MPath→World→Prop) (RD:Hid (Rounds w0 l Inv Stop)) (n:Nat) (IH:Hid (ComeAt KT l ps js ss Inv Stop n)):ComeAt KT l ps js ss Inv Stop (n+1):=by
 intro i pre s lies crosses pos d K E w hwk hn hI hP
 have HWK:=hidP hwk
 have HI:=hidP hI
 have HP:=hidP hP
 obtain ⟨p,hp⟩:∃ p,pathOf i (pre++[s]) lies crosses=p:=⟨_,rfl⟩
 obtain ⟨st,en,hq⟩:=stopP_form js ss p pos
 have hls:lastS p=s:=by rw [← hp];exact lastS_snoc i pre s lies crosses
 have h0:0<p.steps.length:=by rw [← hp];simp [pathOf]
 have hbw:=RD.out.base _ _ _ hI
 have HB:Hid (∀ u:World,Below w.heap.size w u→TTrack u KT M pa ja sa pc jc sc ps js ss):=fun u hu=>hT.out.below (hbw.trans (hu.mono hbw.size))
 have HEO:Hid (∀ u:World,Below w.heap.size w u→Calls Tryz.prog 189 #[.pointer (some ⟨KT,0,none⟩),pathV d p,.int .i64 pos] u fun e w'=>e = .returned (.tuple #[.int .i64 st,.bool en])∧Below u.heap.size u w'):=fun u hu=>by
  obtain ⟨x,hx,e1,e2⟩:=hwk.sv
  have h1:=hwk.p1
  have h2:=(R.out.plen x hx).2
  rw [e1,lenI_at hx] at h1
  have h:=endOf_any KT M pa ja sa pc jc sc ps js ss R d p pos u (HB.out u hu) ((hp ▸ hP).below hu).at h0 (by rw [hls];exact hwk.sv) hwk.p0 (by omega)
  rw [hq] at h
  exact h
 rw [hp] at hP HP ⊢
 have HIR:Hid (∀ u:World,PListsAt u d p→Calls Tryz.prog 190 #[.agg #[.int .i64 p.start,.int .i64 st,.bool en,.slice d.a0 p.steps.length d.c0,.slice d.a1 p.lies.length d.c1,.slice d.a2 p.crosses.length d.c2]] u fun e w'=>e = .returned (.bool (roundB p))∧Below u.heap.size u w'):=fun u hu =>
  isRound_any d ⟨p.start,st,en,p.steps,p.lies,p.crosses⟩ u (hu.other st en) h0
 have HLA:Hid (∀ u:World,PListsAt u d p→Calls Tryz.prog 192 #[.agg #[.int .i64 p.start,.int .i64 st,.bool en,.slice d.a0 p.steps.length d.c0,.slice d.a1 p.lies.length d.c1,.slice d.a2 p.crosses.length d.c2]] u fun e w'=>e = .returned (.agg #[.int .i64 s.piece,.int .i64 s.side])∧Below u.heap.size u w'):=fun u hu=>by
  have h:=last_any d ⟨p.start,st,en,p.steps,p.lies,p.crosses⟩ u (hu.other st en) h0
  have e:lastS ⟨p.start,st,en,p.steps,p.lies,p.crosses⟩=s:=hls
  rw [e] at h
  exact h
 have HEV:Hid (en=true∨roundB p=true→evs ps js ss (n+1) p pos=[⟨p.start,st,en,p.steps,p.lies,p.crosses⟩]):=fun h=>by
  rw [evs,hq,if_pos h]
 have HEX:Hid (∃ rest,evs ps js ss (n+1) p pos=⟨p.start,st,en,p.steps,p.lies,p.crosses⟩::rest):=by
  unfold Hid
  rw [evs,hq]
  exact ⟨_,rfl⟩
 have HLT:=hidP (RD.out.lt _ _ _ hI)
 have hpz:p.stop=0∧p.ended=false:=by rw [← hp];exact ⟨rfl,rfl⟩
 have HON:Hid (en=false→st=0):=fun he=>by
  rw [← hp] at hq
  exact stopP_on hq he
 obtain ⟨j,k,hspF,hsp⟩:=R.out.spot (aheadE_valid hwk.sv)
 obtain ⟨hj,hk⟩:∃ hj:j<js.length,k<js[j].ends.length:=by
  obtain ⟨_,hj,hk,_⟩:=spotF_some hspF
  simp only [Nat.sub_zero] at hj hk
  exact ⟨hj,hk⟩
 have HSP:=hidP hsp
 have HKD:Hid (en=false→roundB p=false→evs ps js ss (n+1) p pos=p::kidsF ps js ss n p j k (beyondF (kindE js j) k)):=fun he hr=>by
  have hst:=HON.out he
  have hpp:(⟨p.start,st,en,p.steps,p.lies,p.crosses⟩:MPath)=p:=by rw [hst,he,← hpz.1,← hpz.2]
  rw [evs,hq,hpp,hpz.2,hr,if_neg (by simp),hls,hsp]
  rfl
 have HNR:Hid (roundB p=false→s ∉ pre):=fun hr hm=>by
  rw [← hp,(roundB_snoc i pre s lies crosses).2 hm] at hr
  cases hr
 have HPA:Hid (∀ E' K' u t,Inv K' E' u→PAway K' u d p→roundB p=false→t ∈ beyondF (kindE js j) k→Calls Tryz.prog 193 #[walkerV KT d p l,passV j k t (kindE js j)] u (Visited (fun K' u=>Inv K' (E'++kidF ps js ss n p j k t) u) (StopIn Stop (E'++kidF ps js ss n p j k t)) K' u)):=fun E' K' u t hI' hP' hr ht=>by
  have h:=pass_any w0 KT M pa ja sa pc jc sc ps js ss R hT l Inv Stop RD n IH i pre s lies crosses pos d K' E' u HWK (HNR.out hr) (by have h1:=hn;unfold Hid;omega) j k t hj hk ht hI' (by rw [hp];exact hP')
  rw [hp] at h
  exact h
 have HPS:Hid (∀ E' K' u,Inv K' E' u→PAway K' u d p→roundB p=false→Calls Tryz.prog 191 #[.pointer (some ⟨KT,0,none⟩),endV (aheadE s),.func (.func 193) #[walkerV KT d p l] #[]] u (Visited (AmidW Inv E' ps js ss n p j k d (beyondF (kindE js j) k) (beyondF (kindE js j) k).length) (StopIn Stop (E'++kidsF ps js ss n p j k (beyondF (kindE js j) k))) K' u)):=fun E' K' u hI' hP' hr=>by
  have hb':=RD.out.base _ _ _ hI'
  refine passages_any KT M pa ja sa pc jc sc ps js ss R (aheadE s) 193 (walkerV KT d p l) (AmidW Inv E' ps js ss n p j k d (beyondF (kindE js j) k)) (StopIn Stop (E'++kidsF ps js ss n p j k (beyondF (kindE js j) k))) K' u (hT.out.below hb') (aheadE_valid hwk.sv) (fun args u=>by kernel_rfl) j k hsp ⟨by simpa [kidsF] using hI',hP'⟩ (fun m K2 u2 h=>RD.out.lt _ _ _ h.1) (fun m K2 u2 u3 h hb=>⟨RD.out.keep _ _ _ _ h.1 hb,h.2.below hb⟩) ?_
  intro m t K2 u2 ht h2
  refine (HPA.out _ K2 u2 t h2.1 h2.2 hr (List.mem_of_getElem? ht)).mono ?_
  intro e u3 h3
  exact h3.amid ht h2.2
 have HPZ:=hidP hpz
 clear hbw hI hP h0 hspF hsp hj hk hpz
 unfold walkerV at HPS
 unfold endV at HPS
 unfold walkerV
 unfold pathV at HEO
 go_enter Tryz.func172,Tryz.ntmps172
 go_upto_region 1 with fail
 generalize hWF:(fun i:Nat=>(#[Value.pointer (some ⟨KT,0,none⟩),.int .i64 p.start,.int .i64 p.stop,.bool p.ended,.slice d.a0 p.steps.length d.c0,.slice d.a1 p.lies.length d.c1,.slice d.a2 p.crosses.length d.c2,.func (.yield l) #[] #[]]:Array Value).getD i (.bool false))=wf
 generalize hW:World.alloc w _=W
 have HRP:Hid (W.rowIs w.heap.size 305 8 wf):=by
  unfold Hid
  rw [← hW,← hWF]
  exact row_of_alloc2 w _ _
 have HBW:Hid (Below w.heap.size w W):=by rw [← hW];exact blo
 have hzW:w.heap.size<W.heap.size:=by rw [← hW];simp
 clear hW
 have c0:W.cell? ⟨w.heap.size,0,none⟩=some (.pointer (some ⟨KT,0,none⟩)):=(HRP.out.cell (i:=0) (by omega)).trans (by rw [← hWF];rfl)
 have c1:W.cell? ⟨w.heap.size,1,none⟩=some (.int .i64 p.start):=(HRP.out.cell (i:=1) (by omega)).trans (by rw [← hWF];rfl)
 have c2:W.cell? ⟨w.heap.size,2,none⟩=some (.int .i64 p.stop):=(HRP.out.cell (i:=2) (by omega)).trans (by rw [← hWF];rfl)
 have c3:W.cell? ⟨w.heap.size,3,none⟩=some (.bool p.ended):=(HRP.out.cell (i:=3) (by omega)).trans (by rw [← hWF];rfl)
 have c4:W.cell? ⟨w.heap.size,4,none⟩=some (.slice d.a0 p.steps.length d.c0):=(HRP.out.cell (i:=4) (by omega)).trans (by rw [← hWF];rfl)
 have c5:W.cell? ⟨w.heap.size,5,none⟩=some (.slice d.a1 p.lies.length d.c1):=(HRP.out.cell (i:=5) (by omega)).trans (by rw [← hWF];rfl)
 have c6:W.cell? ⟨w.heap.size,6,none⟩=some (.slice d.a2 p.crosses.length d.c2):=(HRP.out.cell (i:=6) (by omega)).trans (by rw [← hWF];rfl)
 go_upto_region 2 with (go_at_call 189;refine (HEO.out _ HBW.out).mono ?_;rintro e w2 ⟨rfl,hb2⟩;have hR2:=HRP.out.of_block (hb2.block _ HRP.out.lt);have f2:=hR2.frozen 2;have f3:=hR2.frozen 3;have g2:=hR2.cell (i:=2) (by omega);have g3:=hR2.cell (i:=3) (by omega);have hz2:=hR2.lt;have HR2:=hidP ((hR2.set 2 (.int .i64 st)).set 3 (.bool en));clear hR2)
 generalize hV:World.setCell (World.setCell w2 _ _) _ _=V
 rw [hV] at HR2
 have hOV:Only (fun k=>k=w.heap.size) w2 V:=by
  rw [← hV]
  exact ((Only.refl (fun k=>k=w.heap.size) w2).setCell (p:=⟨w.heap.size,2,none⟩) (Or.inl rfl) _).setCell (p:=⟨w.heap.size,3,none⟩) (Or.inl rfl) _
 clear hV f2 f3 g2 g3
 have hbw2:Below w.heap.size w w2:=HBW.out.trans (hb2.mono HBW.out.size)
 have HBV:Hid (Below w.heap.size w V):=hbw2.trans (hOV.below hbw2.size (fun k hk e=>by omega))
 have x0:V.cell? ⟨w.heap.size,0,none⟩=some (.pointer (some ⟨KT,0,none⟩)):=(HR2.out.cell (i:=0) (by omega)).trans (by rw [← hWF];rfl)
 have x1:V.cell? ⟨w.heap.size,1,none⟩=some (.int .i64 p.start):=(HR2.out.cell (i:=1) (by omega)).trans (by rw [← hWF];rfl)
 have x2:V.cell? ⟨w.heap.size,2,none⟩=some (.int .i64 st):=(HR2.out.cell (i:=2) (by omega)).trans (by simp)
 have x3:V.cell? ⟨w.heap.size,3,none⟩=some (.bool en):=(HR2.out.cell (i:=3) (by omega)).trans (by simp)
 have x4:V.cell? ⟨w.heap.size,4,none⟩=some (.slice d.a0 p.steps.length d.c0):=(HR2.out.cell (i:=4) (by omega)).trans (by rw [← hWF];rfl)
 have x5:V.cell? ⟨w.heap.size,5,none⟩=some (.slice d.a1 p.lies.length d.c1):=(HR2.out.cell (i:=5) (by omega)).trans (by rw [← hWF];rfl)
 have x6:V.cell? ⟨w.heap.size,6,none⟩=some (.slice d.a2 p.crosses.length d.c2):=(HR2.out.cell (i:=6) (by omega)).trans (by rw [← hWF];rfl)
 have x7:V.cell? ⟨w.heap.size,7,none⟩=some (.func (.yield l) #[] #[]):=(HR2.out.cell (i:=7) (by omega)).trans (by rw [← hWF];rfl)
 have HIV:=hidP (RD.out.keep _ _ _ _ HI.out HBV.out)
 have HPV:=hidP (HP.out.below HBV.out)
 obtain ⟨fn,tm,asg,bdy,hy,hrnd⟩:=RD.out.yield K E V d ⟨p.start,st,en,p.steps,p.lies,p.crosses⟩ HIV.out (HPV.out.other st en)
 unfold pathV at hy
 dsimp only at hy
 have HRN:=hidP hrnd
 have hzV:w.heap.size<V.heap.size:=HR2.out.lt
 clear hrnd hOV hbw2 hb2 HBW HRP HR2 hWF hz2 c0 c1 c2 c3 c4 c5 c6 hzW
 refine (wpIn_wide (n:=0)).1 ?_
 gi_wp2_with fail
 refine ⟨rfl,RoundIn.mono HRN.out ?_⟩
 rintro e w3 ⟨bb,rfl,ho3,hi3,hs3⟩
 dsimp only
 gi_wp2_with fail
 have HO3:Hid (Only K w w3):=(Only.of_below HBV.out).trans ho3
 have hnK:¬ K w.heap.size:=fun hk=>Nat.lt_irrefl _ (HLT.out _ hk)
 replace x0:=ho3.cell x0 hnK
 replace x1:=ho3.cell x1 hnK
 replace x2:=ho3.cell x2 hnK
 replace x3:=ho3.cell x3 hnK
 replace x4:=ho3.cell x4 hnK
 replace x5:=ho3.cell x5 hnK
 replace x6:=ho3.cell x6 hnK
 replace x7:=ho3.cell x7 hnK
 cases bb
 ·have HS3:=hidP (hs3 rfl)
  clear hi3 hs3 hnK ho3 hy
  go_wp2_with fail
  go_ret
  obtain ⟨rest,hre⟩:=HEX.out
  exact ⟨false,rfl,HO3.out,(fun h=>by cases h),fun _=>⟨_,rest,by rw [hre,List.append_assoc];rfl,HS3.out⟩⟩
 ·obtain ⟨K',hI4,hG4⟩:=hi3 rfl
  have HI4:=hidP hI4
  have HG4:=hidP (hG4.mono HBV.out.size)
  have HP4:=hidP (HPV.out.thru ho3 hG4)
  have hz3:=cellLt x0
  dsimp only at hz3
  clear hi3 hs3 hnK ho3 hy hI4 hG4
  cases en
  ·by_cases hrd:roundB p=true
   ·have HE:=hidP (HEV.out (Or.inr hrd))
    have HIR2:=hidP (HIR.out w3 HP4.out.at)
    rw [hrd] at HIR2
    clear hrd
    go_wp2_with (go_at_call 190;refine HIR2.out.mono ?_;rintro e w4 ⟨rfl,hb4⟩)
    go_ret
    exact ⟨true,rfl,HO3.out.trans (Only.of_below hb4),fun _=>⟨K',by rw [HE.out];exact RD.out.keep _ _ _ _ HI4.out hb4,HG4.out⟩,fun h=>by cases h⟩
   ·have hrd:roundB p=false:=by simpa using hrd
    have HRD:=hidP hrd
    have HIR2:=hidP (HIR.out w3 HP4.out.at)
    rw [hrd] at HIR2
    clear hrd
    go_upto_region 6 with (go_at_call 190;refine HIR2.out.mono ?_;rintro e w4 ⟨rfl,hb4⟩)
    have hst:st=0:=HON.out (by first | rfl | trivial)
    subst hst
    have HI5:=hidP (RD.out.keep _ _ _ _ HI4.out hb4)
    have HP5:=hidP (HP4.out.below hb4)
    have HO5:Hid (Only K w w4):=HO3.out.trans (Only.of_below hb4)
    replace x0:=cell_later hb4 x0
    replace x1:=cell_later hb4 x1
    replace x2:=cell_later hb4 x2
    replace x3:=cell_later hb4 x3
    replace x4:=cell_later hb4 x4
    replace x5:=cell_later hb4 x5
    replace x6:=cell_later hb4 x6
    replace x7:=cell_later hb4 x7
    have hpq:(⟨p.start,0,false,p.steps,p.lies,p.crosses⟩:MPath)=p:=by rw [← HPZ.out.1,← HPZ.out.2]
    have HKE:=hidP (HKD.out (by first | rfl | trivial) HRD.out)
    have HPX:Hid (∀ u:World,Below w4.heap.size w4 u→Calls Tryz.prog 191 #[.pointer (some ⟨KT,0,none⟩),.agg #[.int .i64 (aheadE s).piece,.int .i64 (aheadE s).side],.func (.func 193) #[.agg #[.pointer (some ⟨KT,0,none⟩),.int .i64 p.start,.int .i64 0,.bool false,.slice d.a0 p.steps.length d.c0,.slice d.a1 p.lies.length d.c1,.slice d.a2 p.crosses.length d.c2,.func (.yield l) #[] #[]]] #[]] u (Visited (fun K2 u2=>Inv K2 (E++evs ps js ss (n+1) p pos) u2) (StopIn Stop (E++evs ps js ss (n+1) p pos)) K' u)):=fun u hu=>by
     have h:=HPS.out _ K' u (RD.out.keep _ _ _ _ HI5.out hu) (HP5.out.below hu) HRD.out
     rw [HPZ.out.1,HPZ.out.2] at h
     refine h.mono ?_
     rintro e u3 ⟨b3,h1,h2,h3,h4⟩
     have he:E++[(⟨p.start,0,false,p.steps,p.lies,p.crosses⟩:MPath)]++kidsF ps js ss n p j k (beyondF (kindE js j) k)=E++evs ps js ss (n+1) p pos:=by
      rw [HKE.out,hpq]
      simp
     refine ⟨b3,h1,h2,fun hb=>?_,fun hb=>?_⟩
     ·obtain ⟨K3,⟨g1,_⟩,g2⟩:=h3 hb
      rw [List.take_length,he] at g1
      exact ⟨K3,g1,g2⟩
     ·rw [← he]
      exact h4 hb
    have HLX:Hid (∀ u:World,Below w4.heap.size w4 u→Calls Tryz.prog 192 #[.agg #[.int .i64 p.start,.int .i64 0,.bool false,.slice d.a0 p.steps.length d.c0,.slice d.a1 p.lies.length d.c1,.slice d.a2 p.crosses.length d.c2]] u fun e w'=>e = .returned (.agg #[.int .i64 s.piece,.int .i64 s.side])∧Below u.heap.size u w'):=fun u hu=>HLA.out u (HP5.out.below hu).at
    have HAH:Hid (∀ u:World,Calls Tryz.prog 175 #[.agg #[.int .i64 s.piece,.int .i64 s.side]] u fun e w'=>e = .returned (.agg #[.int .i64 (aheadE s).piece,.int .i64 (aheadE s).side])∧Below u.heap.size u w'):=fun u=>ahead_any s.piece s.side u
    generalize aheadE s=ah at HPX HAH
    have hmf:∀ (fn:Fn) (first cap:Array Value) (w:World),(Instr.makeFunc fn first cap).run Tryz.prog w = .ok (.func fn first cap) w:=fun _ _ _ _=>rfl
    obtain ⟨S,hS⟩:∃ S:World→Prop,∀ u,S u↔Below w4.heap.size w4 u:=⟨_,fun _=>Iff.rfl⟩
    have HS0:=hidP hS
    have r0:∀ u:Held S,World.cell? u.val ⟨w.heap.size,0,none⟩=some (.pointer (some ⟨KT,0,none⟩)):=fun u=>cell_later ((hS u.val).1 u.2) x0
    have r1:∀ u:Held S,World.cell? u.val ⟨w.heap.size,1,none⟩=some (.int .i64 p.start):=fun u=>cell_later ((hS u.val).1 u.2) x1
    have r2:∀ u:Held S,World.cell? u.val ⟨w.heap.size,2,none⟩=some (.int .i64 0):=fun u=>cell_later ((hS u.val).1 u.2) x2
    have r3:∀ u:Held S,World.cell? u.val ⟨w.heap.size,3,none⟩=some (.bool false):=fun u=>cell_later ((hS u.val).1 u.2) x3
    have r4:∀ u:Held S,World.cell? u.val ⟨w.heap.size,4,none⟩=some (.slice d.a0 p.steps.length d.c0):=fun u=>cell_later ((hS u.val).1 u.2) x4
    have r5:∀ u:Held S,World.cell? u.val ⟨w.heap.size,5,none⟩=some (.slice d.a1 p.lies.length d.c1):=fun u=>cell_later ((hS u.val).1 u.2) x5
    have r6:∀ u:Held S,World.cell? u.val ⟨w.heap.size,6,none⟩=some (.slice d.a2 p.crosses.length d.c2):=fun u=>cell_later ((hS u.val).1 u.2) x6
    have r7:∀ u:Held S,World.cell? u.val ⟨w.heap.size,7,none⟩=some (.func (.yield l) #[] #[]):=fun u=>cell_later ((hS u.val).1 u.2) x7
    have hS1:S w4.drew:=(hS _).2 ((Below.refl _ _).drew)
    have hne:=held_ne hS1
    clear hS hpq x0 x1 x2 x3 x4 x5 x6 x7 hb4
    refine wp_region_tree (fun w' => ∃ u:Held S,w'=u.val) 8 (by kernel_rfl) (by kernel_rfl) (held_some hS1) ?_
    (refine wpT_sea 0 ?_;intro K hK;go_big_quiet_op;go_big_quiet_on);(refine wpT_sea 1 ?_;intro K hK;go_big_quiet_op;go_big_quiet_on);(refine wpT_sea 2 ?_;intro K hK;go_big_quiet_op;go_big_quiet_on);(refine wpT_sea 3 ?_;intro K hK;go_big_quiet_op;go_big_quiet_on)
    (refine wpT_sea 6 ?_;intro K hK;go_big_quiet_op;go_big_quiet_on);(refine wpT_sea 7 ?_;intro K hK;go_big_quiet_op;go_big_quiet_on)
    refine wpT_loud 4 (by rfl) (by kernel_rfl) (by kernel_rfl) ?_
    intro KK hK
    go_wp2_with (go_at_call 192;refine (HLX.out _ ((Below.refl _ _).drew)).mono ?_;rintro e u2 ⟨rfl,hb2'⟩)
    have hb2:Below w4.heap.size w4 u2:=(Below.refl _ _).drew.trans hb2'
    refine hK _ _ (held_some ((HS0.out _).2 hb2)) ?_
    clear hK KK hb2'
    refine wpT_loud 5 (by rfl) (by kernel_rfl) (by kernel_rfl) ?_
    intro KK hK
    go_wp2_with (go_at_call 175;refine (HAH.out _).mono ?_;rintro e u3 ⟨rfl,hb3'⟩)
    have hb3:Below w4.heap.size w4 u3:=hb2.trans (hb3'.mono hb2.size)
    refine hK _ _ (held_some ((HS0.out _).2 hb3)) ?_
    clear hK KK hb3' r0 r1 r2 r3 r4 r5 r6 r7 hS1 hne hb2
    have HB3:=hidP hb3
    clear hb3
    refine wpT_done (by kernel_rfl) ?_
    go_wp2_with (go_at_call 191;refine (HPX.out _ HB3.out).mono ?_;rintro e z3 ⟨b3,rfl,ho3,hi3,hs3⟩)
    go_ret
    exact ⟨b3,rfl,HO5.out.thru HG4.out ((Only.of_below HB3.out).trans ho3),fun h=>by obtain ⟨K2,h1,h2⟩:=hi3 h;exact ⟨K2,h1,HG4.out.trans h2 (Nat.le_trans HO5.out.size HB3.out.size)⟩,hs3⟩
  ·have HE:=hidP (HEV.out (Or.inl rfl))
   go_wp2_with fail
   go_ret
   exact ⟨true,rfl,HO3.out,fun _=>⟨K',by rw [HE.out];exact HI4.out,HG4.out⟩,fun h=>by cases h⟩
theorem come_any (w0:World)(KT M:Nat)(pa ja sa:Option Addr)(pc jc sc:Nat)(ps:List MPiece)(js:List MJoint)(ss:List MPiece)(R:Hid (Right ps js ss))(hT:Hid (TTrack w0 KT M pa ja sa pc jc sc ps js ss))
  (l:Nat) (Inv:(Nat→Prop)→List MPath→World→Prop) (Stop:List MPath→World→Prop) (RD:Hid (Rounds w0 l Inv Stop)):∀ n,ComeAt KT l ps js ss Inv Stop n
 | 0=>fun _ _ _ _ _ _ _ _ _ _ hwk hn _ _=>by
  have:=hwk.few
  omega
 | n+1=>come_step w0 KT M pa ja sa pc jc sc ps js ss R hT l Inv Stop RD n (come_any w0 KT M pa ja sa pc jc sc ps js ss R hT l Inv Stop RD n)
def AllPost (Inv:(Nat→Prop)→List MPath→World→Prop)(Stop:List MPath→World→Prop)(E:List MPath)(K:Nat→Prop)(w:World)(e:Ending)(w':World):Prop:=
 (∃ v,e = .returned v)∧Only K w w'∧((∃ K',Inv K' E w'∧Grow K K' w)∨StopIn Stop E w')
theorem allEvs_succ {ps:List MPiece}{js:List MJoint}{ss:List MPiece}{m:Nat}(hm:m<ss.length):allEvs ps js ss (m+1)=allEvs ps js ss m++evs ps js ss (depthR ps) (beginP m ss[m]) ss[m].speed:=by
 rw [allEvs,List.getElem?_eq_getElem hm]
theorem allEvs_app (ps:List MPiece)(js:List MJoint)(ss:List MPiece):∀ (k m:Nat),∃ F,allEvs ps js ss (m+k)=allEvs ps js ss m++F
 | 0,m=>⟨[],by simp⟩
 | k+1,m=>by
  obtain ⟨F,hF⟩:=allEvs_app ps js ss k m
  rw [show m+(k+1)=(m+k)+1 from rfl,allEvs,hF,List.append_assoc]
  exact ⟨_,rfl⟩
theorem StopIn.more {Stop:List MPath→World→Prop}{A:List MPath}{u:World}(h:StopIn Stop A u)(B:List MPath):StopIn Stop (A++B) u:=by
 obtain ⟨E1,E2,h1,h2⟩:=h
 exact ⟨E1,E2++B,by rw [h1,List.append_assoc],h2⟩
theorem away_begin {K:Nat→Prop}{w:World}{b:Nat}{i:Nat}{s:MStep}(hb:¬ K b)(c0:w.cell? ⟨b,0,none⟩=some (.int .i64 s.piece))(c1:w.cell? ⟨b,1,none⟩=some (.int .i64 s.side)):
  PAway K w ⟨some ⟨b,0,none⟩,1,none,0,none,0⟩ (pathOf i ([]++[s]) [] []):=by
 intro u hu
 have d0:=hu.cell c0 hb
 have d1:=hu.cell c1 hb
 refine ⟨⟨by unfold maxLen;simp [pathOf],Or.inr ⟨b,0,rfl,fun i hi=>?_⟩⟩,⟨by simp [pathOf],Or.inl rfl⟩,⟨by simp [pathOf],Or.inl rfl⟩,(fun h=>by cases h),fun _=>⟨rfl,rfl⟩,fun _=>⟨rfl,rfl⟩,Nat.le_refl _⟩
 have:i=0:=by simp [pathOf] at hi;exact hi
 subst this
 exact ⟨d0,d1⟩
theorem walk_any (w0:World)(KT M:Nat)(pa ja sa:Option Addr)(pc jc sc:Nat)(ps:List MPiece)(js:List MJoint)(ss:List MPiece)(R:Hid (Right ps js ss))(hT:Hid (TTrack w0 KT M pa ja sa pc jc sc ps js ss))
  (l:Nat) (Inv:(Nat→Prop)→List MPath→World→Prop) (Stop:List MPath→World→Prop) (RD:Hid (Rounds w0 l Inv Stop)) (K:Nat→Prop) (w:World) (hI:Hid (Inv K [] w)) :
  Calls Tryz.prog 140 #[.pointer (some ⟨KT,0,none⟩),.func (.yield l) #[] #[]] w (AllPost Inv Stop (allEvs ps js ss ss.length) K w):=by
 have hns:=R.out.ns
 have hbw:=RD.out.base _ _ _ hI.out
 have HB:Hid (∀ u:World,Below w0.heap.size w0 u→TTrack u KT M pa ja sa pc jc sc ps js ss):=fun u hu=>hT.out.below hu
 have c2:=(HB.out w hbw).net.c2
 have hK:=cellLt c2
 dsimp only at hK
 have HCM:=hidP (come_any w0 KT M pa ja sa pc jc sc ps js ss R hT l Inv Stop RD (depthR ps))
 clear hbw
 have hsf:∀ (fn:Fn) (x y:Array Value) (ad:Addr) (u:World),(store ad (.func fn x y)).run Tryz.prog u=stored Tryz.prog u ad (.func fn x y) .plain:=fun _ _ _ ad u=>run_store Tryz.prog u ad _ _ rfl
 go_enter Tryz.func140,Tryz.ntmps140
 go_wp2_with fail
 clear c2
 go_loopw [13] (fun c wr => ∃ (m:Nat) (K':Nat→Prop),m≤ss.length∧c = .int .i64 m∧Hid (Inv K' (allEvs ps js ss m) wr)∧Hid (Only K w wr)∧Hid (Grow K K' w)) (fun c _=>ss.length-(intOf c).toNat)
 case atStart=>exact ⟨0,K,Nat.zero_le _,rfl,hI,Only.refl _ _,Grow.refl _ _⟩
 case round =>
  obtain ⟨m,K',hm,rfl,HI,HO,HG⟩:=hrel
  have hos:=HO.out.size
  by_cases hm':m<ss.length
  ·have hmi:(m:Int)<ss.length:=by omega
   have hbr:=RD.out.base _ _ _ HI.out
   have HLT:=hidP (RD.out.lt _ _ _ HI.out)
   have HTR:=hidP (HB.out wr hbr)
   obtain ⟨bs,os,rfl,hpcs⟩:=HTR.out.net.S.2.2.resolve_left (nz hm')
   obtain ⟨s0,s1,s2,s3⟩:=hpcs m hm'
   have hzs:=cellLt s0
   dsimp only at hzs
   have hwk:=WalkOk.begin R.out hm'
   obtain ⟨sg,hsg⟩:∃ sg,ss[m]=sg:=⟨_,rfl⟩
   have HWK:=hidP hwk
   have HSU:Hid (allEvs ps js ss (m+1)=allEvs ps js ss m++evs ps js ss (depthR ps) (beginP m ss[m]) ss[m].speed):=allEvs_succ hm'
   rw [hsg] at s0 s1 s2 s3 HWK HSU
   clear hpcs hwk hbr hsg
   go_upto_region 5 with fail
   generalize hV:World.alloc (World.alloc (World.alloc (World.alloc wr _) _) _) _=V
   have hbV:Below wr.heap.size wr V:=by rw [← hV];exact blo
   have g1:V.cell? ⟨wr.heap.size,1,none⟩=some (.int .i64 sg.len):=by rw [← hV];simp [go_sem]
   have g2:V.cell? ⟨wr.heap.size,2,none⟩=some (.int .i64 sg.speed):=by rw [← hV];simp [go_sem]
   have t0:V.cell? ⟨wr.heap.size+1,0,none⟩=some (.int .i64 sg.len):=by rw [← hV];simp [go_sem]
   have t1:V.cell? ⟨wr.heap.size+1,1,none⟩=some (.int .i64 sg.brake):=by rw [← hV];simp [go_sem]
   have x0:V.cell? ⟨wr.heap.size+1+1+1,0,none⟩=some (.pointer (some ⟨KT,0,none⟩)):=by rw [← hV];simp [go_sem]
   have x1:V.cell? ⟨wr.heap.size+1+1+1,1,none⟩=some (.int .i64 (m:Int)):=by rw [← hV];simp [go_sem]
   have x2:V.cell? ⟨wr.heap.size+1+1+1,2,none⟩=some (.int .i64 0):=by rw [← hV];simp [go_sem]
   have x3:V.cell? ⟨wr.heap.size+1+1+1,3,none⟩=some (.bool false):=by rw [← hV];simp [go_sem]
   have x4:V.cell? ⟨wr.heap.size+1+1+1,4,none⟩=some (.slice (some ⟨wr.heap.size+1,0,none⟩) 1 1):=by rw [← hV];simp [go_sem]
   have x5:V.cell? ⟨wr.heap.size+1+1+1,5,none⟩=some (.slice none 0 0):=by rw [← hV];simp [go_sem]
   have x6:V.cell? ⟨wr.heap.size+1+1+1,6,none⟩=some (.slice none 0 0):=by rw [← hV];simp [go_sem]
   have x7:V.cell? ⟨wr.heap.size+1+1+1,7,none⟩=some (.func (.yield l) #[] #[]):=by rw [← hV];simp [go_sem]
   have hzV:wr.heap.size+1+1+1<V.heap.size:=by rw [← hV];simp
   have HAW:Hid (PAway K' V ⟨some ⟨wr.heap.size+1,0,none⟩,1,none,0,none,0⟩ (pathOf m ([]++[⟨sg.len,sg.brake⟩]) [] [])):=away_begin (fun hk=>by have h1:=HLT.out _ hk;omega) t0 t1
   have HCX:Hid (Calls Tryz.prog 172 #[.agg #[.pointer (some ⟨KT,0,none⟩),.int .i64 (m:Int),.int .i64 0,.bool false,.slice (some ⟨wr.heap.size+1,0,none⟩) 1 1,.slice none 0 0,.slice none 0 0,.func (.yield l) #[] #[]],.int .i64 sg.speed] V (Visited (fun K2 u=>Inv K2 (allEvs ps js ss (m+1)) u) (StopIn Stop (allEvs ps js ss (m+1))) K' V)):=by
    unfold Hid
    rw [HSU.out]
    exact HCM.out m [] ⟨sg.len,sg.brake⟩ [] [] sg.speed ⟨some ⟨wr.heap.size+1,0,none⟩,1,none,0,none,0⟩ K' (allEvs ps js ss m) V HWK.out (by unfold depthR;simp) (RD.out.keep _ _ _ _ HI.out hbV) HAW.out
   have HBV:=hidP hbV
   clear hV hbV t0 t1 s0 s1 s2 s3 hsf
   go_upto_if 34 with (go_at_call 172;refine HCX.out.mono ?_;rintro e w3 ⟨bb,rfl,ho3,hi3,hs3⟩)
   have HO3:Hid (Only K w w3):=HO.out.thru HG.out ((Only.of_below HBV.out).trans ho3)
   cases bb
   ·have HS3:=hidP (hs3 rfl)
    clear hi3 hs3 ho3 x0 x1 x2 x3 x4 x5 x6 x7 g1 g2
    go_wp2_with fail
    refine bodyPost_ret (results_none rfl _ _ _) rfl ⟨⟨_,rfl⟩,HO3.out,Or.inr ?_⟩
    obtain ⟨F,hF⟩:=allEvs_app ps js ss (ss.length-(m+1)) (m+1)
    have he:m+1+(ss.length-(m+1))=ss.length:=by omega
    rw [he] at hF
    rw [hF]
    exact HS3.out.more F
   ·obtain ⟨K2,hI4,hG4⟩:=hi3 rfl
    have HI4:=hidP hI4
    have HG4:Hid (Grow K K2 w):=HG.out.trans hG4 (Nat.le_trans hos HBV.out.size)
    clear hi3 hs3 ho3 hI4 hG4 x0 x1 x2 x3 x4 x5 x6 x7 g1 g2
    go_wp2_with fail
    go_roundw
    case rel=>exact ⟨m+1,K2,by omega,by go_num,HI4,HO3,HG4⟩
    case measure=>simp [intOf];omega
  ·have hme:m=ss.length:=by omega
   have hmi:¬ (m:Int)<ss.length:=by omega
   subst hme
   go_wp2_with fail
   exact bodyPost_end (results_none rfl _ _ _) rfl ⟨⟨_,rfl⟩,HO.out,Or.inl ⟨K',HI.out,HG.out⟩⟩
theorem range_law {P:Program}{n:Nat}{g:Operand}{ps:Array Tmp}{assign body:Code}{Q:Exit→Act→World→Prop}{a:Act}{w:World}(gf:Nat)(first:Array Value)(hg:a.eval g = .func (.func gf) first #[])(eg:∀ args w,(callFunc gf args).run P w = .ok (.enter gf args) w)
  (h:∀ (fn:FuncId) (rec:LoopState→Option Code→Loop),(rec=fun st pe=>{ state:=st,pending:=pe,fn,tmps:=a.tmps,params:=ps,assign,body,defers:=w.heap.size }) →
   CallsIn Fence.wide (n-1) P gf (first ++ #[.func (.yield (w.heap.size+1)) #[] #[]]) ((w.alloc (.deferred (some []))).alloc (.loop (rec .ready none))) (rangePost Fence.wide n P (w.heap.size+1) Q { a with defers:=[{ target:=.collected w.heap.size,args:=#[] }]++a.defers })) :
  (Code.rangeFunc g ps assign body).wpIn Fence.wide n P Q a w:=by
 refine wpIn_rangeFunc ?_
 intro fn _
 obtain ⟨rec,hrec⟩:∃ rec:LoopState→Option Code→Loop,rec=fun st pe=>{ state:=st,pending:=pe,fn,tmps:=a.tmps,params:=ps,assign,body,defers:=w.heap.size }:=⟨_,rfl⟩
 have h1:=h fn rec hrec
 have he:(Instr.enterLoop fn a.tmps ps assign body Fence.wide.round).run P w = .ok (w.heap.size+1,[{ target:=.collected w.heap.size,args:=#[] }]) ((w.alloc (.deferred (some []))).alloc (.loop (rec .ready none))):=by
  have h0:Fence.wide.round=none:=rfl
  rw [hrec,h0]
  exact run_enterLoop_outer _ _ _ _ _
 obtain ⟨W1,hW1⟩:∃ W1,(w.alloc (.deferred (some []))).alloc (.loop (rec .ready none))=W1:=⟨_,rfl⟩
 rw [hW1] at h1 he
 refine ⟨w.heap.size+1,[{ target:=.collected w.heap.size,args:=#[] }],W1,{ target:=.fn (.func gf) #[],args:=first ++ #[.func (.yield (w.heap.size+1)) #[] #[]] },W1,gf,first ++ #[.func (.yield (w.heap.size+1)) #[] #[]],W1,he,?_,?_,?_,?_,?_⟩
 ·simp only [resolve,hg]
  simp [go_sem]
 ·intro _ _
  trivial
 ·simp [invoke,go_sem,eg]
 ·intro h
  cases h
 ·exact h1
def encQ (x:PAddr × MPath):List Value:=[.int .i64 x.2.start,.int .i64 x.2.stop,.bool x.2.ended,.slice x.1.a0 x.2.steps.length x.1.c0,.slice x.1.a1 x.2.lies.length x.1.c1,.slice x.1.a2 x.2.crosses.length x.1.c2]
def flatQ (xs:List (PAddr × MPath)):List Value:=xs.flatMap encQ
theorem flatQ_snoc (xs:List (PAddr × MPath))(x:PAddr × MPath):flatQ xs++encQ x=flatQ (xs++[x]):=by simp [flatQ]
structure EInv (w0:World)(l D A B C bs:Nat)(rec:LoopState→Option Code→Loop)(K:Nat→Prop)(E:List MPath)(W:World):Prop where
 below:Below w0.heap.size w0 W
 loop:W.heap[l]? = some (.loop (rec .ready none))
 dfr:W.heap[D]? = some (.deferred (some []))
 come:W.rowIs C 3 1 (fun _=>.int .i64 (E.length:Int))
 res:W.rowIs B 209 1 (fun _=>.slice none 0 0)
 own:∃ (x:Option Addr) (y:Nat) (xs:List (PAddr × MPath)),W.rowIs A 209 1 (fun _=>.slice x xs.length y)∧W.ownsRow bs 212 6 (.slice x xs.length y) xs.length (flatQ xs)∧xs.map Prod.snd=endedL E∧(∀ q ∈ xs,PAway K W q.1 q.2) ∧
  ∀ k,K k↔k=l∨k=D∨k=A∨k=B∨k=C∨(Value.slice x xs.length y).ownBlock=some k
 few:E.length≤20000∧(endedL E).length≤300
 low:w0.heap.size≤B∧B<A∧A<C∧C<D∧D<l∧l<bs
structure EStop (w0:World)(l D B:Nat)(rec:LoopState→Option Code→Loop)(E:List MPath)(W:World):Prop where
 below:Below w0.heap.size w0 W
 loop:W.heap[l]? = some (.loop (rec .done (some .ret)))
 dfr:W.heap[D]? = some (.deferred (some []))
 res:W.rowIs B 209 1 (fun _=>.slice none 0 0)
 past:20000<E.length∨300<(endedL E).length
theorem get_lt {w:World}{k:Nat}{o:Obj}(h:w.heap[k]? = some o):k<w.heap.size:=(Array.getElem?_eq_some_iff.1 h).1
theorem EInv.lt {w0:World}{l D A B C bs:Nat}{rec:LoopState→Option Code→Loop}{K:Nat→Prop}{E:List MPath}{W:World}(h:EInv w0 l D A B C bs rec K E W):∀ k,K k→k<W.heap.size:=by
 intro k hk
 obtain ⟨x,y,xs,h1,h2,_,_,h5⟩:=h.own
 rcases (h5 k).1 hk with rfl | rfl | rfl | rfl | rfl | hk
 ·exact get_lt h.loop
 ·exact get_lt h.dfr
 ·exact h1.lt
 ·exact h.res.lt
 ·exact h.come.lt
 ·exact (h2.lt k hk).2
theorem EInv.keep {w0:World}{l D A B C bs:Nat}{rec:LoopState→Option Code→Loop}{K:Nat→Prop}{E:List MPath}{W W':World}(h:EInv w0 l D A B C bs rec K E W)(hb:Below W.heap.size W W'):EInv w0 l D A B C bs rec K E W':=by
 obtain ⟨x,y,xs,h1,h2,h3,h4,h5⟩:=h.own
 exact ⟨h.below.trans (hb.mono h.below.size),(hb.block _ (get_lt h.loop)).trans h.loop,(hb.block _ (get_lt h.dfr)).trans h.dfr,h.come.of_block (hb.block _ h.come.lt),h.res.of_block (hb.block _ h.res.lt),
  ⟨x,y,xs,h1.of_block (hb.block _ h1.lt),owns_below h2 hb,h3,fun q hq=>(h4 q hq).below hb,h5⟩,h.few,h.low⟩
theorem EStop.keep {w0:World}{l D B:Nat}{rec:LoopState→Option Code→Loop}{E:List MPath}{W W':World}(h:EStop w0 l D B rec E W)(hb:Below W.heap.size W W'):EStop w0 l D B rec E W':=
 ⟨h.below.trans (hb.mono h.below.size),(hb.block _ (get_lt h.loop)).trans h.loop,(hb.block _ (get_lt h.dfr)).trans h.dfr,h.res.of_block (hb.block _ h.res.lt),h.past⟩
theorem append_sharp {P:Program}(w:World)(base:Nat)(t ty e:TypeId)(i:TypeInfo)(z:Value)(size bytes:Nat)(ht:P.underlying t=some (.slice e))(hi:P.info? e=some i)(hz:i.zero=some z)(hsize:i.size=size)(hby:i.bytes=bytes)(hzs:z.cells.size=size)(hsz:0<size)
  (v:Value) (n:Nat) (xs:List Value) (hown:w.ownsRow base e size v n xs) (a:Addr) (m c:Nat) (news:List Value) (hl:news.length=m*size) (hnews:∀ j u,news[j]? = some u→w.cell? (a.add j)=some u) (h1:∀ u ∈ news,u.oneCell'=true)
  (h63:n+m≤maxLen) (hbytes:(n+m)*bytes≤140737488355328) (hbase:base≤w.heap.size) :
  ∃ v' w',(Builtin.append_ #[t,t] ty #[v,.slice (some a) m c]).run P w = .ok v' w'∧w'.ownsRow base e size v' (n+m) (xs++news)∧w.grownBy w' v.ownBlock∧∀ k,v'.ownBlock=some k→v.ownBlock=some k∨w.heap.size≤k:=by
 have hsmall:n+m≤9223372036854775807:=by simp only [maxLen] at h63;omega
 rcases hown.2 with ⟨hv,hn⟩ | ⟨g,cap,cur,hv,hbg,hg,hnc,hcm,hcs,htake⟩
 ·have hown2:w.ownsRow w.heap.size e size v n xs:=⟨hown.1,Or.inl ⟨hv,hn⟩⟩
  obtain ⟨v',w',r1,r2,r3,_⟩:=run_append_own (P:=P) w w.heap.size t ty e i z size bytes ht hi hz hsize hby hzs hsz v n xs hown2 a m c news hl hnews h1 h63 hbytes (Nat.le_refl _)
  exact ⟨v',w',r1,⟨r2.1,r2.2.imp id fun ⟨g,cap,cur,q1,q2,q3⟩=>⟨g,cap,cur,q1,Nat.le_trans hbase q2,q3⟩⟩,r3,fun k hk=>Or.inr (r2.lt k hk).1⟩
 ·subst hv
  by_cases hroom:n+m≤cap
  ·obtain ⟨w',r1,r2,r3⟩:=run_append_fits (P:=P) w base t ty e i size ht hi hsize g n cap xs hown a m c news hl hnews h1 hroom
   exact ⟨_,w',r1,r2,r3,fun k hk=>Or.inl hk⟩
  ·obtain ⟨v',w',r1,r2,r3,_⟩:=run_append_own (P:=P) w base t ty e i z size bytes ht hi hz hsize hby hzs hsz _ n xs hown a m c news hl hnews h1 h63 hbytes hbase
   have holds:∀ j u,xs[j]? = some u→w.cell? ((⟨g,0,none⟩:Addr).add j)=some u:=hown.cells (g:=g) rfl
   have hr:=run_append_grow (P:=P) w t ty e i z ht hi hz ⟨g,0,none⟩ n cap xs (by rw [hsize];exact hown.1) holds a m c news (by rw [hsize];exact hl) hnews (by omega) (by omega) (by rw [hby];exact growslice_fits (by omega) hbytes)
   rw [hr] at r1
   injection r1 with q1 q2
   refine ⟨v',w',by rw [hr,q1,q2],r2,r3,fun k hk=>Or.inr ?_⟩
   rw [← q1] at hk
   injection hk with hk
   exact Nat.le_of_eq hk
theorem wpListIn_append_sharp {F:Fence}{m0:Nat}{P:Program}(w:World){ops:Array Oper}{rest:List Oper}{o:Oper}{a:Act}{Q:Exit→Act→World→Prop}
  (hg:o.guard=none) (s x:Operand) (t:TypeId) (hop:o.op=Op.call { callee:=Callee.builtin Builtin.append,args:=#[s,x],argTypes:=#[t,t] })
  (base:Nat) (e:TypeId) (z:Value) (size bytes:Nat) (h1:P.underlying t=some (.slice e)) (hi:(P.info? e).map (fun i=>(i.zero,i.size,i.bytes))=some (some z,size,bytes)) (h6:z.cells.size=size) (h7:0<size)
  (v:Value) (k:Nat) (xs:List Value) (hs:a.eval s=v) (hown:w.ownsRow base e size v k xs) (ad:Addr) (c:Nat) (news:List Value) (hx:a.eval x = .slice (some ad) 1 c) (hn:news.length=size)
  (hc:∀ j u,news[j]? = some u→w.cell? (ad.add j)=some u) (h1c:∀ u ∈ news,u.oneCell'=true) (b1:k+1≤maxLen) (b2:(k+1)*bytes≤140737488355328) (b3:base≤w.heap.size)
  (hK:∀ x' y' w',w'.ownsRow base e size (.slice x' (k+1) y') (k+1) (xs++news)→w.grownBy w' v.ownBlock→(∀ b,(Value.slice x' (k+1) y').ownBlock=some b→v.ownBlock=some b∨w.heap.size≤b)→wpListIn F m0 P ops Q rest (a.put o.dst (.slice x' (k+1) y')) w') :
  wpListIn F m0 P ops Q (o::rest) a w:=by
 refine wpListIn_plain hg fun K hK'=>?_
 obtain ⟨i,h2,h3,h4,h5⟩:=info_parts hi
 obtain ⟨v',w',hrun,r1,r2,r3⟩:=append_sharp (P:=P) w base t o.type e i z size bytes h1 h2 h3 h4 h5 h6 h7 v k xs hown ad 1 c news (by omega) hc h1c b1 b2 b3
 obtain ⟨x',y',e1,_⟩:=owns_shape r1
 subst e1
 unfold Oper.wpIn
 refine ⟨?_,?_⟩
 ·simp [Oper.about,hop,resolve,Target.leads,Sem.run_pure]
 ·rw [Oper.semAt_plain F _ _ (by rw [hop];intro c hc';cases hc')]
  simp [execOp,hop,resolve,invoke,builtin,hs,hx,hrun,Result.andThen]
  exact hK' _ _ (hK x' y' w' r1 r2 r3)
theorem Tryz.infoPath:(Tryz.prog.info? 212).map (fun i=>(i.zero,i.size,i.bytes))=some (some (.agg #[.int .i64 0,.int .i64 0,.bool false,.slice none 0 0,.slice none 0 0,.slice none 0 0]),6,96):=by kernel_rfl
theorem wpListIn_push_sharp {F:Fence}{m0:Nat}{P:Program}{Wp:World}{ops:Array Oper}{rest:List Oper}{o:Oper}{a:Act}{Q:Exit→Act→World→Prop}(hg:o.guard=none)(s x:Operand)(t:TypeId)
  (hop:o.op=Op.call { callee:=Callee.builtin Builtin.append,args:=#[s,x],argTypes:=#[t,t] })
  (base:Nat) (e:TypeId) (z:Value) (size bytes:Nat) (h1:P.underlying t=some (.slice e)) (hi:(P.info? e).map (fun i=>(i.zero,i.size,i.bytes))=some (some z,size,bytes)) (h6:z.cells.size=size) (h7:0<size)
  (v:Value) (k:Nat) (xs:List Value) (hs:a.eval s=v) (hown:Wp.ownsRow base e size v k xs) (g:Nat) (hgs:g=Wp.heap.size) (news:List Value) (hx:a.eval x = .slice (some ⟨g,0,none⟩) 1 1) (hn:news.length=size)
  (h1c:∀ u ∈ news,u.oneCell'=true) (b1:k+1≤maxLen) (b2:(k+1)*bytes≤140737488355328) (b3:base≤Wp.heap.size)
  (hK:∀ x' y' w',w'.ownsRow base e size (.slice x' (k+1) y') (k+1) (xs++news)→Wp.grownBy w' v.ownBlock→(∀ b,(Value.slice x' (k+1) y').ownBlock=some b→v.ownBlock=some b∨Wp.heap.size≤b)→wpListIn F m0 P ops Q rest (a.put o.dst (.slice x' (k+1) y')) w') :
  wpListIn F m0 P ops Q (o::rest) a (Wp.alloc (.cells news.toArray e)):=by
 subst hgs
 refine wpListIn_append_sharp _ hg s x t hop base e z size bytes h1 hi h6 h7 v k xs hs (hown.alloc _) ⟨Wp.heap.size,0,none⟩ 1 news hx hn ?_ h1c b1 b2 (by simp;omega) ?_
 ·intro j u hu
  rw [addr_at,Nat.zero_add]
  have:=cell_of_row (Wp.alloc (.cells news.toArray e)) Wp.heap.size j news.toArray e (0,0) (heap_alloc_new Wp _)
  rw [this]
  simpa using hu
 ·intro x' y' w' r1 r2 r3
  refine hK x' y' w' r1 ⟨r2.os,r2.tape,r2.output,Nat.le_trans (by simp) r2.size,fun k hk hne=>?_⟩ (fun b hb=>(r3 b hb).imp id (fun h=>Nat.le_trans (by simp) h))
  exact (r2.block k (by simp;omega) hne).trans (Below.heap_alloc _ _ _ hk)
theorem row_one {w:World}{b T:Nat}{f:Nat→Value}{v:Value}(h:w.rowIs b T 1 f)(hv:f 0=v):w.rowIs b T 1 (fun _=>v):=by
 obtain ⟨c,h1,h2,h3⟩:=h
 refine ⟨c,h1,h2,fun i hi=>?_⟩
 have:i=0:=by omega
 subst this
 rw [h3 0 hi,hv]
theorem endedL_snoc (E:List MPath)(p:MPath):endedL (E++[p])=endedL E++(if p.ended=true then [p] else []):=by
 rw [endedL_app]
 unfold endedL
 by_cases h:p.ended=true
 ·simp [h]
 ·simp [h]
theorem round_on {w0:World}{l D A B C bs:Nat}{rec:LoopState→Option Code→Loop}{K:Nat→Prop}{E:List MPath}{p:MPath}{W Wn:World}(hI:EInv w0 l D A B C bs rec K E W)(hrec:∀ st pe,({ rec .ready none with state:=st,pending:=pe }:Loop)=rec st pe)
  (hl:Wn.heap[l]? = some (.loop { rec .ready none with state:=.busy })) (hO:Only K W Wn) (hC:Wn.rowIs C 3 1 (fun _=>.int .i64 ((E.length+1:Nat):Int)))
  (hown:∃ (x:Option Addr) (y:Nat) (xs:List (PAddr × MPath)),Wn.rowIs A 209 1 (fun _=>.slice x xs.length y)∧Wn.ownsRow bs 212 6 (.slice x xs.length y) xs.length (flatQ xs)∧xs.map Prod.snd=endedL (E++[p])∧(∀ q ∈ xs,PAway K W q.1 q.2)∧∀ k,(Value.slice x xs.length y).ownBlock=some k→K k∨W.heap.size≤k)
  (hB:Wn.rowIs B 209 1 (fun _=>.slice none 0 0)) (hD:Wn.heap[D]? = some (.deferred (some []))) (hf:E.length+1≤20000∧(endedL (E++[p])).length≤300) (Sx:World→Prop) :
  ∃ v w',(Instr.endRound l none).run Tryz.prog Wn = .ok v w'∧Visited (fun K' u=>EInv w0 l D A B C bs rec K' (E++[p]) u) Sx K W (.returned v) w':=by
 refine ⟨_,_,run_endRound none hl,?_⟩
 have hlt:=get_lt hl
 have hlow:=hI.low
 obtain ⟨x,y,xs,g1,g2,g3,g4,g5⟩:=hown
 obtain ⟨x0,y0,xs0,_,k2,_,_,k5⟩:=hI.own
 have hKl:K l:=(k5 l).2 (Or.inl rfl)
 generalize hwn:Wn.putObj l _=w'
 have hOn:Only (fun k=>k=l) Wn w':=by
  rw [← hwn]
  exact Only.of_grown (grownBy_putObj' _ _ _) (fun k e=>by cases e;rfl)
 have hl':w'.heap[l]? = some (.loop (rec .ready none)):=by
  rw [← hwn]
  refine (World.putObj_heap_same hlt).trans ?_
  congr 2
  exact hrec .ready none
 clear hwn
 have hO2:Only K W w':=hO.trans (hOn.mono (fun k hk=>by subst hk;exact hKl))
 have hG:Grow K (fun k=>k=l∨k=D∨k=A∨k=B∨k=C∨(Value.slice x xs.length y).ownBlock=some k) W:=by
  intro k hk
  rcases hk with h | h | h | h | h | h
  ·exact Or.inl ((k5 k).2 (Or.inl h))
  ·exact Or.inl ((k5 k).2 (Or.inr (Or.inl h)))
  ·exact Or.inl ((k5 k).2 (Or.inr (Or.inr (Or.inl h))))
  ·exact Or.inl ((k5 k).2 (Or.inr (Or.inr (Or.inr (Or.inl h)))))
  ·exact Or.inl ((k5 k).2 (Or.inr (Or.inr (Or.inr (Or.inr (Or.inl h))))))
  ·exact g5 k h
 have hKw:∀ k,K k→w0.heap.size≤k:=by
  intro k hk
  rcases (k5 k).1 hk with h | h | h | h | h | h
  ·omega
  ·omega
  ·omega
  ·omega
  ·omega
  ·have:=(k2.lt k h).1
   omega
 refine ⟨true,rfl,hO2,fun _=>⟨_,?_,hG⟩,fun h=>by cases h⟩
 refine ⟨hI.below.trans (hO2.below hI.below.size (fun k hk e=>by have:=hKw k e;omega)),hl',(hOn.block _ (get_lt hD) (by show ¬ D=l;omega)).trans hD,?_,hB.of_block (hOn.block _ hB.lt (by show ¬ B=l;omega)),⟨x,y,xs,g1.of_block (hOn.block _ g1.lt (by show ¬ A=l;omega)),owns_only g2 hOn (fun k hk=>by omega),g3,fun q hq=>(g4 q hq).thru hO2 hG,fun k=>Iff.rfl⟩,⟨by simpa using hf.1,hf.2⟩,hlow⟩
 have:=hC.of_block (hOn.block _ hC.lt (by show ¬ C=l;omega))
 simpa using this
theorem round_off {w0:World}{l D A B C bs:Nat}{rec:LoopState→Option Code→Loop}{K:Nat→Prop}{E:List MPath}{p:MPath}{W Wn:World}(hI:EInv w0 l D A B C bs rec K E W)(hrec:∀ st pe,({ rec .ready none with state:=st,pending:=pe }:Loop)=rec st pe)
  (hl:Wn.heap[l]? = some (.loop { rec .ready none with state:=.busy })) (hO:Only K W Wn)
  (hB:Wn.rowIs B 209 1 (fun _=>.slice none 0 0)) (hD:Wn.heap[D]? = some (.deferred (some []))) (hf:20000<E.length+1∨300<(endedL (E++[p])).length) (J:(Nat→Prop)→World→Prop) :
  ∃ v w',(Instr.endRound l (some .ret)).run Tryz.prog Wn = .ok v w'∧Visited J (fun u=>EStop w0 l D B rec (E++[p]) u) K W (.returned v) w':=by
 refine ⟨_,_,run_endRound (some .ret) hl,?_⟩
 have hlt:=get_lt hl
 have hlow:=hI.low
 obtain ⟨x1,y1,xs1,_,j2,_,_,k5⟩:=hI.own
 have hKl:K l:=(k5 l).2 (Or.inl rfl)
 generalize hwn:Wn.putObj l _=w'
 have hOn:Only (fun k=>k=l) Wn w':=by
  rw [← hwn]
  exact Only.of_grown (grownBy_putObj' _ _ _) (fun k e=>by cases e;rfl)
 have hl':w'.heap[l]? = some (.loop (rec .done (some .ret))):=by
  rw [← hwn]
  refine (World.putObj_heap_same hlt).trans ?_
  congr 2
  exact hrec .done (some .ret)
 clear hwn
 have hO2:Only K W w':=hO.trans (hOn.mono (fun k hk=>by subst hk;exact hKl))
 have hKw:∀ k,K k→w0.heap.size≤k:=by
  intro k hk
  rcases (k5 k).1 hk with h | h | h | h | h | h
  ·omega
  ·omega
  ·omega
  ·omega
  ·omega
  ·have:=(j2.lt k h).1
   omega
 refine ⟨false,rfl,hO2,(fun h=>by cases h),fun _=>⟨hI.below.trans (hO2.below hI.below.size (fun k hk e=>by have:=hKw k e;omega)),hl',(hOn.block _ (get_lt hD) (by show ¬ D=l;omega)).trans hD,hB.of_block (hOn.block _ hB.lt (by show ¬ B=l;omega)),?_⟩⟩
 simpa using hf
def PathsOut (w:World)(v:Value)(L:List MPath):Prop:=
 ∃ (x:Option Addr) (y:Nat) (xs:List (PAddr × MPath)),v = .slice x xs.length y∧xs.map Prod.snd=L ∧
  (xs=[]∨∃ b,x=some ⟨b,0,none⟩∧∀ i (h:i<xs.length) j u,(encQ xs[i])[j]? = some u→w.cell? ⟨b,i*6+j,none⟩=some u)∧∀ q ∈ xs,PListsAt w q.1 q.2
theorem PathsOut.nil (w:World):PathsOut w (.slice none 0 0) []:=⟨none,0,[],rfl,rfl,Or.inl rfl,fun q hq=>by cases hq⟩
theorem encQ_len (x:PAddr × MPath):(encQ x).length=6:=rfl
theorem PathsOut.of_own {w:World}{B e:Nat}{x:Option Addr}{y:Nat}{xs:List (PAddr × MPath)}(h:w.ownsRow B e 6 (.slice x xs.length y) xs.length (flatQ xs))(hp:∀ q ∈ xs,PListsAt w q.1 q.2):PathsOut w (.slice x xs.length y) (xs.map Prod.snd):=by
 refine ⟨x,y,xs,rfl,rfl,?_,hp⟩
 rcases h.2 with ⟨h1,h2⟩ | ⟨g,cap,cur,h1,_⟩
 ·exact Or.inl (List.eq_nil_of_length_eq_zero h2)
 ·injection h1 with h1
  refine Or.inr ⟨g,h1,fun i hi j u hu=>?_⟩
  have hj:j<6:=by rw [← encQ_len xs[i]];exact (List.getElem?_eq_some_iff.1 hu).1
  subst h1
  have hc:=h.cells rfl (i*6+j) u
  rw [addr_at,Nat.zero_add] at hc
  refine hc ?_
  have:=flat_get encQ 6 (fun _=>rfl) xs i j hi hj
  rw [← hu]
  exact this
abbrev fitsB (ps:List MPiece)(js:List MJoint)(ss:List MPiece):Prop:=(allEvs ps js ss ss.length).length≤20000∧(endedL (allEvs ps js ss ss.length)).length≤300
def pathsF (ps:List MPiece)(js:List MJoint)(ss:List MPiece):List MPath:=if fitsB ps js ss then endedL (allEvs ps js ss ss.length) else []
theorem endedPaths_any (KT M:Nat)(pa ja sa:Option Addr)(pc jc sc:Nat)(ps:List MPiece)(js:List MJoint)(ss:List MPiece)(R:Hid (Right ps js ss))(w:World)(hT:Hid (TTrack w KT M pa ja sa pc jc sc ps js ss)):
  Calls Tryz.prog 113 #[.pointer (some ⟨KT,0,none⟩)] w (fun e w' => ∃ v,e = .returned v∧PathsOut w' v (pathsF ps js ss)∧Below w.heap.size w w'):=by
 have hmf:∀ (fn:Fn) (first cap:Array Value) (w:World),(Instr.makeFunc fn first cap).run Tryz.prog w = .ok (.func fn first cap) w:=fun _ _ _ _=>rfl
 refine (callsIn_wide (n:=0)).1 (callsIn_of_wp_marks Tryz.func113 rfl trivial ?_)
 simp only [Tryz.ntmps113,List.size_toArray,List.length_cons,List.length_nil,Nat.reduceAdd,Nat.reduceSub,Array.replicate_succ,Array.replicate_zero,List.push_toArray,List.append_toArray,List.nil_append,List.cons_append]
 gi_wp2_with fail
 generalize hW:World.alloc (World.alloc (World.alloc w _) _) _=W
 have HBW:Hid (Below w.heap.size w W):=by rw [← hW];exact blo
 have hz:W.heap.size=w.heap.size+1+1+1:=by rw [← hW];simp
 have HC:Hid (W.rowIs (w.heap.size+1+1) 3 1 (fun _=>.int .i64 0)):=by
  unfold Hid
  rw [← hW]
  have:=World.rowIs_alloc ((w.alloc (Obj.cells #[Value.slice none 0 0] 209)).alloc (Obj.cells #[Value.slice none 0 0] 209)) #[.int .i64 0] 3 (fun _=>.int .i64 0) (by intro i hi;have hi':i<1:=hi;match i,hi' with | 0,_=>rfl)
  simpa using this
 have HA:Hid (W.rowIs (w.heap.size+1) 209 1 (fun _=>.slice none 0 0)):=by
  unfold Hid
  rw [← hW]
  have:=World.rowIs_alloc (w.alloc (Obj.cells #[Value.slice none 0 0] 209)) #[.slice none 0 0] 209 (fun _=>.slice none 0 0) (by intro i hi;have hi':i<1:=hi;match i,hi' with | 0,_=>rfl)
  simpa using this.alloc (Obj.cells #[Value.int IntKind.i64 0] 3)
 have HB:Hid (W.rowIs w.heap.size 209 1 (fun _=>.slice none 0 0)):=by
  unfold Hid
  rw [← hW]
  have:=World.rowIs_alloc w #[.slice none 0 0] 209 (fun _=>.slice none 0 0) (by intro i hi;have hi':i<1:=hi;match i,hi' with | 0,_=>rfl)
  simpa using (this.alloc (Obj.cells #[Value.slice none 0 0] 209)).alloc (Obj.cells #[Value.int IntKind.i64 0] 3)
 clear hW
 refine range_law 140 #[.pointer (some ⟨KT,0,none⟩)] rfl (fun args u=>by kernel_rfl) ?_
 intro fn rec hrec
 generalize hW1:(W.alloc (.deferred (some []))).alloc (.loop (rec .ready none))=W1
 have hb1:Below W.heap.size W W1:=by rw [← hW1];exact blo
 have hL1:W1.heap[W.heap.size+1]? = some (.loop (rec .ready none)):=by
  rw [← hW1]
  have:=World.alloc_heap_new (W.alloc (.deferred (some []))) (.loop (rec .ready none))
  rwa [World.size_alloc] at this
 have hD1:W1.heap[W.heap.size]? = some (.deferred (some [])):=by
  rw [← hW1]
  exact (Below.heap_alloc _ _ _ (by simp)).trans (World.alloc_heap_new W _)
 have hz1:W1.heap.size=W.heap.size+2:=by rw [← hW1];simp
 clear hW1 hmf
 have HI0:Hid (EInv w (W.heap.size+1) W.heap.size (w.heap.size+1) w.heap.size (w.heap.size+1+1) (W.heap.size+2) rec (fun k=>k=W.heap.size+1∨k=W.heap.size∨k=w.heap.size+1∨k=w.heap.size∨k=w.heap.size+1+1) [] W1):=by
  refine ⟨HBW.out.trans (hb1.mono HBW.out.size),hL1,hD1,HC.out.of_block (hb1.block _ HC.out.lt),HB.out.of_block (hb1.block _ HB.out.lt),⟨none,0,[],HA.out.of_block (hb1.block _ HA.out.lt),⟨rfl,Or.inl ⟨rfl,rfl⟩⟩,rfl,fun q hq=>(by cases hq),fun k=>by simp [Value.ownBlock]⟩,⟨by simp,by simp [endedL]⟩,by omega⟩
 clear HC HA HB hL1 hD1
 have HY:Hid (∀ K E W2 d p,EInv w (W.heap.size+1) W.heap.size (w.heap.size+1) w.heap.size (w.heap.size+1+1) (W.heap.size+2) rec K E W2→PAway K W2 d p→YieldAt Fence.wide 0 Tryz.prog (W.heap.size+1) #[pathV d p] W2 (Visited (fun K' u=>EInv w (W.heap.size+1) W.heap.size (w.heap.size+1) w.heap.size (w.heap.size+1+1) (W.heap.size+2) rec K' (E++[p]) u) (fun u=>EStop w (W.heap.size+1) W.heap.size w.heap.size rec (E++[p]) u) K W2)):=by
  intro K E W2 d p hI hP
  have hy:=run_yield (P:=Tryz.prog) (args:=#[pathV d p]) hI.loop (by rw [hrec];rfl)
  rw [hrec] at hy
  refine ⟨_,_,_,_,hy,roundIn_of_wpIn trivial ?_⟩
  clear hy
  have HI:=hidP hI
  have HP:=hidP hP
  have HZ:=hidP hz
  have HZ1:=hidP hz1
  have HREC:Hid (∀ st pe,({ rec .ready none with state:=st,pending:=pe }:Loop)=rec st pe):=by
   unfold Hid
   rw [hrec]
   intro st pe
   rfl
  have hrs:(rec .ready none).state = .ready:=by rw [hrec]
  clear hI hP hz hz1 HI0 hrec
  unfold pathV
  dsimp only
  have ht:((#[8]:Array Tmp).zip #[Value.agg #[.int .i64 p.start,.int .i64 p.stop,.bool p.ended,.slice d.a0 p.steps.length d.c0,.slice d.a1 p.lies.length d.c1,.slice d.a2 p.crosses.length d.c2]]).foldl (fun tmps (x:Tmp × Value)=>tmps.setIfInBounds x.1 x.2) (#[Value.pointer (some { block:=KT,off:=0 }),undef,Value.pointer (some { block:=w.heap.size,off:=0 }),Value.pointer (some { block:=w.heap.size+1,off:=0 }),Value.pointer (some { block:=w.heap.size+1+1,off:=0 }),undef,Value.pointer (some { block:=KT,off:=0 }),Value.func (Fn.func 140) #[Value.pointer (some { block:=KT,off:=0 })] #[],undef,undef,undef,undef,undef,undef,undef,undef,undef,undef,undef,undef,undef,undef,undef,undef,undef]:Array Value) = #[Value.pointer (some { block:=KT,off:=0 }),undef,Value.pointer (some { block:=w.heap.size,off:=0 }),Value.pointer (some { block:=w.heap.size+1,off:=0 }),Value.pointer (some { block:=w.heap.size+1+1,off:=0 }),undef,Value.pointer (some { block:=KT,off:=0 }),Value.func (Fn.func 140) #[Value.pointer (some { block:=KT,off:=0 })] #[],Value.agg #[.int .i64 p.start,.int .i64 p.stop,.bool p.ended,.slice d.a0 p.steps.length d.c0,.slice d.a1 p.lies.length d.c1,.slice d.a2 p.crosses.length d.c2],undef,undef,undef,undef,undef,undef,undef,undef,undef,undef,undef,undef,undef,undef,undef,undef]:=by kernel_rfl
  rw [ht]
  clear ht
  have hsa:∀ (ρ:Operand→Value) (o:Oper),(∀ c,o.op≠.defer c)→Oper.semAt (some (W.heap.size+1)) ρ o=execOp ρ o:=fun ρ o h=>Oper.semAt_some _ ρ o h
  have HRS:=hidP hrs
  clear hrs
  gi_wp2_with fail
  have hbx:Below W2.heap.size W2 (W2.alloc (Obj.cells #[Value.int .i64 p.start,.int .i64 p.stop,.bool p.ended,.slice d.a0 p.steps.length d.c0,.slice d.a1 p.lies.length d.c1,.slice d.a2 p.crosses.length d.c2] 212)):=(Below.refl _ _).alloc (Nat.le_refl _) _
  refine ⟨_,run_beginRound ((hbx.block _ (get_lt HI.out.loop)).trans HI.out.loop) HRS.out,?_⟩
  generalize hU:World.putObj (World.alloc W2 _) _ _=U
  have hlt:=get_lt HI.out.loop
  have hlow:=HI.out.low
  obtain ⟨x,y,xs,k1,k2,k3,k4,k5⟩:=HI.out.own
  have hOU:Only (fun k=>k=W.heap.size+1) W2 U:=by
   rw [← hU]
   exact (Only.of_below hbx).trans (Only.of_grown (grownBy_putObj' _ _ _) (fun k e=>by cases e;rfl))
  have hlU:U.heap[W.heap.size+1]? = some (.loop { rec .ready none with state:=.busy }):=by
   rw [← hU]
   exact World.putObj_heap_same (by simp;omega)
  have hX:U.rowIs W2.heap.size 212 6 (fun i:Nat=>(#[Value.int .i64 p.start,.int .i64 p.stop,.bool p.ended,.slice d.a0 p.steps.length d.c0,.slice d.a1 p.lies.length d.c1,.slice d.a2 p.crosses.length d.c2]:Array Value).getD i (.bool false)):=by
   refine (row_of_alloc2 W2 #[.int .i64 p.start,.int .i64 p.stop,.bool p.ended,.slice d.a0 p.steps.length d.c0,.slice d.a1 p.lies.length d.c1,.slice d.a2 p.crosses.length d.c2] 212).of_block ?_
   rw [← hU]
   exact World.putObj_heap_other (by omega)
  have p0:U.cell? ⟨W2.heap.size,0,none⟩=some (.int .i64 p.start):=hX.cell (i:=0) (by omega)
  have p1:U.cell? ⟨W2.heap.size,1,none⟩=some (.int .i64 p.stop):=hX.cell (i:=1) (by omega)
  have p2:U.cell? ⟨W2.heap.size,2,none⟩=some (.bool p.ended):=hX.cell (i:=2) (by omega)
  have p3:U.cell? ⟨W2.heap.size,3,none⟩=some (.slice d.a0 p.steps.length d.c0):=hX.cell (i:=3) (by omega)
  have p4:U.cell? ⟨W2.heap.size,4,none⟩=some (.slice d.a1 p.lies.length d.c1):=hX.cell (i:=4) (by omega)
  have p5:U.cell? ⟨W2.heap.size,5,none⟩=some (.slice d.a2 p.crosses.length d.c2):=hX.cell (i:=5) (by omega)
  have hC:=HI.out.come.of_block (hOU.block _ HI.out.come.lt (by show ¬ w.heap.size+1+1=W.heap.size+1;omega))
  have hA:=k1.of_block (hOU.block _ k1.lt (by show ¬ w.heap.size+1=W.heap.size+1;omega))
  have hB:=HI.out.res.of_block (hOU.block _ HI.out.res.lt (by show ¬ w.heap.size=W.heap.size+1;omega))
  have hD:=(hOU.block _ (get_lt HI.out.dfr) (by show ¬ W.heap.size=W.heap.size+1;omega)).trans HI.out.dfr
  have hOw:=owns_only k2 hOU (fun k hk=>by omega)
  have hKl:K (W.heap.size+1):=(k5 _).2 (Or.inl rfl)
  have hKA:K (w.heap.size+1):=(k5 _).2 (Or.inr (Or.inr (Or.inl rfl)))
  have hKB:K w.heap.size:=(k5 _).2 (Or.inr (Or.inr (Or.inr (Or.inl rfl))))
  have hKC:K (w.heap.size+1+1):=(k5 _).2 (Or.inr (Or.inr (Or.inr (Or.inr (Or.inl rfl)))))
  have HOK:Hid (Only K W2 U):=hOU.mono (fun k hk=>by subst hk;exact hKl)
  have hE1:(E.length:Int)≤20000:=by have:=HI.out.few.1;omega
  have hE2:xs.length≤300:=by have:=HI.out.few.2;rw [← k3] at this;simpa using this
  have hzU:W2.heap.size<U.heap.size:=hX.lt
  have c0:=hC.cell (i:=0) (by omega)
  have cf:=hC.frozen 0
  have a0:=hA.cell (i:=0) (by omega)
  have b0:=hB.cell (i:=0) (by omega)
  have bf:=hB.frozen 0
  have hzC:=hC.lt
  have hzA:=hA.lt
  have hzB:=hB.lt
  have HC2:=hidP (hC.set 0 (.int .i64 ((E.length:Int)+1)))
  have HA:=hidP hA
  have HB:=hidP hB
  have HD:=hidP hD
  have HOw:=hidP hOw
  have HLU:=hidP hlU
  have K3:=hidP k3
  have K4:=hidP k4
  have K5:=hidP k5
  have HKA:=hidP hKA
  have HKB:=hidP hKB
  have HKC:=hidP hKC
  have HLW:=hidP hlow
  have hlt2:w.heap.size+1+1<W2.heap.size:=HI.out.come.lt
  have hlt3:W.heap.size+1<W2.heap.size:=get_lt HI.out.loop
  have hlt1:w.heap.size+1<W2.heap.size:=by omega
  have hlt0:w.heap.size<W2.heap.size:=by omega
  clear hU hbx k1 k2 k3 k4 k5 hX hC hA hB hD hOw hlU hOU hlow hlt hKl hKA hKB hKC
  obtain ⟨pe,hpe⟩:∃ pe,p.ended=pe:=⟨_,rfl⟩
  have HPE:=hidP hpe
  rw [hpe] at p2
  clear hpe
  have HKX:Hid (∀ k,(Value.slice x xs.length y).ownBlock=some k→K k∨W2.heap.size≤k):=fun k hk=>Or.inl ((K5.out k).2 (Or.inr (Or.inr (Or.inr (Or.inr (Or.inr hk))))))
  cases pe
  ·have HEN:Hid (endedL (E++[p])=endedL E):=by
    unfold Hid
    rw [endedL_snoc,HPE.out]
    simp
   by_cases hlim:(20000:Int)<(E.length:Int)+1
   ·gi_wp2_with fail
    have hlow:=HLW.out
    refine round_off HI.out HREC.out ((Below.heap_setCell _ ⟨w.heap.size,0,none⟩ _ (W.heap.size+1) (by show ¬ W.heap.size+1=w.heap.size;omega)).trans ((Below.heap_setCell _ ⟨w.heap.size+1+1,0,none⟩ _ (W.heap.size+1) (by show ¬ W.heap.size+1=w.heap.size+1+1;omega)).trans HLU.out)) ((HOK.out.setCell (p:=⟨w.heap.size+1+1,0,none⟩) (Or.inl HKC.out) _).setCell (p:=⟨w.heap.size,0,none⟩) (Or.inl HKB.out) _) ?_ ((Below.heap_setCell _ ⟨w.heap.size,0,none⟩ _ W.heap.size (by show ¬ W.heap.size=w.heap.size;omega)).trans ((Below.heap_setCell _ ⟨w.heap.size+1+1,0,none⟩ _ W.heap.size (by show ¬ W.heap.size=w.heap.size+1+1;omega)).trans HD.out)) (Or.inl (by omega)) _
    exact row_one ((HB.out.setOther (a:=⟨w.heap.size+1+1,0,none⟩) (by show ¬ w.heap.size=w.heap.size+1+1;omega) _).set 0 (.slice none 0 0)) (by simp)
   ·gi_wp2_with fail
    have hlow:=HLW.out
    refine round_on HI.out HREC.out ((Below.heap_setCell _ ⟨w.heap.size+1+1,0,none⟩ _ (W.heap.size+1) (by show ¬ W.heap.size+1=w.heap.size+1+1;omega)).trans HLU.out) (HOK.out.setCell (p:=⟨w.heap.size+1+1,0,none⟩) (Or.inl HKC.out) _) (row_one HC2.out (by simp)) ?_ (HB.out.setOther (a:=⟨w.heap.size+1+1,0,none⟩) (by show ¬ w.heap.size=w.heap.size+1+1;omega) _) ((Below.heap_setCell _ ⟨w.heap.size+1+1,0,none⟩ _ W.heap.size (by show ¬ W.heap.size=w.heap.size+1+1;omega)).trans HD.out) ⟨by omega,by rw [HEN.out];exact HI.out.few.2⟩ _
    refine ⟨x,y,xs,HA.out.setOther (a:=⟨w.heap.size+1+1,0,none⟩) (by show ¬ w.heap.size+1=w.heap.size+1+1;omega) _,ownsRow_setCell_below HOw.out (a:=⟨w.heap.size+1+1,0,none⟩) (by show w.heap.size+1+1<W.heap.size+2;omega) _,by rw [HEN.out];exact K3.out,K4.out,HKX.out⟩
  ·have HEN:Hid (endedL (E++[p])=endedL E++[p]):=by
    unfold Hid
    rw [endedL_snoc,HPE.out]
    simp
   rw [HPE.out]
   have HOA:=hidP (ownsRow_setCell_below HOw.out (a:=⟨w.heap.size+1+1,0,none⟩) (by show w.heap.size+1+1<W.heap.size+2;have:=HLW.out;omega) (.int .i64 ((E.length:Int)+1)))
   have HAA:=hidP (HA.out.setOther (a:=⟨w.heap.size+1+1,0,none⟩) (by show ¬ w.heap.size+1=w.heap.size+1+1;omega) (.int .i64 ((E.length:Int)+1)))
   have HBB:=hidP (HB.out.setOther (a:=⟨w.heap.size+1+1,0,none⟩) (by show ¬ w.heap.size=w.heap.size+1+1;omega) (.int .i64 ((E.length:Int)+1)))
   have HDD:Hid ((U.setCell ⟨w.heap.size+1+1,0,none⟩ (.int .i64 ((E.length:Int)+1))).heap[W.heap.size]? = some (.deferred (some []))):=(Below.heap_setCell _ ⟨w.heap.size+1+1,0,none⟩ _ W.heap.size (by show ¬ W.heap.size=w.heap.size+1+1;have:=HLW.out;omega)).trans HD.out
   have HLL:Hid ((U.setCell ⟨w.heap.size+1+1,0,none⟩ (.int .i64 ((E.length:Int)+1))).heap[W.heap.size+1]? = some (.loop { rec .ready none with state:=.busy })):=(Below.heap_setCell _ ⟨w.heap.size+1+1,0,none⟩ _ (W.heap.size+1) (by show ¬ W.heap.size+1=w.heap.size+1+1;have:=HLW.out;omega)).trans HLU.out
   have HOO:=hidP (HOK.out.setCell (p:=⟨w.heap.size+1+1,0,none⟩) (Or.inl HKC.out) (.int .i64 ((E.length:Int)+1)))
   have hcs:(20000:Int)<(E.length:Int)+1∨(¬ (20000:Int)<(E.length:Int)+1∧(300:Int)<(xs.length:Int)+1)∨(¬ (20000:Int)<(E.length:Int)+1∧¬ (300:Int)<(xs.length:Int)+1):=by omega
   rcases hcs with hlim | ⟨hlim,hlen⟩ | ⟨hlim,hlen⟩
   all_goals
    gi_wp2_with (gi_at_builtin;refine wpListIn_push_sharp rfl (.tmp 13) (.tmp 15) 209 rfl (W.heap.size+2) 212 _ 6 96 Tryz.underlying209 Tryz.infoPath rfl (by decide) (.slice x xs.length y) xs.length (flatQ xs) rfl HOA.out _ (by simp) [.int .i64 p.start,.int .i64 p.stop,.bool true,.slice d.a0 p.steps.length d.c0,.slice d.a1 p.lies.length d.c1,.slice d.a2 p.crosses.length d.c2] rfl rfl (by simp [Value.oneCell']) (by unfold maxLen;omega) (by omega) (by simp;omega) ?_;intro x6 y6 w6 r1 r2 r3;have hne:∀ k,k<W.heap.size+2→some k≠(Value.slice x xs.length y).ownBlock:=(fun k hk e=>by have h9:=(HOA.out.lt k e.symm).1;omega);have hA6:=HAA.out.of_block (r2.block _ HAA.out.lt (hne _ (by have h9:=HLW.out;omega)));have hB6:=HBB.out.of_block (r2.block _ HBB.out.lt (hne _ (by have h9:=HLW.out;omega)));have hC6:=HC2.out.of_block (r2.block _ HC2.out.lt (hne _ (by have h9:=HLW.out;omega)));have a6:=hA6.cell (i:=0) (by omega);have af6:=hA6.frozen 0;have hzA6:=hA6.lt;have b6:=hB6.cell (i:=0) (by omega);have bf6:=hB6.frozen 0;have hzB6:=hB6.lt;have c6:w6.cell? ⟨w.heap.size+1+1,0,none⟩=some (.int .i64 ((E.length:Int)+1)):=(hC6.cell (i:=0) (by omega)).trans (by simp);have HA6:=hidP hA6;have HB6:=hidP hB6;have HC6:=hidP hC6;have HR1:=hidP r1;have HR2:=hidP r2;have HR3:=hidP r3;have HNE:=hidP hne;clear hA6 hB6 hC6 r1 r2 r3 hne)
    have hlow:=HLW.out
    have hO6:Only K W2 w6:=HOO.out.trans (Only.of_grown HR2.out (fun k hk=>(K5.out k).2 (Or.inr (Or.inr (Or.inr (Or.inr (Or.inr hk)))))))
    have hl6:=(HR2.out.block _ (get_lt HLL.out) (HNE.out _ (by omega))).trans HLL.out
    have hD6:=(HR2.out.block _ (get_lt HDD.out) (HNE.out _ (by omega))).trans HDD.out
    have hl7:=(Below.heap_setCell w6 ⟨w.heap.size+1,0,none⟩ (.slice x6 (xs.length+1) y6) (W.heap.size+1) (by show ¬ W.heap.size+1=w.heap.size+1;omega)).trans hl6
    have hD7:=(Below.heap_setCell w6 ⟨w.heap.size+1,0,none⟩ (.slice x6 (xs.length+1) y6) W.heap.size (by show ¬ W.heap.size=w.heap.size+1;omega)).trans hD6
    have hO7:=hO6.setCell (p:=⟨w.heap.size+1,0,none⟩) (Or.inl HKA.out) (.slice x6 (xs.length+1) y6)
    have hB7:=HB6.out.setOther (a:=⟨w.heap.size+1,0,none⟩) (by show ¬ w.heap.size=w.heap.size+1;omega) (.slice x6 (xs.length+1) y6)
    have hlenE:(endedL (E++[p])).length=xs.length+1:=by rw [HEN.out,← K3.out];simp
   ·exact round_off HI.out HREC.out ((Below.heap_setCell _ ⟨w.heap.size,0,none⟩ _ (W.heap.size+1) (by show ¬ W.heap.size+1=w.heap.size;omega)).trans hl7) (hO7.setCell (p:=⟨w.heap.size,0,none⟩) (Or.inl HKB.out) _) (row_one (hB7.set 0 (.slice none 0 0)) (by simp)) ((Below.heap_setCell _ ⟨w.heap.size,0,none⟩ _ W.heap.size (by show ¬ W.heap.size=w.heap.size;omega)).trans hD7) (Or.inl (by omega)) _
   ·exact round_off HI.out HREC.out ((Below.heap_setCell _ ⟨w.heap.size,0,none⟩ _ (W.heap.size+1) (by show ¬ W.heap.size+1=w.heap.size;omega)).trans hl7) (hO7.setCell (p:=⟨w.heap.size,0,none⟩) (Or.inl HKB.out) _) (row_one (hB7.set 0 (.slice none 0 0)) (by simp)) ((Below.heap_setCell _ ⟨w.heap.size,0,none⟩ _ W.heap.size (by show ¬ W.heap.size=w.heap.size;omega)).trans hD7) (Or.inr (by rw [hlenE];omega)) _
   ·refine round_on HI.out HREC.out hl7 hO7 (row_one (HC6.out.setOther (a:=⟨w.heap.size+1,0,none⟩) (by show ¬ w.heap.size+1+1=w.heap.size+1;omega) _) (by simp)) ?_ hB7 hD7 ⟨by omega,by rw [hlenE];omega⟩ _
    have hxl:(xs++[(d,p)]).length=xs.length+1:=by simp
    have hfl:flatQ xs++[Value.int .i64 p.start,.int .i64 p.stop,.bool true,.slice d.a0 p.steps.length d.c0,.slice d.a1 p.lies.length d.c1,.slice d.a2 p.crosses.length d.c2]=flatQ (xs++[(d,p)]):=by
     rw [← flatQ_snoc,← HPE.out]
     rfl
    have ho7:=HR1.out
    rw [hfl,← hxl] at ho7
    refine ⟨x6,y6,xs++[(d,p)],?_,ownsRow_setCell_below ho7 (a:=⟨w.heap.size+1,0,none⟩) (by show w.heap.size+1<W.heap.size+2;omega) _,by rw [List.map_append,K3.out,HEN.out];rfl,?_,?_⟩
    ·rw [hxl]
     exact row_one (HA6.out.set 0 (.slice x6 (xs.length+1) y6)) (by simp)
    ·intro q hq
     rcases List.mem_append.1 hq with hq | hq
     ·exact K4.out q hq
     ·have:q=(d,p):=by simpa using hq
      subst this
      exact HP.out
    ·intro k hk
     rw [hxl] at hk
     rcases HR3.out k hk with h | h
     ·exact HKX.out k h
     ·refine Or.inr (Nat.le_trans HOO.out.size h)
 have HRD:Hid (Rounds w (W.heap.size+1) (EInv w (W.heap.size+1) W.heap.size (w.heap.size+1) w.heap.size (w.heap.size+1+1) (W.heap.size+2) rec) (EStop w (W.heap.size+1) W.heap.size w.heap.size rec)):=
  ⟨fun K E W2 h=>h.lt,fun K E W2 h=>h.below,fun K E W2 W3 h hb=>h.keep hb,fun E W2 W3 h hb=>h.keep hb,HY.out⟩
 refine (callsIn_wide).2 ((walk_any w KT M pa ja sa pc jc sc ps js ss R hT (W.heap.size+1) _ _ HRD _ W1 HI0).mono ?_)
 rintro e w3 ⟨⟨v,rfl⟩,hO3,h3⟩
 have hst:∀ pe,(rec .ready pe).state≠.busy∧(rec .ready pe).pending=pe∧(rec .done pe).state≠.busy∧(rec .done pe).pending=pe:=by
  rw [hrec]
  intro pe
  simp
 rcases h3 with ⟨K',hI3,hG3⟩ | ⟨E1,E2,hE,hS3⟩
 ·refine ⟨_,_,run_endLoop hI3.loop (hst none).1,?_⟩
  rw [(hst none).2.1]
  dsimp only
  generalize hw4:w3.putObj _ _=w4
  have hO4:Only (fun k=>k=W.heap.size+1) w3 w4:=by
   rw [← hw4]
   exact Only.of_grown (grownBy_putObj' _ _ _) (fun k e=>by cases e;rfl)
  clear hw4
  obtain ⟨x,y,xs,g1,g2,g3,g4,g5⟩:=hI3.own
  have hlow:=hI3.low
  have hA4:=g1.of_block (hO4.block _ g1.lt (by show ¬ w.heap.size+1=W.heap.size+1;omega))
  have hB4:=hI3.res.of_block (hO4.block _ hI3.res.lt (by show ¬ w.heap.size=W.heap.size+1;omega))
  have hD4:=(hO4.block _ (get_lt hI3.dfr) (by show ¬ W.heap.size=W.heap.size+1;omega)).trans hI3.dfr
  have a0:=hA4.cell (i:=0) (by omega)
  have b0:=hB4.cell (i:=0) (by omega)
  have bf:=hB4.frozen 0
  have hzA:=hA4.lt
  have hzB:=hB4.lt
  have HB5:=hidP (hB4.set 0 (.slice x xs.length y))
  have HD4:=hidP hD4
  have HG2:=hidP g2
  have HG3:=hidP g3
  have HG4:=hidP g4
  have HG5:=hidP g5
  have HO4:=hidP hO4
  have HI3:=hidP hI3
  clear hO4 g1 g2 g3 g4 g5 hA4 hB4 hD4 hI3 hG3 hO3 hst hlow
  have HZ:=hidP hz
  have HZ1:=hidP hz1
  clear hz hz1
  simp only [Exit.inBlock,Exit.then]
  gi_wp2_with fail
  have hD5:(w4.setCell ⟨w.heap.size,0,none⟩ (.slice x xs.length y)).heap[W.heap.size]? = some (.deferred (some [])):=(Below.heap_setCell w4 ⟨w.heap.size,0,none⟩ _ W.heap.size (by show ¬ W.heap.size=w.heap.size;have:=HZ.out;omega)).trans HD4.out
  refine ⟨by simp,.inl ⟨_,_,rfl,run_takeDeferred hD5,?_⟩⟩
  generalize hwf:World.putObj (World.setCell w4 _ _) _ _=wf
  have hOf:Only (fun k=>k=W.heap.size) (w4.setCell ⟨w.heap.size,0,none⟩ (.slice x xs.length y)) wf:=by
   rw [← hwf]
   exact Only.of_grown (grownBy_putObj' _ _ _) (fun k e=>by cases e;rfl)
  clear hwf
  have hOs:Only (fun k=>k=w.heap.size) w4 (w4.setCell ⟨w.heap.size,0,none⟩ (.slice x xs.length y)):=(Only.refl (fun k=>k=w.heap.size) w4).setCell (p:=⟨w.heap.size,0,none⟩) (Or.inl rfl) _
  have hB6:=HB5.out.of_block (hOf.block _ HB5.out.lt (by show ¬ w.heap.size=W.heap.size;have:=HZ.out;omega))
  have b6:wf.cell? ⟨w.heap.size,0,none⟩=some (.slice x xs.length y):=(hB6.cell (i:=0) (by omega)).trans (by simp)
  have hO3f:Only (fun k=>k=W.heap.size+1∨k=W.heap.size∨k=w.heap.size) w3 wf:=((HO4.out.mono (fun k hk=>Or.inl hk)).trans (hOs.mono (fun k hk=>Or.inr (Or.inr hk)))).trans (hOf.mono (fun k hk=>Or.inr (Or.inl hk)))
  have hle:=HI3.out.low
  refine ⟨.slice x xs.length y,by simp [results,Tryz.results113,go_sem,b6],.slice x xs.length y,rfl,?_,HI3.out.below.trans (hO3f.below HI3.out.below.size (fun k hk e=>by omega))⟩
  have hpf:pathsF ps js ss=xs.map Prod.snd:=by
   unfold pathsF
   rw [if_pos (show fitsB ps js ss from HI3.out.few),HG3.out]
  rw [hpf]
  exact PathsOut.of_own (owns_only HG2.out hO3f (fun k hk=>by omega)) (fun q hq=>HG4.out q hq wf (hO3f.mono (fun k hk=>(HG5.out k).2 (by rcases hk with h | h | h;exact Or.inl h;exact Or.inr (Or.inl h);exact Or.inr (Or.inr (Or.inr (Or.inl h)))))))
 ·refine ⟨_,_,run_endLoop hS3.loop (hst (some .ret)).2.2.1,?_⟩
  rw [(hst (some .ret)).2.2.2]
  dsimp only
  generalize hw4:w3.putObj _ _=w4
  have hO4:Only (fun k=>k=W.heap.size+1) w3 w4:=by
   rw [← hw4]
   exact Only.of_grown (grownBy_putObj' _ _ _) (fun k e=>by cases e;rfl)
  clear hw4
  have HZ:=hidP hz
  have HZ1:=hidP hz1
  have HO4:=hidP hO4
  have HS3:=hidP hS3
  clear hz hz1 hO4 hS3
  gi_wp2_with fail
  have hD5:w4.heap[W.heap.size]? = some (.deferred (some [])):=(HO4.out.block _ (get_lt HS3.out.dfr) (by show ¬ W.heap.size=W.heap.size+1;omega)).trans HS3.out.dfr
  refine ⟨by simp,.inl ⟨_,_,rfl,run_takeDeferred hD5,?_⟩⟩
  generalize hwf:World.putObj w4 _ _=wf
  have hOf:Only (fun k=>k=W.heap.size) w4 wf:=by
   rw [← hwf]
   exact Only.of_grown (grownBy_putObj' _ _ _) (fun k e=>by cases e;rfl)
  clear hwf
  have hO3f:Only (fun k=>k=W.heap.size+1∨k=W.heap.size) w3 wf:=(HO4.out.mono (fun k hk=>Or.inl hk)).trans (hOf.mono (fun k hk=>Or.inr hk))
  have hle:=HZ.out
  have hB6:=HS3.out.res.of_block (hO3f.block _ HS3.out.res.lt (by show ¬ (w.heap.size=W.heap.size+1∨w.heap.size=W.heap.size);omega))
  have b6:wf.cell? ⟨w.heap.size,0,none⟩=some (.slice none 0 0):=hB6.cell (i:=0) (by omega)
  refine ⟨.slice none 0 0,by simp [results,Tryz.results113,go_sem,b6],.slice none 0 0,rfl,?_,HS3.out.below.trans (hO3f.below HS3.out.below.size (fun k hk e=>by omega))⟩
  have hpf:pathsF ps js ss=[]:=by
   unfold pathsF
   rw [if_neg]
   rintro ⟨q1,q2⟩
   rw [hE] at q1 q2
   rw [List.length_append] at q1
   rw [endedL_app,List.length_append] at q2
   have:=HS3.out.past
   omega
  rw [hpf]
  exact PathsOut.nil wf
end Go.Proofs.YtmkdgnmmebldgabGreatDoor
namespace Go.Proofs.YtmkdgnmmebldgabGreatDoor
open Go
theorem opsIn_of_ops {P:Program}{ops:Array Oper}{Q:Exit→Act→World→Prop}{r n:Nat}(hnd:∀ (i:Nat) o,ops[i]? = some o→∀ c,o.op≠.defer c)(hQ:¬ LetsOut Q):
  ∀ (L:List Nat) (a:Act) (w:World),wpOps P ops Q L a w→wpOpsIn (Fence.wide.inRound r) n P ops Q L a w
 | [],a,w,h=>h
 | i::rest,a,w,h=>by
  have ih:=opsIn_of_ops (P:=P) (r:=r) (n:=n) hnd hQ rest
  simp only [wpOps] at h
  simp only [wpOpsIn]
  cases ho:ops[i]? with
  | none =>
   rw [ho] at h
   exact ih a w h
  | some o =>
   rw [ho] at h
   dsimp only at h ⊢
   by_cases hw:Region.wanted o (yielded ops a.tmps)=true
   ·rw [if_pos hw] at h ⊢
    rcases h with h | h
    ·refine ⟨fun _ _=>trivial,?_⟩
     unfold Oper.wp at h
     rw [Oper.semAt_eq _ _ _ (hnd i o ho)]
     generalize (execOp a.eval o).run P w=res at h
     cases res with
     | halt x w'=>cases x <;> first | exact h | exact absurd h (by intro h;exact h)
     | ok nx w' =>
      cases nx with
      | value v=>exact ih _ _ h
      | skip=>exact ih _ _ h
      | defer d=>exact ih _ _ h
      | enter f args =>
       refine ⟨fun h=>(by cases h),?_⟩
       show CallsIn Fence.wide (n-1) P f args w' _
       refine callsIn_wide.2 (Calls.mono h ?_)
       intro e w'' he
       cases e with
       | returned v=>exact ih _ _ he
       | panicked ch=>exact he
       | outgrown=>exact he
      | row nm args =>
       refine ⟨fun h=>(by cases h),?_⟩
       intro c cs _
       obtain ⟨v,w'',h1,h2⟩:=h c cs
       exact ⟨v,w'',ih _ _ h1,stepsIn_wide.2 h2⟩
      | round a1 a2 a3 a4 a5=>exact h.elim
      | _=>exact h.elim
    ·exact absurd h.2 hQ
   ·rw [if_neg hw] at h ⊢
    exact ⟨fun _ _=>trivial,ih _ _ h⟩
def calmB (o:Oper):Bool:=match o.op with | .defer _=>false | _=>true
theorem calm_all {l:List Oper}(h:l.all calmB=true):∀ (i:Nat) o,l.toArray[i]? = some o→∀ c,o.op≠.defer c:=by
 intro i o ho c hc
 have hm:o ∈ l:=by
  rw [List.getElem?_toArray] at ho
  exact List.mem_of_getElem? ho
 have:=List.all_eq_true.1 h o hm
 unfold calmB at this
 rw [hc] at this
 cases this
section
variable {P:Program} {Q:Exit→Act→World→Prop} {l:List Oper}
theorem wpIn_region_tree {id r k:Nat}{a:Act}{w:World}(C:World→Prop)(n:Nat)(hnd:l.all calmB=true)(hQ:¬ LetsOut Q)(hm:P.follows .mixedOrders=true)(hB:treeB l n=true)(hC:C w.drew)
  (h:wpT P l C n Q n (Array.replicate l.length false) a w.drew):(Code.region id l.toArray true).wpIn (Fence.wide.inRound r) k P Q a w:=by
 have hB':=hB
 simp only [treeB,Bool.and_eq_true,decide_eq_true_eq] at hB'
 obtain ⟨⟨⟨hsel,hn⟩,hs⟩,hc⟩:=hB'
 have hdl:(l.drop n).length=l.length-n:=by simp
 have inv0:HeadInv .any l.toArray n (Array.replicate l.length false):=
  ⟨by simp,fun j oj _ hl=>(by rw [getD_replicate_false] at hl;cases hl),fun t _ ht=>getD_in (by simpa using ht) (getD_replicate_false _ _)⟩
 have H:=h hB inv0 hC
 have this:=wpAny_of_mix (Q:=Q) (g:=l.length-n) (fun listed a' w' hL=>by
  have:=wpAny_of_seq (md:=.any) (Q':=Q) (l.drop n) n listed a' w' (fun j=>by simp [List.getElem?_drop]) (by rw [hdl];exact hL.1) hL.2
  rwa [hdl] at this) _ _ _ _ hC H
 rw [show n+(l.length-n)=l.toArray.size by simp;omega] at this
 refine wpIn_region_draw fun t=>?_
 simp only [Region.schedule,hm,Bool.true_or,if_true]
 refine opsIn_of_ops (calm_all hnd) hQ _ _ _ ?_
 refine wpAny_sound l.toArray.size t _ a _ ?_
 simpa using this
end
end Go.Proofs.YtmkdgnmmebldgabGreatDoor
namespace Go.Proofs.YtmkdgnmmebldgabGreatDoor
open Go.RowKit Go.Deep Go.Maps
theorem plainSteps_any (KT:Nat)(s:MStep)(w:World):
  Calls Tryz.prog 177 #[.pointer (some ⟨KT,0,none⟩),endV s] w fun e w'=>e = .returned (.func (.func 194) #[] #[.pointer (some ⟨w.heap.size+1,0,none⟩),.pointer (some ⟨w.heap.size,0,none⟩)]) ∧
   w'.cell? ⟨w.heap.size,0,none⟩=some (.pointer (some ⟨KT,0,none⟩))∧w'.cell? ⟨w.heap.size+1,0,none⟩=some (.int .i64 s.piece)∧w'.cell? ⟨w.heap.size+1,1,none⟩=some (.int .i64 s.side)∧Below w.heap.size w w':=by
 have hmf:∀ (fn:Fn) (first cap:Array Value) (w:World),(Instr.makeFunc fn first cap).run Tryz.prog w = .ok (.func fn first cap) w:=fun _ _ _ _=>rfl
 unfold endV
 go_enter Tryz.func177,Tryz.ntmps177
 go_wp2_with fail
 go_ret
 exact ⟨rfl,by simp [go_sem],by simp [go_sem],by simp [go_sem],blo⟩
theorem row_congr {w:World}{b T n:Nat}{f g:Nat→Value}(h:w.rowIs b T n f)(e:∀ i,i<n→f i=g i):w.rowIs b T n g:=by
 obtain ⟨c,h1,h2,h3⟩:=h
 exact ⟨c,h1,h2,fun i hi=>by rw [h3 i hi,e i hi]⟩
structure SRounds (KT tb l B0:Nat)(js:List MJoint)(J N:Nat→MStep→(Nat→Prop)→World→Prop)(Sx:World→Prop):Prop where
 ltJ:∀ n s K W,J n s K W→∀ k,K k→k<W.heap.size
 keepJ:∀ n s K S W W',J n s K W→Only S W W'→(∀ k,S k→B0≤k∧¬ K k)→J n s K W'
 keepN:∀ n s K S W W',N n s K W→Only S W W'→(∀ k,S k→B0≤k∧¬ K k)→N n s K W'
 tbN:∀ n s K W,N n s K W→W.cell? ⟨tb,0,none⟩=some (.pointer (some ⟨KT,0,none⟩))
 next:∀ n s K W,N n s K W→(overPlainF js s).2=true→J n (overPlainF js s).1 K W
 yield:∀ n s K W,J n s K W→YieldAt Fence.wide 0 Tryz.prog l #[endV s] W (Visited (fun K' u => ∃ m,m<n∧N m s K' u) Sx K W)
def StepsPost (js:List MJoint)(N:Nat→MStep→(Nat→Prop)→World→Prop)(Sx:World→Prop)(K:Nat→Prop)(w:World)(e:Ending)(w':World):Prop:=
 (∃ v,e = .returned v)∧Only K w w'∧((∃ n s K',N n s K' w'∧(overPlainF js s).2=false∧Grow K K' w)∨Sx w')
theorem steps_any (KT M tb fb B0:Nat)(pa ja sa:Option Addr)(pc jc sc:Nat)(ps:List MPiece)(js:List MJoint)(ss:List MPiece)(R:Hid (Right ps js ss))(l:Nat)(J N:Nat→MStep→(Nat→Prop)→World→Prop)(Sx:World→Prop)(RD:Hid (SRounds KT tb l B0 js J N Sx))
  (hTN:Hid (∀ n s K W,N n s K W→TTrack W KT M pa ja sa pc jc sc ps js ss∧ValidS ps s)) (n:Nat) (s:MStep) (K:Nat→Prop) (w:World) (hB0:B0≤w.heap.size) (hJ:Hid (J n s K w)) (c0:w.cell? ⟨fb,0,none⟩=some (.int .i64 s.piece)) (c1:w.cell? ⟨fb,1,none⟩=some (.int .i64 s.side)) :
  Calls Tryz.prog 194 #[.func (.yield l) #[] #[],.pointer (some ⟨fb,0,none⟩),.pointer (some ⟨tb,0,none⟩)] w (StepsPost js N Sx K w):=by
 have hzf:=cellLt c0
 dsimp only at hzf
 have HLT:=hidP (RD.out.ltJ _ _ _ _ hJ.out)
 go_enter Tryz.func194,Tryz.ntmps194
 go_wp2_with fail
 generalize hW:World.alloc w _=W
 have HBW:Hid (Below w.heap.size w W):=by rw [← hW];exact blo
 have HR:Hid (W.rowIs w.heap.size 166 2 (fun i=>(#[Value.int .i64 s.piece,.int .i64 s.side]:Array Value).getD i (.bool false))):=by
  unfold Hid
  rw [← hW]
  exact row_of_alloc2 w _ _
 clear hW c0 c1
 have HJW:=hidP (RD.out.keepJ _ _ _ (fun _=>False) _ _ hJ.out (Only.of_below HBW.out) (fun k hk=>hk.elim))
 have hzW:w.heap.size<W.heap.size:=HR.out.lt
 go_loopg [5] n (fun k ok wr=>(ok = .bool true∧∃ s K',Hid (J k s K' wr)∧Hid (wr.rowIs w.heap.size 166 2 (fun i=>(#[Value.int .i64 s.piece,.int .i64 s.side]:Array Value).getD i (.bool false)))∧Hid (Only K w wr)∧Hid (Grow K K' W)∧Hid (W.heap.size≤wr.heap.size))∨(ok = .bool false∧∃ m s K',Hid (N m s K' wr)∧Hid ((overPlainF js s).2=false)∧Hid (Only K w wr)∧Hid (Grow K K' W)))
 case atStart=>exact Or.inl ⟨rfl,s,K,HJW,HR,Only.of_below HBW.out,Grow.refl _ _,Nat.le_refl _⟩
 case round =>
  rcases hrel with ⟨rfl,s1,K',HJ,HX,HO,HG,HSZ⟩ | ⟨rfl,m,s1,K',HN,HF,HO,HG⟩
  ·have q0:wr.cell? ⟨w.heap.size,0,none⟩=some (.int .i64 s1.piece):=HX.out.cell (i:=0) (by omega)
   have q1:wr.cell? ⟨w.heap.size,1,none⟩=some (.int .i64 s1.side):=HX.out.cell (i:=1) (by omega)
   have hnb:¬ K' w.heap.size:=fun hk=>by
    rcases HG.out _ hk with h | h
    ·exact Nat.lt_irrefl _ (HLT.out _ h)
    ·omega
   have HNB:=hidP hnb
   obtain ⟨fn,tm,asg,bdy,hy,hrnd⟩:=RD.out.yield _ _ _ _ HJ.out
   unfold endV at hy
   have HRN:=hidP hrnd
   have hzr:=HX.out.lt
   clear hrnd hnb HJW
   go_upto_region 1 with fail
   refine (wpIn_wide (n:=0)).1 ?_
   gi_wp2_with fail
   refine ⟨rfl,RoundIn.mono HRN.out ?_⟩
   rintro e w3 ⟨bb,rfl,ho3,hi3,hs3⟩
   dsimp only
   gi_wp2_with fail
   have HO3:Hid (Only K w w3):=HO.out.thru (HG.out.mono HBW.out.size) ho3
   cases bb
   ·have HS3:=hidP (hs3 rfl)
    clear hi3 hs3 ho3 hy q0 q1
    go_wp2_with fail
    exact bodyPost_end (results_none rfl _ _ _) rfl ⟨⟨_,rfl⟩,HO3.out,Or.inr HS3.out⟩
   ·obtain ⟨K2,⟨m,hm,hN⟩,hG2⟩:=hi3 rfl
    have HX3:=hidP (HX.out.of_block (ho3.block _ hzr HNB.out))
    have y0:w3.cell? ⟨w.heap.size,0,none⟩=some (.int .i64 s1.piece):=HX3.out.cell (i:=0) (by omega)
    have y1:w3.cell? ⟨w.heap.size,1,none⟩=some (.int .i64 s1.side):=HX3.out.cell (i:=1) (by omega)
    have t0:=RD.out.tbN _ _ _ _ hN
    have hzt:=cellLt t0
    dsimp only at hzt
    have HTV:=hidP (hTN.out _ _ _ _ hN)
    have HOP:=hidP (overPlain_any KT M pa ja sa pc jc sc ps js ss R s1 w3 HTV.out.1 HTV.out.2)
    obtain ⟨os,ob⟩:∃ os,overPlainF js s1=os:=⟨_,rfl⟩
    have HOS:=hidP ob
    rw [ob] at HOP
    obtain ⟨os1,os2⟩:=os
    unfold Hid endV at HOP
    have HOP2:=hidP HOP
    have HN:=hidP hN
    have HG3:Hid (Grow K K2 W):=HG.out.trans hG2 HSZ.out
    have hz3:=HX3.out.lt
    have HS34:=hidP ho3.size
    clear hi3 hs3 hy q0 q1 hN hG2 ob HOP ho3
    have HMM:=hidP hm
    clear hm
    go_wp2_with (go_at_call 195;refine HOP2.out.mono ?_;rintro e w4 ⟨rfl,hb4⟩;have hX4:=HX3.out.of_block (hb4.block _ hz3);have g0:=hX4.cell (i:=0) (by omega);have g1:=hX4.cell (i:=1) (by omega);have f0:=hX4.frozen 0;have f1:=hX4.frozen 1;have hz4:=hX4.lt;have HX4:=hidP ((hX4.set 0 (.int .i64 os1.piece)).set 1 (.int .i64 os1.side));have HB4:=hidP hb4;clear hX4 hb4)
    have hO5:Only (fun k=>k=w.heap.size) w3 ((w4.setCell ⟨w.heap.size,0,none⟩ (.int .i64 os1.piece)).setCell ⟨w.heap.size,1,none⟩ (.int .i64 os1.side)):=((Only.of_below (S:=fun k=>k=w.heap.size) HB4.out).setCell (p:=⟨w.heap.size,0,none⟩) (Or.inl rfl) _).setCell (p:=⟨w.heap.size,1,none⟩) (Or.inl rfl) _
    have hN5:=RD.out.keepN _ _ _ (fun k=>k=w.heap.size) _ _ HN.out hO5 (fun k hk=>by
     subst hk
     refine ⟨hB0,fun hk=>?_⟩
     rcases HG3.out _ hk with h | h
     ·exact Nat.lt_irrefl _ (HLT.out _ h)
     ·omega)
    have hOW:Only K w ((w4.setCell ⟨w.heap.size,0,none⟩ (.int .i64 os1.piece)).setCell ⟨w.heap.size,1,none⟩ (.int .i64 os1.side)):=((HO3.out.trans (Only.of_below HB4.out)).setCell (p:=⟨w.heap.size,0,none⟩) (Or.inr (Nat.le_refl _)) _).setCell (p:=⟨w.heap.size,1,none⟩) (Or.inr (Nat.le_refl _)) _
    have hSZ5:W.heap.size≤((w4.setCell ⟨w.heap.size,0,none⟩ (.int .i64 os1.piece)).setCell ⟨w.heap.size,1,none⟩ (.int .i64 os1.side)).heap.size:=Nat.le_trans (Nat.le_trans HSZ.out HS34.out) hO5.size
    go_roundg m
    case measure=>exact HMM.out
    case rel =>
     cases os2
     ·exact Or.inr ⟨rfl,m,s1,K2,hN5,by unfold Hid;rw [HOS.out],hOW,HG3⟩
     ·refine Or.inl ⟨rfl,os1,K2,?_,?_,hOW,HG3,hSZ5⟩
      ·have:=RD.out.next _ _ _ _ hN5 (by rw [HOS.out])
       rw [HOS.out] at this
       exact this
      ·refine row_congr HX4.out ?_
       intro i hi
       have hi':i=0∨i=1:=by omega
       rcases hi' with rfl | rfl <;> simp
  ·go_wp2_with fail
   exact bodyPost_end (results_none rfl _ _ _) rfl ⟨⟨_,rfl⟩,HO.out,Or.inl ⟨m,s1,K',HN.out,HF.out,HG.out.mono HBW.out.size⟩⟩
end Go.Proofs.YtmkdgnmmebldgabGreatDoor
