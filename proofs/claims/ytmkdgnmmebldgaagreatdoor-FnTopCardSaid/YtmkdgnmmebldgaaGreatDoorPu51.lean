import Derived.Test.YtmkdgnmmebldgaaGreatDoorPt43
import Derived.Laws.OwnMore
import Derived.Test.YtmkdgnmmebldgaaGreatDoorPu49
import Derived.Test.YtmkdgnmmebldgaaGreatDoorPu50
import Derived.Test.YtmkdgnmmebldgaaGreatDoorPu45
set_option maxRecDepth 100000
set_option maxHeartbeats 8000000
namespace Go.Proofs.YtmkdgnmmebldgaaGreatDoor
open Go.RowKit Go.Deep
def lnQ (r:MRoute):Nat→Nat
 | 0=>r.steps.length
 | 1=>r.lies.length
 | 2=>r.crosses.length
 | 3=>r.parts.length
 | 4=>r.over.length
 | _=>r.flanks.length
def cpQ (d:RAddr):Nat→Nat
 | 0=>d.c0
 | 1=>d.c1
 | 2=>d.c2
 | 3=>d.c3
 | 4=>d.c4
 | _=>d.c5
def tyQ:Nat→Nat
 | 0=>46
 | 1=>52
 | 2=>3
 | 3=>48
 | 4=>48
 | _=>50
def szQ:Nat→Nat
 | 0=>2
 | 1=>2
 | 2=>1
 | 3=>3
 | 4=>3
 | _=>4
def OwnL (B:Nat)(w:World)(q:RAddr × MRoute)(j:Nat):Prop := ∃ vs,w.ownsRow B (tyQ j) (szQ j) (.slice (adR q.1 j) (lnQ q.2 j) (cpQ q.1 j)) (lnQ q.2 j) vs
theorem RClaims.ownL {B:Nat}{w:World}{q:RAddr × MRoute}(h:RClaims B w q.1 q.2)(j:Nat)(hj:j<6):OwnL B w q j:=by
 match j,hj with
 | 0,_=>exact ⟨_,h.steps⟩
 | 1,_=>exact ⟨_,h.lies⟩
 | 2,_=>exact ⟨_,h.crosses⟩
 | 3,_=>exact ⟨_,h.parts⟩
 | 4,_=>exact ⟨_,h.over⟩
 | 5,_=>exact ⟨_,h.flanks⟩
theorem OwnL.kept {B:Nat}{w w':World}{q:RAddr × MRoute}{j:Nat}(h:OwnL B w q j)(hk:∀ b,AdB (adR q.1 j) b→w'.heap[b]? = w.heap[b]?):OwnL B w' q j:=by
 obtain ⟨vs,h⟩:=h
 exact ⟨vs,owns_kept h (fun b e=>hk b (own_ad e))⟩
theorem OwnL.blk {B:Nat}{w:World}{q:RAddr × MRoute}{j:Nat}(h:OwnL B w q j):∀ b,AdB (adR q.1 j) b→B≤b∧b<w.heap.size:=by
 obtain ⟨vs,h⟩:=h
 exact owns_blk h
theorem OwnL.store {B:Nat}{w:World}{q:RAddr × MRoute}{j g:Nat}(h:OwnL B w q j)(hg:adR q.1 j=some ⟨g,0,none⟩)(o:Nat)(u:Value):OwnL B (w.setCell ⟨g,o,none⟩ u) q j:=by
 obtain ⟨vs,h⟩:=h
 unfold OwnL
 rw [hg] at h ⊢
 exact ⟨_,(h.stored o u).1⟩
theorem OwnL.cell {B:Nat}{w:World}{q:RAddr × MRoute}{j:Nat}(h:OwnL B w q j){p:Nat}(hp:p<lnQ q.2 j*szQ j):∃ g v,adR q.1 j=some ⟨g,0,none⟩∧w.cell? ⟨g,p,none⟩=some v∧w.frozen? ⟨g,p,none⟩=false:=by
 obtain ⟨vs,h⟩:=h
 rcases h.2 with ⟨_,h2⟩ | ⟨g,cap,cur,h1,_⟩
 ·rw [h2] at hp
  omega
 ·injection h1 with h1
  rw [h1] at h
  have hl:p<vs.length:=by rw [h.1];exact hp
  exact ⟨g,vs[p],h1,(h.cellAt p hp).trans (List.getElem?_eq_getElem hl),h.frozenAt p⟩
structure TopS (B:Nat)(wB w:World)(x:Option Addr)(y:Nat)(qs:List (RAddr × MRoute))(i:Nat):Prop where
 row:w.ownsRow B 44 8 (.slice x qs.length y) qs.length (flatT qs)
 cur:∀ (h:i<qs.length) j,j<6→OwnL B w qs[i] j
 rest:∀ k (h:k<qs.length),i<k→RClaims B w qs[k].1 qs[k].2
 inn:∀ k (h:k<qs.length),∀ a c,a<6→c<6→∀ b,AdB (adR qs[k].1 a) b→AdB (adR qs[k].1 c) b→a=c
 dis:∀ k l (hk:k<qs.length) (hl:l<qs.length),k<l→∀ a c,a<6→c<6→∀ b,AdB (adR qs[k].1 a) b→¬ AdB (adR qs[l].1 c) b
 out:∀ k (h:k<qs.length),∀ j,j<6→∀ b,AdB (adR qs[k].1 j) b→(Value.slice x qs.length y).ownBlock≠some b
 base:Below B wB w
section
variable {B:Nat} {wB w w':World} {x:Option Addr} {y:Nat} {qs:List (RAddr × MRoute)} {i:Nat}
theorem TopS.of_tab (h:TabOwn B w x y qs)(hb:Below B wB w):TopS B wB w x y qs 0:=
 ⟨h.row,fun hl j hj=>(h.own _ (List.getElem_mem hl)).ownL j hj,fun _ hk _=>h.own _ (List.getElem_mem hk),fun _ hk=>(h.own _ (List.getElem_mem hk)).dis,fun k l hk hl hkl=>List.pairwise_iff_getElem.1 h.dis k l hk hl hkl,fun _ hk=>h.out _ (List.getElem_mem hk),hb⟩
theorem TopS.next (h:TopS B wB w x y qs i):TopS B wB w x y qs (i+1):=
 ⟨h.row,fun hl j hj=>(h.rest (i+1) hl (by omega)).ownL j hj,fun k hk hi=>h.rest k hk (by omega),h.inn,h.dis,h.out,h.base⟩
theorem TopS.later (h:TopS B wB w x y qs i)(hb:Below w.heap.size w w')(hB:B≤w.heap.size):TopS B wB w' x y qs i:=
 ⟨owns_below h.row hb,fun hl j hj=>(h.cur hl j hj).kept (fun b e=>hb.block b ((h.cur hl j hj).blk b e).2),fun k hk hi=>(h.rest k hk hi).below hb,h.inn,h.dis,h.out,h.base.trans (hb.mono hB)⟩
theorem TopS.store (h:TopS B wB w x y qs i)(hi:i<qs.length){j g:Nat}(hj:j<6)(hg:adR qs[i].1 j=some ⟨g,0,none⟩)(o:Nat)(u:Value):TopS B wB (w.setCell ⟨g,o,none⟩ u) x y qs i:=by
 have hA:AdB (adR qs[i].1 j) g:=⟨0,none,hg⟩
 have hk:∀ b,b≠g→(w.setCell ⟨g,o,none⟩ u).heap[b]? = w.heap[b]? := fun b hb=>Below.heap_setCell _ _ _ _ hb
 have hgB:=((h.cur hi j hj).blk g hA).1
 refine ⟨owns_kept h.row (fun b e=>hk b (fun e2=>h.out i hi j hj g hA (by rw [← e2];exact e))),fun hl c hc=>?_,fun k hk' hik=>(h.rest k hk' hik).kept (fun c hc b e=>hk b (fun e2=>h.dis i k hi hk' hik j c hj hc g hA (by rw [← e2];exact e))),h.inn,h.dis,h.out,h.base.setCell (p:=⟨g,o,none⟩) hgB _⟩
 by_cases e:c=j
 ·subst e
  exact (h.cur hl c hc).store hg o u
 ·exact (h.cur hl c hc).kept (fun b e1=>hk b (fun e2=>e (h.inn i hi c j hc hj g (by rw [← e2];exact e1) hA)))
theorem TopS.cells (h:TopS B wB w x y qs i){k:Nat}(hk:k<qs.length):∃ b o,x=some ⟨b,o,none⟩∧RouteCell w b (o+k*8) qs[k].1 qs[k].2:=by
 rcases h.row.2 with ⟨_,h2⟩ | ⟨g,cap,cur,h1,_⟩
 ·omega
 ·injection h1 with h1
  subst h1
  have hc:∀ (j:Nat) (u:Value),(encT qs[k])[j]? = some u→w.cell? ⟨g,0+k*8+j,none⟩=some u:=by
   intro j u hu
   have hj:j<8:=by rw [← encT_len qs[k]];exact (List.getElem?_eq_some_iff.1 hu).1
   have hc:=h.row.cells rfl (k*8+j) u ((flat_get encT 8 (fun _=>rfl) qs k j hk hj).trans hu)
   rw [addr_at] at hc
   rw [Nat.add_assoc]
   exact hc
  exact ⟨g,0,rfl,hc 0 _ rfl,hc 1 _ rfl,hc 2 _ rfl,hc 3 _ rfl,hc 4 _ rfl,hc 5 _ rfl,hc 6 _ rfl,hc 7 _ rfl⟩
end
theorem wrongF_same (r:MRoute):wrongF r r=0:=by
 unfold wrongF
 rw [if_pos ⟨rfl,rfl,eqL_t rfl⟩,if_pos ⟨eqL_t rfl,eqL_t rfl⟩,if_pos ⟨eqL_t rfl,eqL_t rfl⟩,if_pos (eqL_t rfl)]
theorem chkR_same:∀ (rs:List MRoute)(i:Nat),chkR rs rs i=none
 | [],_=>by unfold chkR;rfl
 | r::rs,i=>by unfold chkR;rw [if_pos (wrongF_same r)];exact chkR_same rs (i+1)
theorem rowT_same:∀ (xs:List Int)(k:Nat),rowT xs xs k=none
 | [],_=>by unfold rowT;rfl
 | x::xs,k=>by unfold rowT;rw [if_pos rfl];exact rowT_same xs (k+1)
theorem tabT_same:∀ (tt:List (List Int))(i:Nat),tabT tt tt i=none
 | [],_=>by unfold tabT;rfl
 | x::tt,i=>by unfold tabT;rw [if_pos rfl,rowT_same];exact tabT_same tt (i+1)
theorem chkT_same (tt:List (List Int)):chkT tt tt=none:=by
 unfold chkT
 rw [if_pos rfl]
 exact tabT_same tt 0
theorem routes_len {w:World}{a:Option Addr}{RS:List MRoute}{qs:List (RAddr × MRoute)}(hq:qs.map Prod.snd=RS)(h:RoutesAt w a RS){i:Nat}(hi:i<qs.length):qs[i].2.steps.length≤9223372036854775807∧qs[i].2.lies.length≤9223372036854775807∧qs[i].2.crosses.length≤9223372036854775807∧qs[i].2.parts.length≤9223372036854775807∧qs[i].2.over.length≤9223372036854775807∧qs[i].2.flanks.length≤9223372036854775807:=by
 subst hq
 have hi':i<(qs.map Prod.snd).length:=by simpa using hi
 obtain ⟨b,o,_,hc⟩:=h.2.resolve_left (fun e=>by rw [e] at hi';exact absurd hi' (Nat.not_lt_zero _))
 obtain ⟨d,_,q⟩:=hc i hi'
 rw [List.getElem_map] at q
 have m0:maxLen=9223372036854775807:=rfl
 rw [← m0]
 exact ⟨q.steps.1,q.lies.1,q.crosses.1,q.parts.1,q.over.1,q.flanks.1⟩
theorem specTable_at (ps:List MPiece)(js:List MJoint)(ss:List MPiece)(over:Int)(a:Option Addr)(c:Nat)(u:World)(hr:RoutesAt u a (routesF ps js ss over)):
  Calls Tryz.prog 13 #[.slice a (routesF ps js ss over).length c] u fun e w' => ∃ x y,e = .returned (.slice x (tableF (routesF ps js ss over)).length y)∧TabAt w' x (tableF (routesF ps js ss over))∧Below u.heap.size u w':=by
 have HRF:=(routesF_ok ps js ss over).2
 have HTL:=tableF_len (routesF ps js ss over)
 refine (specTable_any a c _ u hr (fun r h=>(HRF r h).short)).mono ?_
 rintro e w' ⟨x,y,cells,rfl,ho,hRo,_,hb⟩
 have h300:=(routesF_ok ps js ss over).1
 exact ⟨x,y,rfl,tab_of_owns ho hRo (by have:=HTL.1;unfold maxLen;omega) (fun i h=>by have:=HTL.2 i h;unfold maxLen;omega),hb⟩
theorem implCheck_none (pa ja sa ra ta:Option Addr)(pc jc sc rc tc np nj ns nr nt:Nat)(over:Int)(w:World)(HCA:Hid (∀ u:World,Below w.heap.size w u→Calls Tryz.prog 41 #[.agg #[.slice pa np pc,.slice ja nj jc],.slice sa ns sc,.int .i64 over,.slice ra nr rc,.slice ta nt tc] u fun e w'=>e = .returned .nilIface∧Below u.heap.size u w')):
  Calls Tryz.prog 12 #[.agg #[.slice pa np pc,.slice ja nj jc],.slice sa ns sc,.int .i64 over,.slice ra nr rc,.slice ta nt tc] w fun e w'=>e = .returned (.agg #[.int .i64 0,.int .i64 0,.int .i64 0])∧Below w.heap.size w w':=by
 go_enter Tryz.func12,Tryz.ntmps12
 go_upto_region 1 with fail
 generalize hW:World.alloc (World.alloc w _) _=W
 have e0:W.cell? ⟨w.heap.size,0,none⟩=some (.slice pa np pc):=by rw [← hW];simp [go_sem]
 have e1:W.cell? ⟨w.heap.size,1,none⟩=some (.slice ja nj jc):=by rw [← hW];simp [go_sem]
 have r0:W.cell? ⟨w.heap.size+1,0,none⟩=some (.int .i64 0):=by rw [← hW];simp [go_sem]
 have r1:W.cell? ⟨w.heap.size+1,1,none⟩=some (.int .i64 0):=by rw [← hW];simp [go_sem]
 have r2:W.cell? ⟨w.heap.size+1,2,none⟩=some (.int .i64 0):=by rw [← hW];simp [go_sem]
 have z:∀ o,W.frozen? ⟨w.heap.size+1,o,none⟩=false:=by intro o;rw [← hW];simp [go_sem]
 have hbW:Below w.heap.size w W:=by rw [← hW];exact blo
 have hzW:w.heap.size+1<W.heap.size:=by rw [← hW];simp
 clear hW
 go_upto_region 2 with (go_at_call 41;refine (HCA.out _ hbW).mono ?_;rintro e w1 ⟨rfl,hb1⟩)
 clear HCA e0 e1
 have hbw1:=hbW.trans (hb1.mono hbW.size)
 have hz1:=hb1.size
 go_upto_region 4 with fail
 generalize hW2:World.alloc (World.alloc w1 _) _=W2
 have a0:W2.cell? ⟨w1.heap.size,0,none⟩=some (.int .i64 0):=by rw [← hW2];simp [go_sem]
 have a1:W2.cell? ⟨w1.heap.size,1,none⟩=some (.int .i64 0):=by rw [← hW2];simp [go_sem]
 have a2:W2.cell? ⟨w1.heap.size,2,none⟩=some (.int .i64 0):=by rw [← hW2];simp [go_sem]
 have p0:W2.cell? ⟨w1.heap.size+1,0,none⟩=some (.int .i64 0):=by rw [← hW2];simp [go_sem]
 have p1:W2.cell? ⟨w1.heap.size+1,1,none⟩=some .nilIface:=by rw [← hW2];simp [go_sem]
 have zA:∀ o,W2.frozen? ⟨w1.heap.size,o,none⟩=false:=by intro o;rw [← hW2];simp [go_sem]
 have zP:∀ o,W2.frozen? ⟨w1.heap.size+1,o,none⟩=false:=by intro o;rw [← hW2];simp [go_sem]
 have hb2:Below w1.heap.size w1 W2:=by rw [← hW2];exact blo
 have hz2:W2.heap.size=w1.heap.size+2:=by rw [← hW2];simp
 clear hW2
 have hbW2:Below W.heap.size W W2:=hb1.trans (hb2.mono hb1.size)
 have hbw2:Below w.heap.size w W2:=hbw1.trans (hb2.mono hbw1.size)
 replace r0:=cell_later hbW2 r0
 replace r1:=cell_later hbW2 r1
 replace r2:=cell_later hbW2 r2
 replace z:∀ o,W2.frozen? ⟨w.heap.size+1,o,none⟩=false:=fun o=>(hbW2.frozen (p:=⟨w.heap.size+1,o,none⟩) hzW).trans (z o)
 obtain ⟨A,hA⟩:∃ A,w1.heap.size=A:=⟨_,rfl⟩
 obtain ⟨R,hR⟩:∃ R,w.heap.size+1=R:=⟨_,rfl⟩
 have HRw:Hid (w.heap.size+1=R):=hR
 rw [hA] at a0 a1 a2 p0 p1 zA zP hz2 hz1 ⊢
 rw [hR] at r0 r1 r2 z hzW ⊢
 obtain ⟨P,hP⟩:∃ P,A+1=P:=⟨_,rfl⟩
 rw [hP] at p0 p1 zP ⊢
 clear hb1 hb2 hbW hbw1 hbW2
 have hRA:R<A:=by omega
 have hne1:R≠A:=by omega
 have hne2:R≠P:=by omega
 have hne3:A≠P:=by omega
 have hPz:P<W2.heap.size:=by omega
 have hAz:A<W2.heap.size:=by omega
 have hRz:R<W2.heap.size:=by omega
 have zR0:=z 0
 have zR1:=z 1
 have zR2:=z 2
 have HB2:=hidP hbw2
 have hwz:w.heap.size≤R:=by omega
 clear hA hR hbw2 hz2
 ·go_wp2_with (go_at_call 42;refine (as_none _ _).mono ?_;rintro e w3 ⟨rfl,rfl⟩)
  have hbx:=HB2.out
  exact bodyPost_ret (v:=.agg #[.int .i64 0,.int .i64 0,.int .i64 0]) (by simp [results,Tryz.results12,go_sem,r0,r1,r2,hRz]) rfl ⟨rfl,blo⟩
theorem implCheck_ok (pa ja sa ra ta:Option Addr)(pc jc sc rc tc:Nat)(ps:List MPiece)(js:List MJoint)(ss:List MPiece)(over:Int)(w:World)(hp:Hid (PiecesAt w pa ps))(hj:Hid (JointsAt w ja js))(hs:Hid (PiecesAt w sa ss))(hr:Hid (RoutesAt w ra (routesF ps js ss over)))(ht:Hid (TabAt w ta (tableF (routesF ps js ss over))))(hg:Hid (sigF ps js ss=(0,0)∧0≤over∧over≤100000)):
  Calls Tryz.prog 12 #[.agg #[.slice pa ps.length pc,.slice ja js.length jc],.slice sa ss.length sc,.int .i64 over,.slice ra (routesF ps js ss over).length rc,.slice ta (tableF (routesF ps js ss over)).length tc] w fun e w'=>e = .returned (.agg #[.int .i64 0,.int .i64 0,.int .i64 0])∧Below w.heap.size w w':=
 implCheck_none pa ja sa ra ta pc jc sc rc tc ps.length js.length ss.length (routesF ps js ss over).length (tableF (routesF ps js ss over)).length over w (fun u hu=>by
  have h:=checkAll_any pa ja sa ra ta pc jc sc rc tc ps js ss over (routesF ps js ss over) (tableF (routesF ps js ss over)) u (hp.out.below hu) (hj.out.below hu) (hs.out.below hu) (hr.out.below hu) (ht.out.below hu)
  rw [allF_ok hg.out (chkR_same _ 0) (chkT_same _)] at h
  exact h)
end Go.Proofs.YtmkdgnmmebldgaaGreatDoor
