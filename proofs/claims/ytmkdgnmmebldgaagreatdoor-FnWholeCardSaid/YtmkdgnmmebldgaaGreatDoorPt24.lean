import Derived.Test.YtmkdgnmmebldgaaGreatDoorPt22
import Derived.Test.YtmkdgnmmebldgaaGreatDoorPt23
import Derived.Test.YtmkdgnmmebldgaaGreatDoorPt10
import Derived.Test.YtmkdgnmmebldgaaGreatDoorPt13
set_option maxRecDepth 100000
set_option maxHeartbeats 8000000
namespace Go.Proofs.YtmkdgnmmebldgaaGreatDoor
open Go.RowKit Go.Deep Go.Maps
theorem wpList_copy0 {P:Program}{u:World}{ops:Array Oper}{rest:List Oper}{o:Oper}{a:Act}{Q:Exit→Act→World→Prop}(hgd:o.guard=none)(x:Operand)(t:TypeId)
  (ho:o.op = .call { callee:=.builtin .append,args:=#[.const (.slice none 0 0),x],argTypes:=#[t,t] })
  (e:TypeId) (z:Value) (size bytes:Nat) (ht:P.underlying t=some (.slice e)) (hi:(P.info? e).map (fun i=>(i.zero,i.size,i.bytes))=some (some z,size,bytes)) (hzs:z.cells.size=size) (hsz:0<size)
  (av:Option Addr) (m c:Nat) (news:List Value) (hx:a.eval x = .slice av m c) (hav:av=none→m=0∧c=0) (hl:news.length=m*size) (hnews:∀ ad,av=some ad→∀ j v,news[j]? = some v→u.cell? (ad.add j)=some v) (h1:∀ v ∈ news,v.oneCell'=true)
  (h63:m≤maxLen) (hbytes:m*bytes≤140737488355328)
  (h:∀ x' y' w',w'.ownsRow u.heap.size e size (.slice x' m y') m news→Below u.heap.size u w'→wpList P ops Q rest (a.put o.dst (.slice x' m y')) w'):wpList P ops Q (o::rest) a u:=by
 refine wpList_append_list hgd (.const (.slice none 0 0)) x t ho u.heap.size e z size bytes ht hi hzs hsz (.slice none 0 0) 0 [] rfl (World.ownsRow_nil _ _ _ _) av m c news hx (fun h=>(hav h).2) hl hnews (fun h=>(hav h).1) h1 (by rw [Nat.zero_add];exact h63) (by rw [Nat.zero_add];exact hbytes) (Nat.le_refl _) ?_
 intro v' w' ho' hg'
 rw [Nat.zero_add,List.nil_append] at ho'
 obtain ⟨x',y',rfl,_⟩:=owns_shape ho'
 exact h x' y' w' ho' (Below.grown (Below.refl _ _) hg' (Nat.le_refl _) (fun j hj=>by cases hj))
theorem wpList_onto {P:Program}{u:World}{ops:Array Oper}{rest:List Oper}{o:Oper}{a:Act}{Q:Exit→Act→World→Prop}(hgd:o.guard=none)(s x:Operand)(t:TypeId)
  (ho:o.op = .call { callee:=.builtin .append,args:=#[s,x],argTypes:=#[t,t] })
  (B:Nat) (e:TypeId) (z:Value) (size bytes:Nat) (ht:P.underlying t=some (.slice e)) (hi:(P.info? e).map (fun i=>(i.zero,i.size,i.bytes))=some (some z,size,bytes)) (hzs:z.cells.size=size) (hsz:0<size)
  (v:Value) (n:Nat) (xs:List Value) (hs:a.eval s=v) (hown:u.ownsRow B e size v n xs)
  (ad:Addr) (m c:Nat) (news:List Value) (hx:a.eval x = .slice (some ad) m c) (hl:news.length=m*size) (hnews:∀ j v,news[j]? = some v→u.cell? (ad.add j)=some v) (h1:∀ v ∈ news,v.oneCell'=true)
  (h63:n+m≤maxLen) (hbytes:(n+m)*bytes≤140737488355328) (hB:B≤u.heap.size)
  (h:∀ x' y' w',w'.ownsRow B e size (.slice x' (n+m) y') (n+m) (xs++news)→Below B u w'→wpList P ops Q rest (a.put o.dst (.slice x' (n+m) y')) w'):wpList P ops Q (o::rest) a u:=by
 refine wpList_append_list hgd s x t ho B e z size bytes ht hi hzs hsz v n xs hs hown (some ad) m c news hx (fun h=>by cases h) hl (fun ad' e=>by cases e;exact hnews) (fun h=>by cases h) h1 h63 hbytes hB ?_
 intro v' w' ho' hg'
 obtain ⟨x',y',rfl,_⟩:=owns_shape ho'
 exact h x' y' w' ho' (push_below (Below.refl _ _) hown hg' hB)
end Go.Proofs.YtmkdgnmmebldgaaGreatDoor
namespace Go.Proofs.YtmkdgnmmebldgaaGreatDoor
open Go.RowKit Go.Deep
theorem nextB_ahead (ss:List MPiece)(p way pos:Int):∀ k,k≤ss.length→nextB ss p way pos k = -1∨∃ (b:Nat) (hb:b<ss.length),nextB ss p way pos k=b∧0<(ss[b].speed-pos)*way
 | 0,_=>Or.inl rfl
 | k+1,hk=>by
  have ih:=nextB_ahead ss p way pos k (by omega)
  have hk':k<ss.length:=by omega
  by_cases h:ss[k].len≠p∨ss[k].brake≠way∨(ss[k].speed-pos)*way≤0
  ·rw [nextB_skip hk' h];exact ih
  ·by_cases h2:nextB ss p way pos k<0∨(ss[k].speed-sigAt ss (nextB ss p way pos k))*way<0
   ·rw [nextB_take hk' h h2]
    exact Or.inr ⟨k,hk',rfl,by omega⟩
   ·rw [nextB_leave hk' h h2];exact ih
section
variable {ps:List MPiece} {js:List MJoint} {ss:List MPiece} {i p:Nat} {pre:List MStep} {way pos over:Int} {lies:List MLie} {crosses:List Int}
theorem route_signal (ok:WalkOk ps js ss i pre ⟨p,way⟩ lies crosses pos)(hway:way=1∨way = -1){b:Nat}(hb:b<ss.length)(hn:nextB ss p way pos ss.length=b)(h1:ss[b].len=p)(h2:ss[b].brake=way):
  (⟨i,b,pre++[⟨p,way⟩],lies,crosses,fullParts ps (sigAt ss i) pre++[specPart ps p way (farI ps p pos way) (farI ps p ss[b].speed way)],behindF ps js (over.toNat+1) ⟨p,way⟩ ss[b].speed over,flanksF ps js ss lies lies⟩:MRoute)=routeF ps js ss over (endP i b (pre++[⟨p,way⟩]) lies crosses):=by
 have ha:0<(ss[b].speed-pos)*way:=by
  rcases nextB_ahead ss p way pos ss.length (Nat.le_refl _) with h | ⟨b',hb',h,h3⟩
  ·rw [hn] at h;omega
  ·rw [hn] at h
   have:b=b':=by omega
   subst this
   exact h3
 have hq:specPart ps p way (farI ps p pos way) (farI ps p ss[b].speed way)=partI p pos ss[b].speed:=specPart_farI hway (by rcases hway with rfl | rfl <;> omega)
 have ho:overF ps js ss (b:Int) over=behindF ps js (over.toNat+1) ⟨p,way⟩ ss[b].speed over:=by
  unfold overF
  rw [if_neg (by omega),Int.toNat_natCast,List.getElem?_eq_getElem hb]
  simp only [h1,h2]
 unfold routeF
 rw [partsF_end ok,if_pos (by omega),sigAt_at hb]
 rw [hq]
 show _=(⟨i,b,pre++[⟨p,way⟩],lies,crosses,_,overF ps js ss (b:Int) over,_⟩:MRoute)
 rw [ho]
 rfl
theorem route_buffer (ok:WalkOk ps js ss i pre ⟨p,way⟩ lies crosses pos)(hway:way=1∨way = -1)(hp:p<ps.length):
  (⟨i,-1,pre++[⟨p,way⟩],lies,crosses,fullParts ps (sigAt ss i) pre++[specPart ps p way (farI ps p pos way) ps[p].len],[],flanksF ps js ss lies lies⟩:MRoute)=routeF ps js ss over (endP i (-1) (pre++[⟨p,way⟩]) lies crosses):=by
 have h0:=ok.p0
 have h1:=ok.p1
 dsimp only at h1
 rw [lenI_at hp] at h1
 have hq:specPart ps p way (farI ps p pos way) ps[p].len=partI p pos (endAt ps (aheadE ⟨p,way⟩)):=by
  rw [← farI_end hp hway]
  refine specPart_farI hway ?_
  rcases hway with rfl | rfl
  ·have he:endAt ps (aheadE ⟨(p:Int),1⟩)=ps[p].len:=by simp [endAt,aheadE,lenI_at hp]
   rw [he];omega
  ·have he:endAt ps (aheadE ⟨(p:Int),-1⟩)=0:=by simp [endAt,aheadE]
   rw [he];omega
 unfold routeF
 rw [partsF_end ok,if_neg (by omega),hq]
 rfl
theorem parts_on (ok:WalkOk ps js ss i pre ⟨p,way⟩ lies crosses pos)(hway:way=1∨way = -1)(hp:p<ps.length):fullParts ps (sigAt ss i) pre++[specPart ps p way (farI ps p pos way) ps[p].len]=fullParts ps (sigAt ss i) (pre++[⟨p,way⟩]):=by
 have h0:=ok.p0
 have h1:=ok.p1
 dsimp only at h1
 rw [lenI_at hp] at h1
 have hq:specPart ps p way (farI ps p pos way) ps[p].len=partI p pos (endAt ps (aheadE ⟨p,way⟩)):=by
  rw [← farI_end hp hway]
  refine specPart_farI hway ?_
  rcases hway with rfl | rfl
  ·have he:endAt ps (aheadE ⟨(p:Int),1⟩)=ps[p].len:=by simp [endAt,aheadE,lenI_at hp]
   rw [he];omega
  ·have he:endAt ps (aheadE ⟨(p:Int),-1⟩)=0:=by simp [endAt,aheadE]
   rw [he];omega
 rw [hq]
 exact fullParts_on ok
end
theorem WS.net {w0 w:World}{F:Nat}{pa ja sa:Option Addr}{pc jc sc:Nat}{ps:List MPiece}{js:List MJoint}{ss:List MPiece}{over:Int}{xo:Option Addr}{yo t:Nat}{pr:List (RAddr × MRoute)}(h:WS w0 w F pa ja sa pc jc sc ps.length js.length ss.length over xo yo t pr)(HP:PiecesAt w0 pa ps)(HJ:JointsAt w0 ja js)(HS:PiecesAt w0 sa ss):FNet w F pa ja sa pc jc sc ps js ss over:=
 ⟨h.c0,h.c1,h.c2,h.c3,HP.below h.base,HJ.below h.base,HS.below h.base⟩
theorem done_rb {w0 w1 W:World}{F A Q B:Nat}{pa ja sa:Option Addr}{pc jc sc:Nat}{ps:List MPiece}{js:List MJoint}{ss:List MPiece}{over:Int}{t:Nat}{xo:Option Addr}{yo:Nat}{pr:List (RAddr × MRoute)}{x0 x1 x2 x3 x4:Option Addr}{y0 y1 y2 y3 y4:Nat}{v7:Value}{st sp:Int}{steps:List MStep}{lies:List MLie}{crosses:List Int}{parts ov:List MPart}
  (R:Hid (Right ps js ss)) (HP:Hid (PiecesAt w0 pa ps)) (HJ:Hid (JointsAt w0 ja js)) (HS:Hid (PiecesAt w0 sa ss))
  (hfl:Hid (∀ (B Q:Nat) (la:Option Addr) (lc:Nat) (lies:List MLie) (pl:Int) (n:Nat),LB w0 B F Q pa ja sa la ps js ss lies→LookSpec w0 B F Q pa ja sa la pc jc sc lc ps js ss lies pl n))
  (hs:WS w0 W F pa ja sa pc jc sc ps.length js.length ss.length over xo yo t pr) (h:RB w1 W A Q B x0 y0 x1 y1 x2 y2 x3 y3 (.slice x4 ov.length y4) v7 ⟨st,sp,steps,lies,crosses,parts,ov,[]⟩) (hF:F<B) (hpr:pr.length≤300)
  (lv:∀ l ∈ lies,∃ (j:Nat) (hj:j<js.length),l.piece=j∧js[j].kind=3∧(l.side=1∨l.side=2)) (ld:(lies.map MEnd.piece).Nodup) :
  Calls Tryz.prog 78 #[.pointer (some ⟨F,0,none⟩),.agg #[.int .i64 st,.int .i64 sp,.slice x0 steps.length y0,.slice x1 lies.length y1,.slice x2 crosses.length y2,.slice x3 parts.length y3,.slice x4 ov.length y4,.slice none 0 0]] W (DonePost F (F+1) pr.length (.slice xo pr.length yo) (flatR pr) W (flanksF ps js ss lies lies) (fun xf yf=>[.int .i64 st,.int .i64 sp,.slice x0 steps.length y0,.slice x1 lies.length y1,.slice x2 crosses.length y2,.slice x3 parts.length y3,.slice x4 ov.length y4,.slice xf (flanksF ps js ss lies lies).length yf])):=by
 have hn:NotR W F x1 lies.length:=notR_own h.own.o1 (by decide) hF
 refine done_any w0 F pa ja sa pc jc sc ps js ss R HP HJ HS hs.f hfl x0 x1 x2 x3 x4 y0 y1 y2 y3 y4 st sp steps lies crosses parts ov xo yo pr.length (F+1) (flatR pr) W hs.base hs.c0 hs.c1 hs.c2 hs.c4 hs.z4 hs.s6 hs.z6 (own_listE h.own.o1).1 ?_ (Nat.le_trans (lies_few lv ld) R.out.nj) lv (lies_like ld) hs.own (by omega) hs.lt (fun e=>by have:=(hs.rows F e).1;omega)
 rcases hn with hn | hn
 ·exact Or.inl (List.eq_nil_of_length_eq_zero hn)
 ·exact Or.inr (fun b off e=>(hn b off e).1)
def AcrossPostN (w:World)(L:List MEnd)(e:Ending)(w':World):Prop := ∃ g,e = .returned (.slice (some ⟨g,0,none⟩) L.length L.length)∧EndCells w' g 0 L∧w.heap.size≤g∧Below w.heap.size w w'
theorem across_postN {w w':World}{L:List MEnd}{g n:Nat}(hn:n=L.length)(hc:EndCells w' g 0 L)(hg:w.heap.size≤g)(hb:Below w.heap.size w w'):AcrossPostN w L (.returned (.slice (some ⟨g,0,none⟩) n n)) w':=by
 subst hn
 exact ⟨g,rfl,hc,hg,hb⟩
theorem l1acrossN_2_0 (s:ByteArray)(x0 x1:MEnd)(ea:Option Addr)(ec:Nat)(w:World)(he:Hid (EndsAt w ea [x0,x1])):
  Calls Tryz.prog 48 #[.agg #[.int .i64 2,.string s,.slice ea 2 ec],.int .i64 0] w (AcrossPostN w [x1]):=by
 obtain ⟨b,off,rfl,hpc⟩:=he.out.2.resolve_left (fun h=>by simp at h)
 obtain ⟨c0,d0⟩:=hpc 0 (by simp)
 obtain ⟨c1,d1⟩:=hpc 1 (by simp)
 simp only [Nat.zero_mul,Nat.one_mul,Nat.add_zero,List.getElem_cons_zero,List.getElem_cons_succ] at c0 d0 c1 d1
 have hz:=cellLt c0
 clear hpc
 go_enter Tryz.func48,Tryz.ntmps48
 go_wp2_with fail
 go_ret
 exact across_postN rfl (endCells_1 (by simp [go_sem]) (by simp [go_sem])) (by first | omega | (simp;done) | (simp;omega)) blo
theorem l1acrossN_2_1 (s:ByteArray)(x0 x1:MEnd)(ea:Option Addr)(ec:Nat)(w:World)(he:Hid (EndsAt w ea [x0,x1])):
  Calls Tryz.prog 48 #[.agg #[.int .i64 2,.string s,.slice ea 2 ec],.int .i64 1] w (AcrossPostN w [x0]):=by
 obtain ⟨b,off,rfl,hpc⟩:=he.out.2.resolve_left (fun h=>by simp at h)
 obtain ⟨c0,d0⟩:=hpc 0 (by simp)
 obtain ⟨c1,d1⟩:=hpc 1 (by simp)
 simp only [Nat.zero_mul,Nat.one_mul,Nat.add_zero,List.getElem_cons_zero,List.getElem_cons_succ] at c0 d0 c1 d1
 have hz:=cellLt c0
 clear hpc
 go_enter Tryz.func48,Tryz.ntmps48
 go_wp2_with fail
 go_ret
 exact across_postN rfl (endCells_1 (by simp [go_sem]) (by simp [go_sem])) (by first | omega | (simp;done) | (simp;omega)) blo
theorem l1acrossN_3_0 (s:ByteArray)(x0 x1 x2:MEnd)(ea:Option Addr)(ec:Nat)(w:World)(he:Hid (EndsAt w ea [x0,x1,x2])):
  Calls Tryz.prog 48 #[.agg #[.int .i64 3,.string s,.slice ea 3 ec],.int .i64 0] w (AcrossPostN w [x1,x2]):=by
 obtain ⟨b,off,rfl,hpc⟩:=he.out.2.resolve_left (fun h=>by simp at h)
 obtain ⟨c0,d0⟩:=hpc 0 (by simp)
 obtain ⟨c1,d1⟩:=hpc 1 (by simp)
 obtain ⟨c2,d2⟩:=hpc 2 (by simp)
 simp only [Nat.zero_mul,Nat.one_mul,Nat.reduceMul,Nat.add_zero,List.getElem_cons_zero,List.getElem_cons_succ] at c0 d0 c1 d1 c2 d2
 have hz:=cellLt c0
 clear hpc
 go_enter Tryz.func48,Tryz.ntmps48
 go_wp2_with fail
 go_region
 all_goals
  go_wp2_with fail
  go_ret
  exact across_postN rfl (endCells_2 (by simp [go_sem]) (by simp [go_sem]) (by simp [go_sem]) (by simp [go_sem])) (by first | omega | (simp;done) | (simp;omega)) blo
theorem l1acrossN_3_1 (s:ByteArray)(x0 x1 x2:MEnd)(ea:Option Addr)(ec:Nat)(w:World)(he:Hid (EndsAt w ea [x0,x1,x2])):
  Calls Tryz.prog 48 #[.agg #[.int .i64 3,.string s,.slice ea 3 ec],.int .i64 1] w (AcrossPostN w [x0]):=by
 obtain ⟨b,off,rfl,hpc⟩:=he.out.2.resolve_left (fun h=>by simp at h)
 obtain ⟨c0,d0⟩:=hpc 0 (by simp)
 obtain ⟨c1,d1⟩:=hpc 1 (by simp)
 obtain ⟨c2,d2⟩:=hpc 2 (by simp)
 simp only [Nat.zero_mul,Nat.one_mul,Nat.reduceMul,Nat.add_zero,List.getElem_cons_zero,List.getElem_cons_succ] at c0 d0 c1 d1 c2 d2
 have hz:=cellLt c0
 clear hpc
 go_enter Tryz.func48,Tryz.ntmps48
 go_wp2_with fail
 go_ret
 exact across_postN rfl (endCells_1 (by simp [go_sem]) (by simp [go_sem])) (by first | omega | (simp;done) | (simp;omega)) blo
theorem l1acrossN_3_2 (s:ByteArray)(x0 x1 x2:MEnd)(ea:Option Addr)(ec:Nat)(w:World)(he:Hid (EndsAt w ea [x0,x1,x2])):
  Calls Tryz.prog 48 #[.agg #[.int .i64 3,.string s,.slice ea 3 ec],.int .i64 2] w (AcrossPostN w [x0]):=by
 obtain ⟨b,off,rfl,hpc⟩:=he.out.2.resolve_left (fun h=>by simp at h)
 obtain ⟨c0,d0⟩:=hpc 0 (by simp)
 obtain ⟨c1,d1⟩:=hpc 1 (by simp)
 obtain ⟨c2,d2⟩:=hpc 2 (by simp)
 simp only [Nat.zero_mul,Nat.one_mul,Nat.reduceMul,Nat.add_zero,List.getElem_cons_zero,List.getElem_cons_succ] at c0 d0 c1 d1 c2 d2
 have hz:=cellLt c0
 clear hpc
 go_enter Tryz.func48,Tryz.ntmps48
 go_wp2_with fail
 go_ret
 exact across_postN rfl (endCells_1 (by simp [go_sem]) (by simp [go_sem])) (by first | omega | (simp;done) | (simp;omega)) blo
theorem l1acrossN_4_0 (s:ByteArray)(x0 x1 x2 x3:MEnd)(ea:Option Addr)(ec:Nat)(w:World)(he:Hid (EndsAt w ea [x0,x1,x2,x3])):
  Calls Tryz.prog 48 #[.agg #[.int .i64 4,.string s,.slice ea 4 ec],.int .i64 0] w (AcrossPostN w [x1]):=by
 obtain ⟨b,off,rfl,hpc⟩:=he.out.2.resolve_left (fun h=>by simp at h)
 obtain ⟨c0,d0⟩:=hpc 0 (by simp)
 obtain ⟨c1,d1⟩:=hpc 1 (by simp)
 obtain ⟨c2,d2⟩:=hpc 2 (by simp)
 obtain ⟨c3,d3⟩:=hpc 3 (by simp)
 simp only [Nat.zero_mul,Nat.one_mul,Nat.reduceMul,Nat.add_zero,List.getElem_cons_zero,List.getElem_cons_succ] at c0 d0 c1 d1 c2 d2 c3 d3
 have hz:=cellLt c0
 clear hpc
 go_enter Tryz.func48,Tryz.ntmps48
 go_wp2_with fail
 go_region
 all_goals
  go_wp2_with fail
  go_ret
  exact across_postN rfl (endCells_1 (by simp [go_sem]) (by simp [go_sem])) (by first | omega | (simp;done) | (simp;omega)) blo
theorem l1acrossN_4_1 (s:ByteArray)(x0 x1 x2 x3:MEnd)(ea:Option Addr)(ec:Nat)(w:World)(he:Hid (EndsAt w ea [x0,x1,x2,x3])):
  Calls Tryz.prog 48 #[.agg #[.int .i64 4,.string s,.slice ea 4 ec],.int .i64 1] w (AcrossPostN w [x0]):=by
 obtain ⟨b,off,rfl,hpc⟩:=he.out.2.resolve_left (fun h=>by simp at h)
 obtain ⟨c0,d0⟩:=hpc 0 (by simp)
 obtain ⟨c1,d1⟩:=hpc 1 (by simp)
 obtain ⟨c2,d2⟩:=hpc 2 (by simp)
 obtain ⟨c3,d3⟩:=hpc 3 (by simp)
 simp only [Nat.zero_mul,Nat.one_mul,Nat.reduceMul,Nat.add_zero,List.getElem_cons_zero,List.getElem_cons_succ] at c0 d0 c1 d1 c2 d2 c3 d3
 have hz:=cellLt c0
 clear hpc
 go_enter Tryz.func48,Tryz.ntmps48
 go_wp2_with fail
 go_region
 all_goals
  go_wp2_with fail
  go_ret
  exact across_postN rfl (endCells_1 (by simp [go_sem]) (by simp [go_sem])) (by first | omega | (simp;done) | (simp;omega)) blo
theorem l1acrossN_4_2 (s:ByteArray)(x0 x1 x2 x3:MEnd)(ea:Option Addr)(ec:Nat)(w:World)(he:Hid (EndsAt w ea [x0,x1,x2,x3])):
  Calls Tryz.prog 48 #[.agg #[.int .i64 4,.string s,.slice ea 4 ec],.int .i64 2] w (AcrossPostN w [x3]):=by
 obtain ⟨b,off,rfl,hpc⟩:=he.out.2.resolve_left (fun h=>by simp at h)
 obtain ⟨c0,d0⟩:=hpc 0 (by simp)
 obtain ⟨c1,d1⟩:=hpc 1 (by simp)
 obtain ⟨c2,d2⟩:=hpc 2 (by simp)
 obtain ⟨c3,d3⟩:=hpc 3 (by simp)
 simp only [Nat.zero_mul,Nat.one_mul,Nat.reduceMul,Nat.add_zero,List.getElem_cons_zero,List.getElem_cons_succ] at c0 d0 c1 d1 c2 d2 c3 d3
 have hz:=cellLt c0
 clear hpc
 go_enter Tryz.func48,Tryz.ntmps48
 go_wp2_with fail
 go_region
 all_goals
  go_wp2_with fail
  go_ret
  exact across_postN rfl (endCells_1 (by simp [go_sem]) (by simp [go_sem])) (by first | omega | (simp;done) | (simp;omega)) blo
theorem l1acrossN_4_3 (s:ByteArray)(x0 x1 x2 x3:MEnd)(ea:Option Addr)(ec:Nat)(w:World)(he:Hid (EndsAt w ea [x0,x1,x2,x3])):
  Calls Tryz.prog 48 #[.agg #[.int .i64 4,.string s,.slice ea 4 ec],.int .i64 3] w (AcrossPostN w [x2]):=by
 obtain ⟨b,off,rfl,hpc⟩:=he.out.2.resolve_left (fun h=>by simp at h)
 obtain ⟨c0,d0⟩:=hpc 0 (by simp)
 obtain ⟨c1,d1⟩:=hpc 1 (by simp)
 obtain ⟨c2,d2⟩:=hpc 2 (by simp)
 obtain ⟨c3,d3⟩:=hpc 3 (by simp)
 simp only [Nat.zero_mul,Nat.one_mul,Nat.reduceMul,Nat.add_zero,List.getElem_cons_zero,List.getElem_cons_succ] at c0 d0 c1 d1 c2 d2 c3 d3
 have hz:=cellLt c0
 clear hpc
 go_enter Tryz.func48,Tryz.ntmps48
 go_wp2_with fail
 go_region
 all_goals
  go_wp2_with fail
  go_ret
  exact across_postN rfl (endCells_1 (by simp [go_sem]) (by simp [go_sem])) (by first | omega | (simp;done) | (simp;omega)) blo
theorem l1acrossN_one (kind:Int)(nm:ByteArray)(es:List MEnd)(k:Nat)(hk:k<es.length)(hl:(es.length:Int)=kind)(hkd:kind=2∨kind=4)(ea:Option Addr)(ec:Nat)(w:World)(he:Hid (EndsAt w ea es)):
  ∃ (t:Nat) (ht:t<es.length),beyondF kind k=[t]∧Calls Tryz.prog 48 #[.agg #[.int .i64 kind,.string nm,.slice ea es.length ec],.int .i64 k] w (AcrossPostN w [es[t]]):=by
 rcases hkd with rfl | rfl
 ·obtain ⟨a,b,rfl⟩:=list2 (show es.length=2 by omega)
  have hk2:k=0∨k=1:=by simp at hk;omega
  rcases hk2 with rfl | rfl
  ·exact ⟨1,by simp,rfl,l1acrossN_2_0 nm a b ea ec w he⟩
  ·exact ⟨0,by simp,rfl,l1acrossN_2_1 nm a b ea ec w he⟩
 ·obtain ⟨a,b,c,d,rfl⟩:=list4 (show es.length=4 by omega)
  have hk4:k=0∨k=1∨k=2∨k=3:=by simp at hk;omega
  rcases hk4 with rfl | rfl | rfl | rfl
  ·exact ⟨1,by simp,rfl,l1acrossN_4_0 nm a b c d ea ec w he⟩
  ·exact ⟨0,by simp,rfl,l1acrossN_4_1 nm a b c d ea ec w he⟩
  ·exact ⟨3,by simp,rfl,l1acrossN_4_2 nm a b c d ea ec w he⟩
  ·exact ⟨2,by simp,rfl,l1acrossN_4_3 nm a b c d ea ec w he⟩
end Go.Proofs.YtmkdgnmmebldgaaGreatDoor
