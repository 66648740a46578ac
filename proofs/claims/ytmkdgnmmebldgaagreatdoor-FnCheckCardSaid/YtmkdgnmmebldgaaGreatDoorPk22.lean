import Derived.Test.YtmkdgnmmebldgaaGreatDoorPk20
import Derived.Test.YtmkdgnmmebldgaaGreatDoorPk21
import Derived.Test.YtmkdgnmmebldgaaGreatDoorPk10
import Derived.Test.YtmkdgnmmebldgaaGreatDoorPk12
set_option maxRecDepth 100000
set_option maxHeartbeats 8000000
open Go.Proofs.Tryz
namespace Go.Proofs.YtmkdgnmmebldgaaGreatDoor
open Go.RowKit Go.Deep Go.Maps
theorem eu {P:Program}{u:World}{ops:Array Oper}{rest:List Oper}{o:Oper}{a:Act}{Q:Exit->Act->World->Prop}(hgd:o.guard=none)(x:Operand)(t:TypeId)
  (ho:o.op = .call { callee:=.builtin .append,args:=#[.const (.slice none 0 0),x],argTypes:=#[t,t] })
  (e:TypeId) (z:Value) (size bytes:Nat) (ht:P.underlying t=some (.slice e)) (hi:(P.info? e).map (fun i=>(i.zero,i.size,i.bytes))=some (some z,size,bytes)) (hzs:z.cells.size=size) (hsz:0<size)
  (av:Option Addr) (m c:Nat) (news:List Value) (hx:a.eval x = .slice av m c) (hav:av=none->m=0/\c=0) (hl:news.length=m*size) (hnews:∀ ad,av=some ad->∀ j v,news[j]? = some v->u.cell? (ad.add j)=some v) (h1:∀ v ∈ news,v.oneCell'=true)
  (h63:m<=maxLen) (hbytes:m*bytes<=140737488355328)
  (h:∀ x' y' w',w'.ownsRow u.heap.size e size (.slice x' m y') m news->Cx u w'->wpList P ops Q rest (a.put o.dst (.slice x' m y')) w'):wpList P ops Q (o::rest) a u:=by
 refine ev hgd (.const (.slice none 0 0)) x t ho u.heap.size e z size bytes ht hi hzs hsz (.slice none 0 0) 0 [] rfl (World.ownsRow_nil _ _ _ _) av m c news hx (fun h=>(hav h).2) hl hnews (fun h=>(hav h).1) h1 (by rw [Nat.zero_add];exact h63) (by rw [Nat.zero_add];exact hbytes) CW ?_
 intro v' w' b d;rw [Nat.zero_add,List.nil_append] at b;obtain ⟨x',y',rfl,_⟩:=ba b;exact h x' y' w' b (Below.grown CV d CW (fun j hj=>by cases hj))
theorem il {P:Program}{u:World}{ops:Array Oper}{rest:List Oper}{o:Oper}{a:Act}{Q:Exit->Act->World->Prop}(hgd:o.guard=none)(s x:Operand)(t:TypeId)
  (ho:o.op = .call { callee:=.builtin .append,args:=#[s,x],argTypes:=#[t,t] })
  (B:Nat) (e:TypeId) (z:Value) (size bytes:Nat) (ht:P.underlying t=some (.slice e)) (hi:(P.info? e).map (fun i=>(i.zero,i.size,i.bytes))=some (some z,size,bytes)) (hzs:z.cells.size=size) (hsz:0<size)
  (v:Value) (n:Nat) (xs:List Value) (hs:a.eval s=v) (hown:u.ownsRow B e size v n xs)
  (ad:Addr) (m c:Nat) (news:List Value) (hx:a.eval x = .slice (some ad) m c) (hl:news.length=m*size) (hnews:∀ j v,news[j]? = some v->u.cell? (ad.add j)=some v) (h1:∀ v ∈ news,v.oneCell'=true)
  (h63:n+m<=maxLen) (hbytes:(n+m)*bytes<=140737488355328) (hB:B<=u.heap.size)
  (h:∀ x' y' w',w'.ownsRow B e size (.slice x' (n+m) y') (n+m) (xs++news)->Below B u w'->wpList P ops Q rest (a.put o.dst (.slice x' (n+m) y')) w'):wpList P ops Q (o::rest) a u:=by
 refine ev hgd s x t ho B e z size bytes ht hi hzs hsz v n xs hs hown (some ad) m c news hx (fun h=>by cases h) hl (fun f e=>by cases e;exact hnews) (fun h=>by cases h) h1 h63 hbytes hB ?_
 intro v' w' b d;obtain ⟨x',y',rfl,_⟩:=ba b;exact h x' y' w' b (dw CV hown d hB)
end Go.Proofs.YtmkdgnmmebldgaaGreatDoor
namespace Go.Proofs.YtmkdgnmmebldgaaGreatDoor
open Go.RowKit Go.Deep
theorem oz (ss:List af)(p way pos:Int):∀ k,k<=ss.length->bi ss p way pos k = -1\/∃ (b:Nat) (hb:b<ss.length),bi ss p way pos k=b/\0<(ss[b].CD-pos)*way
 | 0,_=>Or.inl rfl
 | k+1,hk=>by
  have ih:=oz ss p way pos k CG
  have a:k<ss.length:=CG
  by_cases h:ss[k].len≠p\/ss[k].CC≠way\/(ss[k].CD-pos)*way<=0
  ·rw [gc a h];exact ih
  ·by_cases h2:bi ss p way pos k<0\/(ss[k].CD-bK ss (bi ss p way pos k))*way<0
   ·rw [iU a h h2];exact Or.inr ⟨k,a,rfl,CG⟩
   ·rw [kU a h h2];exact ih
section
variable {ps:List af} {js:List aj} {ss:List af} {i p:Nat} {pre:List aM} {way pos over:Int} {CA:List bg} {Cy:List Int}
theorem tG (ok:ck ps js ss i pre ⟨p,way⟩ CA Cy pos)(hway:way=1\/way = -1){b:Nat}(hb:b<ss.length)(hn:bi ss p way pos ss.length=b)(h1:ss[b].len=p)(h2:ss[b].CC=way):
  (⟨i,b,pre++[⟨p,way⟩],CA,Cy,cg ps (bK ss i) pre++[cK ps p way (bu ps p pos way) (bu ps p ss[b].CD way)],cL ps js (over.toNat+1) ⟨p,way⟩ ss[b].CD over,aS ps js ss CA CA⟩:al)=dr ps js ss over (eo i b (pre++[⟨p,way⟩]) CA Cy):=by
 have ha:0<(ss[b].CD-pos)*way:=by
  rcases oz ss p way pos ss.length CW with h | ⟨b',a,h,h3⟩
  ·rw [hn] at h;omega
  ·rw [hn] at h;have:b=b':=CG
   subst this;exact h3
 have hq:cK ps p way (bu ps p pos way) (bu ps p ss[b].CD way)=cD p pos ss[b].CD:=jy hway (by rcases hway with rfl | rfl <;> omega)
 have ho:dE ps js ss (b:Int) over=cL ps js (over.toNat+1) ⟨p,way⟩ ss[b].CD over:=by
  unfold dE;rw [if_neg CG,Int.toNat_natCast,List.getElem?_eq_getElem hb]
  simp only [h1,h2]
 unfold dr;rw [pI ok,if_pos CG,gL hb]
 rw [hq]
 show _=(⟨i,b,pre++[⟨p,way⟩],CA,Cy,_,dE ps js ss (b:Int) over,_⟩:al)
 rw [ho];rfl
theorem tN (ok:ck ps js ss i pre ⟨p,way⟩ CA Cy pos)(hway:way=1\/way = -1)(hp:p<ps.length):
  (⟨i,-1,pre++[⟨p,way⟩],CA,Cy,cg ps (bK ss i) pre++[cK ps p way (bu ps p pos way) ps[p].len],[],aS ps js ss CA CA⟩:al)=dr ps js ss over (eo i (-1) (pre++[⟨p,way⟩]) CA Cy):=by
 have h0:=ok.p0;have h1:=ok.p1;dsimp only at h1;rw [cT hp] at h1;have hq:cK ps p way (bu ps p pos way) ps[p].len=cD p pos (aR ps (au ⟨p,way⟩)):=by
  rw [<-tL hp hway];refine jy hway ?_;rcases hway with rfl | rfl
  ·have he:aR ps (au ⟨(p:Int),1⟩)=ps[p].len:=by simp [aR,au,cT hp]
   rw [he];omega
  ·have he:aR ps (au ⟨(p:Int),-1⟩)=0:=by simp [aR,au]
   rw [he];omega
 unfold dr;rw [pI ok,if_neg CG,hq]
 rfl
theorem AR (ok:ck ps js ss i pre ⟨p,way⟩ CA Cy pos)(hway:way=1\/way = -1)(hp:p<ps.length):cg ps (bK ss i) pre++[cK ps p way (bu ps p pos way) ps[p].len]=cg ps (bK ss i) (pre++[⟨p,way⟩]):=by
 have h0:=ok.p0;have h1:=ok.p1;dsimp only at h1;rw [cT hp] at h1;have hq:cK ps p way (bu ps p pos way) ps[p].len=cD p pos (aR ps (au ⟨p,way⟩)):=by
  rw [<-tL hp hway];refine jy hway ?_;rcases hway with rfl | rfl
  ·have he:aR ps (au ⟨(p:Int),1⟩)=ps[p].len:=by simp [aR,au,cT hp]
   rw [he];omega
  ·have he:aR ps (au ⟨(p:Int),-1⟩)=0:=by simp [aR,au]
   rw [he];omega
 rw [hq];exact tH ok
end
theorem WS.net {w0 w:World}{F:Nat}{pa ja sa:Option Addr}{pc jc sc:Nat}{ps:List af}{js:List aj}{ss:List af}{over:Int}{xo:Option Addr}{yo t:Nat}{pr:List (aL × al)}(h:WS w0 w F pa ja sa pc jc sc ps.length js.length ss.length over xo yo t pr)(HP:ar w0 pa ps)(HJ:aP w0 ja js)(HS:ar w0 sa ss):uj w F pa ja sa pc jc sc ps js ss over:=
 ⟨h.c0,h.c1,h.c2,h.c3,HP.below h.base,HJ.below h.base,HS.below h.base⟩
theorem vD {w0 w1 W:World}{F A Q B:Nat}{pa ja sa:Option Addr}{pc jc sc:Nat}{ps:List af}{js:List aj}{ss:List af}{over:Int}{t:Nat}{xo:Option Addr}{yo:Nat}{pr:List (aL × al)}{x0 x1 x2 x3 x4:Option Addr}{y0 y1 y2 y3 y4:Nat}{v7:Value}{st sp:Int}{CE:List aM}{CA:List bg}{Cy:List Int}{CF ov:List aI}
  (R:Hid (bo ps js ss)) (HP:Hid (ar w0 pa ps)) (HJ:Hid (aP w0 ja js)) (HS:Hid (ar w0 sa ss))
  (hfl:Hid (∀ (B Q:Nat) (la:Option Addr) (lc:Nat) (CA:List bg) (pl:Int) (n:Nat),LB w0 B F Q pa ja sa la ps js ss CA->iz w0 B F Q pa ja sa la pc jc sc lc ps js ss CA pl n))
  (hs:WS w0 W F pa ja sa pc jc sc ps.length js.length ss.length over xo yo t pr) (h:RB w1 W A Q B x0 y0 x1 y1 x2 y2 x3 y3 (.slice x4 ov.length y4) v7 ⟨st,sp,CE,CA,Cy,CF,ov,[]⟩) (hF:F<B) (hpr:pr.length<=300)
  (lv:∀ l ∈ CA,∃ (j:Nat) (hj:j<js.length),l.CB=j/\js[j].kind=3/\(l.side=1\/l.side=2)) (ld:(CA.map am.CB).Nodup) :
  Calls prog 78 #[.pointer (some ⟨F,0,none⟩),.agg #[.int .i64 st,.int .i64 sp,.slice x0 CE.length y0,.slice x1 CA.length y1,.slice x2 Cy.length y2,.slice x3 CF.length y3,.slice x4 ov.length y4,.slice none 0 0]] W (j5 F (F+1) pr.length (.slice xo pr.length yo) (fG pr) W (aS ps js ss CA CA) (fun xf yf=>[.int .i64 st,.int .i64 sp,.slice x0 CE.length y0,.slice x1 CA.length y1,.slice x2 Cy.length y2,.slice x3 CF.length y3,.slice x4 ov.length y4,.slice xf (aS ps js ss CA CA).length yf])):=by
 have hn:iy W F x1 CA.length:=iv h.own.o1 CJ hF
 refine Ap w0 F pa ja sa pc jc sc ps js ss R HP HJ HS hs.f hfl x0 x1 x2 x3 x4 y0 y1 y2 y3 y4 st sp CE CA Cy CF ov xo yo pr.length (F+1) (fG pr) W hs.base hs.c0 hs.c1 hs.c2 hs.c4 hs.z4 hs.s6 hs.z6 (cz h.own.o1).1 ?_ (Nat.le_trans (iX lv ld) R.out.nj) lv (qU ld) hs.own CG hs.lt (fun e=>by have:=(hs.rows F e).1;omega)
 rcases hn with hn | hn
 ·exact Or.inl (List.eq_nil_of_length_eq_zero hn)
 ·exact Or.inr (fun b off e=>(hn b off e).1)
def dl (w:World)(L:List am)(e:Ending)(w':World):Prop := ∃ g,e = .returned (.slice (some ⟨g,0,none⟩) L.length L.length)/\fC w' g 0 L/\w.heap.size<=g/\Cx w w'
theorem dO {w w':World}{L:List am}{g n:Nat}(hn:n=L.length)(hc:fC w' g 0 L)(hg:w.heap.size<=g)(hb:Cx w w'):dl w L (.returned (.slice (some ⟨g,0,none⟩) n n)) w':=by
 subst hn;exact ⟨g,rfl,hc,hg,hb⟩
theorem rU (s:ByteArray)(x0 x1:am)(ea:Option Addr)(ec:Nat)(w:World)(he:Hid (aT w ea [x0,x1])):
  Calls prog 48 #[.agg #[.int .i64 2,.string s,.slice ea 2 ec],.int .i64 0] w (dl w [x1]):=by
 obtain ⟨b,off,rfl,a⟩:=he.out.2.resolve_left (fun h=>by simp at h)
 obtain ⟨c0,d0⟩:=a 0 CI
 obtain ⟨c1,d1⟩:=a 1 CI
 simp only [Nat.zero_mul,Nat.one_mul,Nat.add_zero,List.getElem_cons_zero,List.getElem_cons_succ] at c0 d0 c1 d1;have hz:=ai c0;clear a
 go_enter func48,ntmps48
 go_wp2_with fail
 go_ret
 exact dO rfl (fv CO CO) CQ blo
theorem su (s:ByteArray)(x0 x1:am)(ea:Option Addr)(ec:Nat)(w:World)(he:Hid (aT w ea [x0,x1])):
  Calls prog 48 #[.agg #[.int .i64 2,.string s,.slice ea 2 ec],.int .i64 1] w (dl w [x0]):=by
 obtain ⟨b,off,rfl,a⟩:=he.out.2.resolve_left (fun h=>by simp at h)
 obtain ⟨c0,d0⟩:=a 0 CI
 obtain ⟨c1,d1⟩:=a 1 CI
 simp only [Nat.zero_mul,Nat.one_mul,Nat.add_zero,List.getElem_cons_zero,List.getElem_cons_succ] at c0 d0 c1 d1;have hz:=ai c0;clear a
 go_enter func48,ntmps48
 go_wp2_with fail
 go_ret
 exact dO rfl (fv CO CO) CQ blo
theorem rR (s:ByteArray)(x0 x1 x2:am)(ea:Option Addr)(ec:Nat)(w:World)(he:Hid (aT w ea [x0,x1,x2])):
  Calls prog 48 #[.agg #[.int .i64 3,.string s,.slice ea 3 ec],.int .i64 0] w (dl w [x1,x2]):=by
 obtain ⟨b,off,rfl,a⟩:=he.out.2.resolve_left (fun h=>by simp at h)
 obtain ⟨c0,d0⟩:=a 0 CI
 obtain ⟨c1,d1⟩:=a 1 CI
 obtain ⟨c2,d2⟩:=a 2 CI
 simp only [Nat.zero_mul,Nat.one_mul,Nat.reduceMul,Nat.add_zero,List.getElem_cons_zero,List.getElem_cons_succ] at c0 d0 c1 d1 c2 d2;have hz:=ai c0;clear a
 go_enter func48,ntmps48
 go_wp2_with fail
 go_region
 all_goals
  go_wp2_with fail
  go_ret
  exact dO rfl (we CO CO CO CO) CQ blo
theorem rL (s:ByteArray)(x0 x1 x2:am)(ea:Option Addr)(ec:Nat)(w:World)(he:Hid (aT w ea [x0,x1,x2])):
  Calls prog 48 #[.agg #[.int .i64 3,.string s,.slice ea 3 ec],.int .i64 1] w (dl w [x0]):=by
 obtain ⟨b,off,rfl,a⟩:=he.out.2.resolve_left (fun h=>by simp at h)
 obtain ⟨c0,d0⟩:=a 0 CI
 obtain ⟨c1,d1⟩:=a 1 CI
 obtain ⟨c2,d2⟩:=a 2 CI
 simp only [Nat.zero_mul,Nat.one_mul,Nat.reduceMul,Nat.add_zero,List.getElem_cons_zero,List.getElem_cons_succ] at c0 d0 c1 d1 c2 d2;have hz:=ai c0;clear a
 go_enter func48,ntmps48
 go_wp2_with fail
 go_ret
 exact dO rfl (fv CO CO) CQ blo
theorem rP (s:ByteArray)(x0 x1 x2:am)(ea:Option Addr)(ec:Nat)(w:World)(he:Hid (aT w ea [x0,x1,x2])):
  Calls prog 48 #[.agg #[.int .i64 3,.string s,.slice ea 3 ec],.int .i64 2] w (dl w [x0]):=by
 obtain ⟨b,off,rfl,a⟩:=he.out.2.resolve_left (fun h=>by simp at h)
 obtain ⟨c0,d0⟩:=a 0 CI
 obtain ⟨c1,d1⟩:=a 1 CI
 obtain ⟨c2,d2⟩:=a 2 CI
 simp only [Nat.zero_mul,Nat.one_mul,Nat.reduceMul,Nat.add_zero,List.getElem_cons_zero,List.getElem_cons_succ] at c0 d0 c1 d1 c2 d2;have hz:=ai c0;clear a
 go_enter func48,ntmps48
 go_wp2_with fail
 go_ret
 exact dO rfl (fv CO CO) CQ blo
theorem rT (s:ByteArray)(x0 x1 x2 x3:am)(ea:Option Addr)(ec:Nat)(w:World)(he:Hid (aT w ea [x0,x1,x2,x3])):
  Calls prog 48 #[.agg #[.int .i64 4,.string s,.slice ea 4 ec],.int .i64 0] w (dl w [x1]):=by
 obtain ⟨b,off,rfl,a⟩:=he.out.2.resolve_left (fun h=>by simp at h)
 obtain ⟨c0,d0⟩:=a 0 CI
 obtain ⟨c1,d1⟩:=a 1 CI
 obtain ⟨c2,d2⟩:=a 2 CI
 obtain ⟨c3,d3⟩:=a 3 CI
 simp only [Nat.zero_mul,Nat.one_mul,Nat.reduceMul,Nat.add_zero,List.getElem_cons_zero,List.getElem_cons_succ] at c0 d0 c1 d1 c2 d2 c3 d3;have hz:=ai c0;clear a
 go_enter func48,ntmps48
 go_wp2_with fail
 go_region
 all_goals
  go_wp2_with fail
  go_ret
  exact dO rfl (fv CO CO) CQ blo
theorem sr (s:ByteArray)(x0 x1 x2 x3:am)(ea:Option Addr)(ec:Nat)(w:World)(he:Hid (aT w ea [x0,x1,x2,x3])):
  Calls prog 48 #[.agg #[.int .i64 4,.string s,.slice ea 4 ec],.int .i64 1] w (dl w [x0]):=by
 obtain ⟨b,off,rfl,a⟩:=he.out.2.resolve_left (fun h=>by simp at h)
 obtain ⟨c0,d0⟩:=a 0 CI
 obtain ⟨c1,d1⟩:=a 1 CI
 obtain ⟨c2,d2⟩:=a 2 CI
 obtain ⟨c3,d3⟩:=a 3 CI
 simp only [Nat.zero_mul,Nat.one_mul,Nat.reduceMul,Nat.add_zero,List.getElem_cons_zero,List.getElem_cons_succ] at c0 d0 c1 d1 c2 d2 c3 d3;have hz:=ai c0;clear a
 go_enter func48,ntmps48
 go_wp2_with fail
 go_region
 all_goals
  go_wp2_with fail
  go_ret
  exact dO rfl (fv CO CO) CQ blo
theorem si (s:ByteArray)(x0 x1 x2 x3:am)(ea:Option Addr)(ec:Nat)(w:World)(he:Hid (aT w ea [x0,x1,x2,x3])):
  Calls prog 48 #[.agg #[.int .i64 4,.string s,.slice ea 4 ec],.int .i64 2] w (dl w [x3]):=by
 obtain ⟨b,off,rfl,a⟩:=he.out.2.resolve_left (fun h=>by simp at h)
 obtain ⟨c0,d0⟩:=a 0 CI
 obtain ⟨c1,d1⟩:=a 1 CI
 obtain ⟨c2,d2⟩:=a 2 CI
 obtain ⟨c3,d3⟩:=a 3 CI
 simp only [Nat.zero_mul,Nat.one_mul,Nat.reduceMul,Nat.add_zero,List.getElem_cons_zero,List.getElem_cons_succ] at c0 d0 c1 d1 c2 d2 c3 d3;have hz:=ai c0;clear a
 go_enter func48,ntmps48
 go_wp2_with fail
 go_region
 all_goals
  go_wp2_with fail
  go_ret
  exact dO rfl (fv CO CO) CQ blo
theorem rQ (s:ByteArray)(x0 x1 x2 x3:am)(ea:Option Addr)(ec:Nat)(w:World)(he:Hid (aT w ea [x0,x1,x2,x3])):
  Calls prog 48 #[.agg #[.int .i64 4,.string s,.slice ea 4 ec],.int .i64 3] w (dl w [x2]):=by
 obtain ⟨b,off,rfl,a⟩:=he.out.2.resolve_left (fun h=>by simp at h)
 obtain ⟨c0,d0⟩:=a 0 CI
 obtain ⟨c1,d1⟩:=a 1 CI
 obtain ⟨c2,d2⟩:=a 2 CI
 obtain ⟨c3,d3⟩:=a 3 CI
 simp only [Nat.zero_mul,Nat.one_mul,Nat.reduceMul,Nat.add_zero,List.getElem_cons_zero,List.getElem_cons_succ] at c0 d0 c1 d1 c2 d2 c3 d3;have hz:=ai c0;clear a
 go_enter func48,ntmps48
 go_wp2_with fail
 go_region
 all_goals
  go_wp2_with fail
  go_ret
  exact dO rfl (fv CO CO) CQ blo
theorem my (kind:Int)(nm:ByteArray)(es:List am)(k:Nat)(hk:k<es.length)(hl:(es.length:Int)=kind)(hkd:kind=2\/kind=4)(ea:Option Addr)(ec:Nat)(w:World)(he:Hid (aT w ea es)):
  ∃ (t:Nat) (ht:t<es.length),bt kind k=[t]/\Calls prog 48 #[.agg #[.int .i64 kind,.string nm,.slice ea es.length ec],.int .i64 k] w (dl w [es[t]]):=by
 rcases hkd with rfl | rfl
 ·obtain ⟨a,b,rfl⟩:=Cl (show es.length=2 by omega)
  have f:k=0\/k=1:=by simp at hk;omega
  rcases f with rfl | rfl
  ·exact ⟨1,CI,rfl,rU nm a b ea ec w he⟩
  ·exact ⟨0,CI,rfl,su nm a b ea ec w he⟩
 ·obtain ⟨a,b,c,d,rfl⟩:=Cn (show es.length=4 by omega)
  have g:k=0\/k=1\/k=2\/k=3:=by simp at hk;omega
  rcases g with rfl | rfl | rfl | rfl
  ·exact ⟨1,CI,rfl,rT nm a b c d ea ec w he⟩
  ·exact ⟨0,CI,rfl,sr nm a b c d ea ec w he⟩
  ·exact ⟨3,CI,rfl,si nm a b c d ea ec w he⟩
  ·exact ⟨2,CI,rfl,rQ nm a b c d ea ec w he⟩
theorem tV (kind:Int)(nm:ByteArray)(es:List am)(k:Nat)(hk:k<es.length)(hl:(es.length:Int)=kind)(hkd:kind=2\/kind=4)(ea:Option Addr)(ec:Nat)(w:World)(he:Hid (aT w ea es)):
  ∃ (t:Nat) (ht:t<es.length),bt kind k=[t]/\Calls prog 48 #[.agg #[.int .i64 kind,.string nm,.slice ea es.length ec],.int .i64 k] w (vW w [es[t]]):=
 let ⟨t,ht,hb,hc⟩:=my kind nm es k hk hl hkd ea ec w he
 ⟨t,ht,hb,hc.mono fun _ _ ⟨g,h1,h2,_,h3⟩=>⟨g,h1,h2,h3⟩⟩
end Go.Proofs.YtmkdgnmmebldgaaGreatDoor
