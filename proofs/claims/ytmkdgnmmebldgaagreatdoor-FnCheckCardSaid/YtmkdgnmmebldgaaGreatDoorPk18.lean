import Derived.Test.YtmkdgnmmebldgaaGreatDoorPk14
import Derived.Test.YtmkdgnmmebldgaaGreatDoorPk10
import Derived.Test.YtmkdgnmmebldgaaGreatDoorPk17
import Derived.Test.YtmkdgnmmebldgaaGreatDoorPk16
set_option maxRecDepth 100000
set_option maxHeartbeats 8000000
open Go.Proofs.Tryz
namespace Go.Proofs.YtmkdgnmmebldgaaGreatDoor
open Go.RowKit
variable {CA:List bg}{i t:Nat}{js:List aj}{p:aw}{ps ss:List af}{rs:List al}
def vU (t m:Nat)(E:List aw):Prop:=t+E.length<=20000/\m+(cd E).length<=300
structure eO (mk:aw->al)(t:Nat)(rs:List al)(E:List aw)(t':Nat)(rs':List al):Prop where
 le:t<=t'
 ge:rs.length<=rs'.length
 fit:vU t rs.length E->t'=t+E.length/\rs'=rs++(cd E).map mk
 past:¬ vU t rs.length E->20000<t'\/300<rs'.length
theorem iL (A B:List aw):cd (A++B)=cd A++cd B:=by simp [cd]
theorem eO.stay {mk:aw->al}:eO mk t rs [] t rs:=
 ⟨Nat.le_refl _,Nat.le_refl _,fun _=>by simp [cd],fun h2=>by
  by_cases h1:20000<t
  ·exact Or.inl h1
  ·refine Or.inr ?_;refine Nat.lt_of_not_le (fun h3=>h2 ⟨CN,by simpa [cd] using h3⟩)⟩
theorem eO.app {mk:aw->al}{t1 t2:Nat}{rs1 rs2:List al}{A B:List aw}(h:eO mk t rs A t1 rs1)(k:eO mk t1 rs1 B t2 rs2):eO mk t rs (A++B) t2 rs2:=by
 refine ⟨Nat.le_trans h.le k.le,Nat.le_trans h.ge k.ge,?_,?_⟩
 ·rintro ⟨f1,f2⟩;rw [List.length_append] at f1;rw [iL,List.length_append] at f2;obtain ⟨e1,e2⟩:=h.fit ⟨CG,CG⟩
  have hl:rs1.length=rs.length+(cd A).length:=by rw [e2];simp
  obtain ⟨e3,e4⟩:=k.fit ⟨CG,CG⟩
  refine ⟨by rw [List.length_append];omega,?_⟩
  rw [e4,e2,iL,List.map_append,List.append_assoc]
 ·intro hn
  by_cases f:vU t rs.length A
  ·obtain ⟨e1,e2⟩:=h.fit f;have hl:rs1.length=rs.length+(cd A).length:=by rw [e2];simp
   refine k.past (fun g=>hn ?_)
   obtain ⟨g1,g2⟩:=g;refine ⟨by rw [List.length_append];omega,?_⟩
   rw [iL,List.length_append];omega
  ·have h1:=h.le;have h2:=k.le;have h3:=k.ge;rcases h.past f with h4 | h4
   ·exact Or.inl CG
   ·exact Or.inr CG
theorem eO.one {mk:aw->al}(hp:p.ended=false):eO mk t rs [p] (t+1) rs:=by
 have e:cd [p]=[]:=by simp [cd,hp]
 refine ⟨CG,Nat.le_refl _,fun _=>by simp [e],fun h=>?_⟩
 by_cases h1:20000<t+1
 ·exact Or.inl h1
 ·refine Or.inr (Nat.lt_of_not_le (fun h3=>h ⟨CN,by rw [e];simpa using h3⟩))
theorem eO.made {mk:aw->al}{r:al}(hp:p.ended=true)(ht:t+1<=20000)(hr:r=mk p):eO mk t rs [p] (t+1) (rs++[r]):=by
 have e:cd [p]=[p]:=by simp [cd,hp]
 subst hr;refine ⟨CG,CI,fun _=>by simp [e],fun h=>?_⟩
 refine Or.inr (Nat.lt_of_not_le (fun h3=>h ⟨by simpa using ht,by rw [e];simpa using h3⟩))
theorem eO.out {mk:aw->al}{E:List aw}(h:20000<t+1\/300<rs.length):eO mk t rs (p::E) (t+1) rs:=by
 refine ⟨CG,Nat.le_refl _,?_,fun _=>h⟩
 rintro ⟨f1,f2⟩;rw [List.length_cons] at f1;omega
structure ck (ps:List af)(js:List aj)(ss:List af)(i:Nat)(pre:List aM)(s:aM)(CA:List bg)(Cy:List Int)(pos:Int):Prop where
 start:i<ss.length
 sv:eR ps s
 pv:∀ x ∈ pre,eR ps x
 nd:pre.Nodup
 lv:∀ l ∈ CA,∃ (j:Nat) (hj:j<js.length),l.CB=j/\js[j].kind=3/\(l.side=1\/l.side=2)
 ld:(CA.map am.CB).Nodup
 cl:Cy.length<=pre.length
 place:pos=if pre.length=0 then bK ss i else aR ps (b7 (au s))
 p0:0<=pos
 p1:pos<=iA ps s.CB
theorem wj {a b:aM}(ha:eR ps a)(hb:eR ps b)(h:au a=au b):a=b:=by
 obtain ⟨p,hp,e1,e2⟩:=ha;obtain ⟨q,hq,f1,f2⟩:=hb;cases a;cases b;simp only at e1 e2 f1 f2;subst e1 f1;rcases e2 with rfl | rfl <;> rcases f2 with rfl | rfl <;> simp [au] at h ⊢ <;> omega
theorem yl {L:List aM}(hd:L.Nodup)(hv:∀ x ∈ L,eR ps x):L.length<=2*ps.length:=by
 have h:eZ ps (L.map au):=by
  refine ⟨?_,?_⟩
  ·unfold List.Nodup;rw [List.pairwise_map];exact List.Pairwise.imp_of_mem (fun ha hb hne e=>hne (wj (hv _ ha) (hv _ hb) e)) hd
  ·intro e he;obtain ⟨x,hx,rfl⟩:=List.mem_map.1 he;exact dh (hv x hx)
 simpa using h.few
theorem iX (hl:∀ l ∈ CA,∃ (j:Nat) (hj:j<js.length),l.CB=j/\js[j].kind=3/\(l.side=1\/l.side=2))(hd:(CA.map am.CB).Nodup):CA.length<=js.length:=by
 have h1:(CA.map (fun l=>l.CB.toNat)).Nodup:=by
  unfold List.Nodup at hd ⊢;rw [List.pairwise_map] at hd ⊢;refine List.Pairwise.imp_of_mem (fun ha hb hne e=>hne ?_) hd
  obtain ⟨j,_,e1,_⟩:=hl _ ha;obtain ⟨k,_,e2,_⟩:=hl _ hb;rw [e1,e2] at e ⊢;rw [Int.toNat_natCast,Int.toNat_natCast] at e;rw [e]
 have:=ma js.length h1 (fun x hx=>by
  obtain ⟨l,a,rfl⟩:=List.mem_map.1 hx;obtain ⟨j,hj,e1,_⟩:=hl l a;rw [e1];simpa using hj)
 simpa using this
theorem qU:∀ {CA:List bg},(CA.map am.CB).Nodup->∀ a ∈ CA,∀ b ∈ CA,a.CB=b.CB->a.side=b.side
 | [],_=>fun a ha=>absurd ha CI
 | x::r,hd=>by
  rw [List.map_cons,List.nodup_cons] at hd;intro a ha b hb e;rcases List.mem_cons.1 ha with c | c <;> rcases List.mem_cons.1 hb with d | d
  ·rw [c,d]
  ·exact absurd (List.mem_map.2 ⟨b,d,by rw [<-e,c]⟩) hd.1
  ·exact absurd (List.mem_map.2 ⟨a,c,by rw [e,d]⟩) hd.1
  ·exact qU hd.2 a c b d e
theorem kZ (ps:List af)(a:Int)(pre:List aM)(s:aM):cg ps a (pre++[s])=cg ps a pre++[cD s.CB (if pre.length=0 then a else aR ps (b7 (au s))) (aR ps (au s))]:=by
 cases pre with
 | nil=>rfl
 | cons x r=>simp [cg]
theorem dW (ps:List af)(a:Int)(pre:List aM):(cg ps a pre).length=pre.length:=by
 cases pre with
 | nil=>rfl
 | cons x r=>simp [cg]
theorem jy {p way a b:Int}(hw:way=1\/way = -1)(h:(a-b)*way<=0):cK ps p way (bu ps p a way) (bu ps p b way)=cD p a b:=by
 rcases hw with rfl | rfl
 ·simp only [cK,bu,cD,if_true];rw [if_neg CG,Int.min_eq_left CG,Int.max_eq_right CG]
 ·simp only [cK,bu,cD];rw [if_pos trivial,if_neg CG,if_neg CG,Int.min_eq_right CG,Int.max_eq_left CG]
  congr 1 <;> omega
theorem tL {p:Nat}{way:Int}(hp:p<ps.length)(hw:way=1\/way = -1):bu ps p (aR ps (au ⟨p,way⟩)) way=ps[p].len:=by
 rcases hw with rfl | rfl
 ·simp [bu,aR,au,cT hp]
 ·simp [bu,aR,au,cT hp]
theorem lS {e:am}(h:bM ps e):bu ps (aD e).CB (aR ps e) (aD e).side=0/\aR ps (b7 (au (aD e)))=aR ps e:=by
 obtain ⟨p,hp,e1,e2⟩:=h;cases e;simp only at e1 e2;subst e1;rcases e2 with rfl | rfl <;> simp [bu,aR,au,b7,aD]
theorem i6 (R:bo ps js ss){e:am}(h:bM ps e):0<=aR ps e/\aR ps e<=iA ps e.CB:=by
 obtain ⟨p,hp,e1,e2⟩:=h;have:=R.plen p hp;have h1:=cT hp;unfold aR;rw [e1,h1]
 split <;> omega
theorem kG (e:am):(aD e).CB=e.CB:=by
 unfold aD
 split <;> rfl
theorem ck.next (R:bo ps js ss){pre:List aM}{s:aM}{lies':List bg}{Cy crosses':List Int}{pos:Int}(h:ck ps js ss i pre s CA Cy pos)(hr:s ∉ pre)
  {e:am} (he:bM ps e) (hl:∀ l ∈ lies',∃ (j:Nat) (hj:j<js.length),l.CB=j/\js[j].kind=3/\(l.side=1\/l.side=2)) (hd:(lies'.map am.CB).Nodup) (hc:crosses'.length<=pre.length+1) :
  ck ps js ss i (pre++[s]) (aD e) lies' crosses' (aR ps e):=by
 refine ⟨h.start,kC he,?_,?_,hl,hd,by simpa using hc,?_,(i6 R he).1,by rw [kG];exact (i6 R he).2⟩
 ·intro x hx;rcases List.mem_append.1 hx with hx | hx
  ·exact h.pv x hx
  ·have:x=s:=by simpa using hx
   rw [this];exact h.sv
 ·refine List.nodup_append.2 ⟨h.nd,CI,?_⟩
  intro a ha b hb;have:b=s:=by simpa using hb
  subst this;rintro rfl;exact hr ha
 ·rw [if_neg CI,(lS he).2]
theorem ck.few {pre:List aM}{s:aM}{Cy:List Int}{pos:Int}(h:ck ps js ss i pre s CA Cy pos):pre.length<=2*ps.length:=yl h.nd h.pv
theorem ck.begin (R:bo ps js ss)(hi:i<ss.length):ck ps js ss i [] ⟨ss[i].len,ss[i].CC⟩ [] [] ss[i].CD:=by
 obtain ⟨p,hp,e1,e2,e3,e4⟩:=R.sig i hi;refine ⟨hi,⟨p,hp,e1,e2⟩,CI,CI,CI,CI,CI,?_,CG,?_⟩
 ·rw [if_pos CI,gL hi]
 ·show ss[i].CD<=iA ps ss[i].len
  rw [e1,cT hp];omega
def aF (i:Nat)(L:List aM)(CA:List bg)(Cy:List Int):aw:=⟨i,0,false,L,CA,Cy⟩
def eo (i:Nat)(stop:Int)(L:List aM)(CA:List bg)(Cy:List Int):aw:=⟨i,stop,true,L,CA,Cy⟩
def gy (ps:List af)(js:List aj)(ss:List af)(n:Nat)(p:aw)(j k t:Nat):List aw:=
 match dD js p j k t with
 | none=>[]
 | some q=>evs ps js ss n q (aR ps (aY js j t))
def dy (ps:List af)(js:List aj)(ss:List af)(n:Nat)(p:aw)(j k:Nat)(L:List Nat):List aw:=L.flatMap (gy ps js ss n p j k)
theorem jP (ps:List af)(js:List aj)(ss:List af)(n:Nat)(p:aw)(j k:Nat)(L:List Nat)(t:Nat):dy ps js ss n p j k (L++[t])=dy ps js ss n p j k L++gy ps js ss n p j k t:=by
 simp [dy]
theorem iG {a b:aM}:cJ a b=true↔a=b:=by
 cases a;cases b;simp [cJ]
theorem gl (i:Nat)(pre:List aM)(s:aM)(CA:List bg)(Cy:List Int):cZ (aF i (pre++[s]) CA Cy)=s:=by simp [cZ,aF]
theorem i7 (i:Nat)(pre:List aM)(s:aM)(CA:List bg)(Cy:List Int):di (aF i (pre++[s]) CA Cy)=true↔s ∈ pre:=by
 unfold di;rw [gl]
 show ((pre++[s]).dropLast.any fun x=>cJ x s)=true↔s ∈ pre
 rw [List.dropLast_concat,List.any_eq_true];constructor
 ·rintro ⟨x,hx,h⟩;rw [<-iG.1 h];exact hx
 ·intro h;exact ⟨s,h,iG.2 rfl⟩
section
variable {ps:List af} {js:List aj} {ss:List af} {n i:Nat} {pre:List aM} {s:aM} {CA:List bg} {Cy:List Int} {pos:Int}
theorem lw (h:0<=bi ss s.CB s.side pos ss.length):evs ps js ss (n+1) (aF i (pre++[s]) CA Cy) pos=[eo i (bi ss s.CB s.side pos ss.length) (pre++[s]) CA Cy]:=by
 unfold evs ed;rw [gl,if_pos h];simp [aF,eo]
theorem mY (h:¬ 0<=bi ss s.CB s.side pos ss.length)(hr:s ∈ pre):evs ps js ss (n+1) (aF i (pre++[s]) CA Cy) pos=[aF i (pre++[s]) CA Cy]:=by
 have hb:=(i7 i pre s CA Cy).2 hr;unfold evs ed;rw [gl,if_neg h,hb];simp [aF]
theorem lR (h:¬ 0<=bi ss s.CB s.side pos ss.length)(hr:s ∉ pre)(hk:aH js (aO js (au s)).1=1):evs ps js ss (n+1) (aF i (pre++[s]) CA Cy) pos=[eo i (-1) (pre++[s]) CA Cy]:=by
 have hb:di (aF i (pre++[s]) CA Cy)=false:=by
  cases e:di (aF i (pre++[s]) CA Cy) with
  | false=>rfl
  | true=>exact absurd ((i7 i pre s CA Cy).1 e) hr
 unfold evs ed;rw [gl,if_neg h,hb,hk];simp [aF,eo]
theorem tS (h:¬ 0<=bi ss s.CB s.side pos ss.length)(hr:s ∉ pre)(hk:aH js (aO js (au s)).1≠1):evs ps js ss (n+1) (aF i (pre++[s]) CA Cy) pos=aF i (pre++[s]) CA Cy::dy ps js ss n (aF i (pre++[s]) CA Cy) (aO js (au s)).1 (aO js (au s)).2 (bt (aH js (aO js (au s)).1) (aO js (au s)).2):=by
 have hb:di (aF i (pre++[s]) CA Cy)=false:=by
  cases e:di (aF i (pre++[s]) CA Cy) with
  | false=>rfl
  | true=>exact absurd ((i7 i pre s CA Cy).1 e) hr
 have b:ed js ss (aF i (pre++[s]) CA Cy) pos=aF i (pre++[s]) CA Cy:=by
  unfold ed;rw [gl,if_neg h,if_neg (fun e=>hk e.1)]
  rfl
 have a:(aF i (pre++[s]) CA Cy).ended=false:=rfl;rw [evs,b,gl,hb,a,if_neg CI]
 rfl
theorem BS (m:Nat)(p:aw):∃ q E,evs ps js ss (m+1) p pos=q::E:=⟨_,_,rfl⟩
theorem pS {j k t:Nat}{L:List aM}(h:aH js j=2):dD js (aF i L CA Cy) j k t=some (aF i (L++[aD (aY js j t)]) CA Cy):=by
 unfold dD;rw [h];simp [aF]
theorem l8 {j k t:Nat}{L:List aM}(h:aH js j=4):dD js (aF i L CA Cy) j k t=some (aF i (L++[aD (aY js j t)]) CA (Cy++[(j:Int)])):=by
 unfold dD;rw [h];simp [aF]
theorem kw {j k t:Nat}{L:List aM}(h:aH js j=3)(hl:ce CA j=(max k t:Nat))(hz:ce CA j≠0):dD js (aF i L CA Cy) j k t=some (aF i (L++[aD (aY js j t)]) CA Cy):=by
 show (if aH js j=4 then _ else if aH js j=3 then (if ce CA j≠0 then (if ce CA j=(max k t:Nat) then _ else _) else _) else _)=_
 rw [if_neg CG,if_pos h,if_pos hz,if_pos hl]
 rfl
theorem jG {j k t:Nat}{L:List aM}(h:aH js j=3)(hl:ce CA j≠(max k t:Nat))(hz:ce CA j≠0):dD js (aF i L CA Cy) j k t=none:=by
 show (if aH js j=4 then _ else if aH js j=3 then (if ce CA j≠0 then (if ce CA j=(max k t:Nat) then _ else _) else _) else _)=_
 rw [if_neg CG,if_pos h,if_pos hz,if_neg hl]
theorem lI {j k t:Nat}{L:List aM}(h:aH js j=3)(hz:ce CA j=0):dD js (aF i L CA Cy) j k t=some (aF i (L++[aD (aY js j t)]) (CA++[⟨j,(max k t:Nat)⟩]) Cy):=by
 show (if aH js j=4 then _ else if aH js j=3 then (if ce CA j≠0 then (if ce CA j=(max k t:Nat) then _ else _) else _) else _)=_
 rw [if_neg CG,if_pos h,if_neg (fun e=>e hz)]
 rfl
theorem pI {stop:Int}(h:ck ps js ss i pre s CA Cy pos):cY ps ss (eo i stop (pre++[s]) CA Cy)=cg ps (bK ss i) pre++[cD s.CB pos (if 0<=stop then bK ss stop else aR ps (au s))]:=by
 unfold cY;have h1:cZ (eo i stop (pre++[s]) CA Cy)=s:=by simp [cZ,eo]
 rw [h1];simp only [eo,List.dropLast_concat,List.length_append,List.length_singleton];rw [h.place];congr 3
 by_cases hp:pre.length=0
 ·rw [if_pos CG,if_pos hp]
 ·rw [if_neg CG,if_neg hp]
theorem tH (h:ck ps js ss i pre s CA Cy pos):cg ps (bK ss i) pre++[cD s.CB pos (aR ps (au s))]=cg ps (bK ss i) (pre++[s]):=by
 rw [kZ,h.place]
theorem lx (hl:∀ l ∈ CA,∃ (j:Nat) (hj:j<js.length),l.CB=j/\js[j].kind=3/\(l.side=1\/l.side=2)){j:Int}(h:CA.any (fun l=>l.CB==j)=true):ce CA j≠0:=by
 unfold ce;cases hf:CA.find? (fun l=>l.CB==j) with
 | none =>
  obtain ⟨x,hx,h2⟩:=List.any_eq_true.1 h;exact absurd h2 (by simpa using List.find?_eq_none.1 hf x hx)
 | some l =>
  obtain ⟨_,_,_,_,h3⟩:=hl l (List.mem_of_find?_eq_some hf)
  show l.side≠0
  omega
theorem px {j:Int}(h:¬ CA.any (fun l=>l.CB==j)=true):ce CA j=0:=by
 unfold ce;cases hf:CA.find? (fun l=>l.CB==j) with
 | none=>rfl
 | some l=>exact absurd (List.any_eq_true.2 ⟨l,List.mem_of_find?_eq_some hf,List.find?_some hf⟩) h
theorem kI (hl:∀ l ∈ CA,∃ (j:Nat) (hj:j<js.length),l.CB=j/\js[j].kind=3/\(l.side=1\/l.side=2)){j:Nat}{x:Int}(hj:j<js.length)(hk:js[j].kind=3)(hx:x=1\/x=2):∀ l ∈ CA++[(⟨(j:Int),x⟩:bg)],∃ (j:Nat) (hj:j<js.length),l.CB=j/\js[j].kind=3/\(l.side=1\/l.side=2):=by
 intro l hm;rcases List.mem_append.1 hm with hm | hm
 ·exact hl l hm
 ·have:l=(⟨(j:Int),x⟩:bg):=by simpa using hm
  subst this;exact ⟨j,hj,rfl,hk,hx⟩
theorem jN (hd:(CA.map am.CB).Nodup){j:Int}{x:Int}(h:¬ CA.any (fun l=>l.CB==j)=true):((CA++[(⟨j,x⟩:bg)]).map am.CB).Nodup:=by
 rw [List.map_append];refine List.nodup_append.2 ⟨hd,CI,?_⟩
 intro a ha b hb;have:b=j:=by simpa using hb
 subst this;rintro rfl;obtain ⟨l,hl,e⟩:=List.mem_map.1 ha;exact h (List.any_eq_true.2 ⟨l,hl,by simpa using e⟩)
end
end Go.Proofs.YtmkdgnmmebldgaaGreatDoor
namespace Go.Proofs.YtmkdgnmmebldgaaGreatDoor
open Go.RowKit Go.Deep
structure cH where
 a0:Option Addr
 c0:Nat
 a1:Option Addr
 c1:Nat
 a2:Option Addr
 c2:Nat
structure bI (w:World)(d:cH)(p:aw):Prop where
 CE:aT w d.a0 p.CE
 CA:aT w d.a1 p.CA
 Cy:bV w d.a2 p.Cy
 nil0:d.a0=none->p.CE.length=0/\d.c0=0
 nil1:d.a1=none->p.CA.length=0/\d.c1=0
 nil2:d.a2=none->p.Cy.length=0/\d.c2=0
 cap:p.CE.length<=d.c0
theorem bI.below {w w':World}{d:cH}{p:aw}(h:bI w d p)(hb:Cx w w'):bI w' d p:=
 ⟨h.CE.below hb,h.CA.below hb,h.Cy.below hb,h.nil0,h.nil1,h.nil2,h.cap⟩
def dB (d:cH)(p:aw):Value:=.agg #[.int .i64 p.start,.int .i64 p.stop,.bool p.ended,.slice d.a0 p.CE.length d.c0,.slice d.a1 p.CA.length d.c1,.slice d.a2 p.Cy.length d.c2]
theorem Bc (j a b:Nat)(kd:Value)(w:World):
  Calls prog 176 #[.agg #[.int .i64 j,.int .i64 a,.int .i64 b,kd]] w fun e w'=>e = .returned (bC ⟨j,(max a b:Nat)⟩)/\Cx w w':=by
 have hm:((a:Int)<b/\((max a b:Nat):Int)=b)\/((a:Int)=b/\((max a b:Nat):Int)=b)\/((b:Int)<a/\((max a b:Nat):Int)=a):=CG
 obtain ⟨m,c⟩:∃ m,((max a b:Nat):Int)=m:=⟨_,rfl⟩;rw [c] at hm ⊢;clear c;rcases hm with ⟨h1,rfl⟩ | ⟨h1,rfl⟩ | ⟨h1,rfl⟩
 ·go_enter func176,ntmps176
  go_wp2_with fail
  exact bodyPost_ret (v:=.agg #[.int .i64 (j:Int),.int .i64 (b:Int)]) (by simp [results,results176,go_sem]) rfl ⟨rfl,blo⟩
 ·rw [h1]
  go_enter func176,ntmps176
  go_wp2_with fail
  exact bodyPost_ret (v:=.agg #[.int .i64 (j:Int),.int .i64 (b:Int)]) (by simp [results,results176,go_sem]) rfl ⟨rfl,blo⟩
 ·go_enter func176,ntmps176
  go_wp2_with fail
  exact bodyPost_ret (v:=.agg #[.int .i64 (j:Int),.int .i64 (a:Int)]) (by simp [results,results176,go_sem]) rfl ⟨rfl,blo⟩
theorem ru {p:aw}(h:0<p.CE.length):p.CE[p.CE.length-1]' CG=cZ p:=by
 unfold cZ;rw [List.getLastD_eq_getLast?,List.getLast?_eq_getElem?,List.getElem?_eq_getElem CG]
 rfl
theorem o9 (d:cH)(p:aw)(w:World)(h:Hid (bI w d p))(h0:0<p.CE.length):
  Calls prog 134 #[dB d p] w fun e w'=>e = .returned (bC (cZ p))/\Cx w w':=by
 have hl:=h.out.CE.1;unfold maxLen at hl;obtain ⟨b1,b,ha,a⟩:=h.out.CE.2.resolve_left (fun h=>by rw [h] at h0;exact absurd h0 CI)
 obtain ⟨c0,c1⟩:=a (p.CE.length-1) CG
 rw [ru h0] at c0 c1;obtain ⟨n,hn⟩:∃ n,p.CE.length=n+1:=⟨p.CE.length-1,CG⟩
 unfold dB;rw [ha,hn];rw [hn] at c0 c1 hl;have e:n+1-1=n:=CG
 rw [e] at c0 c1;obtain ⟨ls,c⟩:∃ ls,cZ p=ls:=⟨_,rfl⟩;rw [c] at c0 c1 ⊢;have hz:=ai c0;dsimp only at hz;clear a e
 go_enter func134,ntmps134
 go_wp2_with fail
 exact bodyPost_ret (v:=.agg #[.int .i64 ls.CB,.int .i64 ls.side]) (by simp [results,results134,go_sem]) rfl ⟨rfl,blo⟩
theorem rj (p:aw):(p.CE.take (p.CE.length-1)).any (fun s=>cJ s (cZ p))=di p:=by
 unfold di;rw [List.dropLast_eq_take]
theorem oy (d:cH)(p:aw)(w:World)(h:Hid (bI w d p))(h0:0<p.CE.length):
  Calls prog 132 #[dB d p] w fun e w'=>e = .returned (.bool (di p))/\Cx w w':=by
 have hl:=h.out.CE.1;unfold maxLen at hl;obtain ⟨b1,j,ha,A⟩:=h.out.CE.2.resolve_left (fun h=>by rw [h] at h0;exact absurd h0 CI)
 have G:=aa A;have l:Hid (∀ u:World,Cx w u->Calls prog 134 #[.agg #[.int .i64 p.start,.int .i64 p.stop,.bool p.ended,.slice (some ⟨b1,j,none⟩) p.CE.length d.c0,.slice d.a1 p.CA.length d.c1,.slice d.a2 p.Cy.length d.c2]] u fun e w'=>e = .returned (.agg #[.int .i64 (cZ p).CB,.int .i64 (cZ p).side])/\Cx u w'):=fun u hu=>by
  have hh:=o9 d p u (h.out.below hu) h0;unfold dB at hh;rw [ha] at hh;exact hh
 obtain ⟨ls,x⟩:∃ ls,cZ p=ls:=⟨_,rfl⟩;have B:=aa x;rw [x] at l;obtain ⟨n,hn⟩:∃ n,p.CE.length=n+1:=⟨p.CE.length-1,CG⟩
 have HN:=aa hn;unfold dB;rw [ha,hn];rw [hn] at l hl;have y:=h.out.cap;rw [hn] at y;clear A ha x hn
 go_enter func132,ntmps132
 go_wp2_with fail
 generalize hW:World.alloc w _=W;have C:Cx w W:=by rw [<-hW];exact blo
 have x0:W.cell? ⟨w.heap.size,0,none⟩=some (.int .i64 p.start):=by rw [<-hW];simp [go_sem]
 have x1:W.cell? ⟨w.heap.size,1,none⟩=some (.int .i64 p.stop):=by rw [<-hW];simp [go_sem]
 have x2:W.cell? ⟨w.heap.size,2,none⟩=some (.bool p.ended):=by rw [<-hW];simp [go_sem]
 have x3:W.cell? ⟨w.heap.size,3,none⟩=some (.slice (some ⟨b1,j,none⟩) (n+1) d.c0):=by rw [<-hW];simp [go_sem]
 have x4:W.cell? ⟨w.heap.size,4,none⟩=some (.slice d.a1 p.CA.length d.c1):=by rw [<-hW];simp [go_sem]
 have x5:W.cell? ⟨w.heap.size,5,none⟩=some (.slice d.a2 p.Cy.length d.c2):=by rw [<-hW];simp [go_sem]
 have D:=aa C;have M:w.heap.size<W.heap.size:=by rw [<-hW];simp
 clear hW C
 go_loopw [13] (fun i wr => ∃ k:Nat,k<=n/\i = .int .i64 k/\Hid ((p.CE.take k).any (fun s=>cJ s ls)=false)/\Cx W wr) (fun i _=>n-(intOf i).toNat)
 case atStart=>exact ⟨0,Nat.zero_le _,rfl,rfl,Below.refl _ _⟩
 case round =>
  obtain ⟨k,hk,rfl,HQ,hb⟩:=hrel;have H:=hb.size;have r:=D.out.trans (hb.mono D.out.size)
  by_cases N:k<n
  ·have E:k<p.CE.length:=by rw [HN.out];omega
   obtain ⟨c0,c1⟩:=(G.out.below r) k E;have z:Hid ((p.CE.take (k+1)).any (fun s=>cJ s ls)=cJ p.CE[k] ls):=by
    unfold Hid;rw [List.take_succ_eq_append_getElem E,List.any_append,HQ.out];simp
   have m:Hid (cJ p.CE[k] ls=true->di p=true):=fun hs=>by
    rw [<-rj,List.any_eq_true];refine ⟨p.CE[k],?_,by rw [B.out];exact hs⟩
    rw [HN.out];exact List.mem_take_iff_getElem.2 ⟨k,CN,rfl⟩
   generalize p.CE[k]=sk at c0 c1 z m;have y0:=cell_later hb x0;have y1:=cell_later hb x1;have y2:=cell_later hb x2;have y3:=cell_later hb x3;have y4:=cell_later hb x4;have y5:=cell_later hb x5;have I:(k:Int)<n:=CG
   have J:=ai c0;dsimp only at J;clear HQ
   go_upto_region 4 with fail
   generalize t:World.alloc wr _=Wa;have c:Cx wr Wa:=by rw [<-t];exact CV.alloc CW _
   have z0:Wa.cell? ⟨wr.heap.size,0,none⟩=some (.int .i64 sk.CB):=by rw [<-t];simp [go_sem]
   have z1:Wa.cell? ⟨wr.heap.size,1,none⟩=some (.int .i64 sk.side):=by rw [<-t];simp [go_sem]
   have v:=aa (hb.trans (c.mono H));have f:=aa (r.trans (c.mono CG))
   have m0:=bA.cell (cell_later c y0);have m1:=bA.cell (cell_later c y1);have m2:=bA.cell (cell_later c y2);have m3:=bA.cell (cell_later c y3);have m4:=bA.cell (cell_later c y4);have m5:=bA.cell (cell_later c y5);have l0:=bA.cell z0;have l1:=bA.cell z1;have hne:=ft Wa;clear t c y0 y1 y2 y3 y4 y5 z0 z1 c0 c1 hb r;have L:(cJ sk ls=false/\(sk.CB==ls.CB)=false)\/(cJ sk ls=false/\(sk.CB==ls.CB)=true/\(sk.side==ls.side)=false)\/(cJ sk ls=true/\(sk.CB==ls.CB)=true/\(sk.side==ls.side)=true):=by
    unfold cJ;cases (sk.CB==ls.CB) <;> cases (sk.side==ls.side) <;> simp
   rcases L with ⟨hs,g1⟩ | ⟨hs,g1,g2⟩ | ⟨hs,g1,g2⟩
   ·have g:Hid ((p.CE.take (k+1)).any (fun s=>cJ s ls)=false):=z.out.trans hs
    clear hs;refine cW CH CH ?_
    iterate 2 (go_big_quiet_step (fail))
    go_big_quiet_step ((rename_i u;exact bA.calls u (l.out u.val (f.out.trans (u.2.mono f.out.size)))))
    iterate 1 (go_big_quiet_step (fail))
    refine wpQuiet_nil ?_;intro _ o;obtain ⟨u,a⟩:=o;subst a;have b:=u.2;generalize u.val=w6 at b ⊢;have q:=aa (v.out.trans (b.mono v.out.size));clear m0 m1 m2 m3 m4 m5 l0 l1 hne b
    go_wp2_with fail
    go_roundw
    case rel=>exact ⟨k+1,CG,by go_num,g,q.out⟩
    case measure=>simp [intOf];omega
   ·have g:Hid ((p.CE.take (k+1)).any (fun s=>cJ s ls)=false):=z.out.trans hs
    clear hs;refine cW CH CH ?_
    iterate 2 (go_big_quiet_step (fail))
    go_big_quiet_step ((rename_i u;exact bA.calls u (l.out u.val (f.out.trans (u.2.mono f.out.size)))))
    iterate 1 (go_big_quiet_step (fail))
    refine wpQuiet_nil ?_;intro _ o;obtain ⟨u,a⟩:=o;subst a;have b:=u.2;generalize u.val=w6 at b ⊢;have q:=aa (v.out.trans (b.mono v.out.size));clear m0 m1 m2 m3 m4 m5 l0 l1 hne b
    go_wp2_with fail
    go_roundw
    case rel=>exact ⟨k+1,CG,by go_num,g,q.out⟩
    case measure=>simp [intOf];omega
   ·have g:Hid (di p=true):=m.out hs;clear hs;refine cW CH CH ?_
    iterate 2 (go_big_quiet_step (fail))
    go_big_quiet_step ((rename_i u;exact bA.calls u (l.out u.val (f.out.trans (u.2.mono f.out.size)))))
    iterate 1 (go_big_quiet_step (fail))
    refine wpQuiet_nil ?_;intro _ o;obtain ⟨u,a⟩:=o;subst a;have b:=u.2;generalize u.val=w6 at b ⊢;have q:=aa (f.out.trans (b.mono f.out.size));clear m0 m1 m2 m3 m4 m5 l0 l1 hne b
    go_wp2_with fail
    go_ret
    rw [g.out];exact ⟨rfl,q.out⟩
  ·have F:k=n:=CG
   have g:Hid (di p=false):=by
    unfold Hid;have h:=HQ.out;rw [F] at h;rw [<-rj,HN.out,B.out];exact h
   have I:¬ (k:Int)<n:=CG
   clear HQ F
   go_wp2_with fail
   go_ret
   rw [g.out];exact ⟨rfl,r⟩
def fy (ps:List af)(ss:List af)(p:aw)(k:Nat):List aI:=if k<p.CE.length then cg ps (bK ss p.start) (p.CE.take k) else cY ps ss p
theorem vl (ps:List af)(ss:List af)(p:aw)(h:0<p.CE.length):fy ps ss p 0=[]:=by
 unfold fy;rw [if_pos h];rfl
theorem qo (ps:List af)(ss:List af)(p:aw):fy ps ss p p.CE.length=cY ps ss p:=by
 unfold fy;rw [if_neg CG]
theorem xD (ps:List af)(ss:List af)(p:aw){k:Nat}(h0:0<p.CE.length)(h:k<=p.CE.length):(fy ps ss p k).length=k:=by
 unfold fy
 split
 ·rw [dW,List.length_take];omega
 ·unfold cY;rw [List.length_append,dW,List.length_dropLast];simp;omega
theorem uH (ps:List af)(ss:List af)(p:aw){k:Nat}(h:k<p.CE.length):fy ps ss p (k+1)=fy ps ss p k++[cD p.CE[k].CB (if k=0 then bK ss p.start else aR ps (b7 (au p.CE[k]))) (if k=p.CE.length-1/\0<=p.stop then bK ss p.stop else aR ps (au p.CE[k]))]:=by
 by_cases hl:k+1<p.CE.length
 ·unfold fy;rw [if_pos hl,if_pos h,List.take_succ_eq_append_getElem h,kZ,if_neg (show ¬ (k=p.CE.length-1/\0<=p.stop) from fun e=>CG)]
  have e:(p.CE.take k).length=k:=by rw [List.length_take];omega
  rw [e]
 ·have hk:k=p.CE.length-1:=CG
  have a:p.CE[k]=cZ p:=by
   have:=ru (p:=p) CG
   rw [<-this];congr 1
  unfold fy;rw [if_neg hl,if_pos h];unfold cY;rw [a,List.dropLast_eq_take,<-hk];congr 3
  ·by_cases h1:k=0
   ·rw [if_pos CG,if_pos h1]
   ·rw [if_neg CG,if_neg h1]
  ·by_cases h1:0<=p.stop
   ·rw [if_pos h1,if_pos ⟨rfl,h1⟩]
   ·rw [if_neg h1,if_neg (fun e=>h1 e.2)]
theorem uP (K:Nat)(pa ja sa:Option Addr)(pc jc sc:Nat)(ps:List af)(js:List aj)(ss:List af)(d:cH)(p:aw)(w:World)(hT:Hid (kT w K pa ja sa pc jc sc ps js ss))(h:Hid (bI w d p))(h0:0<p.CE.length)(h1:p.CE.length<=1000)(hv:Hid (∀ s ∈ p.CE,eR ps s))(hs:Hid (∃ i:Nat,i<ss.length/\p.start=i))(he:Hid (p.stop = -1\/∃ i:Nat,i<ss.length/\p.stop=i)):
  Calls prog 83 #[.pointer (some ⟨K,0,none⟩),dB d p] w fun e w' => ∃ x y,e = .returned (.slice x (cY ps ss p).length y)/\w'.ownsRow w.heap.size 48 3 (.slice x (cY ps ss p).length y) (cY ps ss p).length (bG (cY ps ss p))/\Cx w w':=by
 obtain ⟨b1,N,ha,ar⟩:=h.out.CE.2.resolve_left (fun h=>by rw [h] at h0;exact absurd h0 CI)
 have aL:=aa ar;obtain ⟨n,hn⟩:∃ n,p.CE.length=n:=⟨_,rfl⟩;have HN:=aa hn;unfold dB;rw [ha,hn];rw [hn] at h0 h1;have c2:=hT.out.c2;have hK:=ai c2;dsimp only at hK;clear ar ha hn
 go_enter func83,ntmps83
 go_wp2_with fail
 generalize hW:World.alloc w _=W;have av:Cx w W:=by rw [<-hW];exact blo
 have x0:W.cell? ⟨w.heap.size,0,none⟩=some (.int .i64 p.start):=by rw [<-hW];simp [go_sem]
 have x1:W.cell? ⟨w.heap.size,1,none⟩=some (.int .i64 p.stop):=by rw [<-hW];simp [go_sem]
 have x3:W.cell? ⟨w.heap.size,3,none⟩=some (.slice (some ⟨b1,N,none⟩) n d.c0):=by rw [<-hW];simp [go_sem]
 have ax:=aa av;have a8:w.heap.size<W.heap.size:=by rw [<-hW];simp
 clear hW av c2
 go_loopw [5,13] (fun ve i wr => ∃ (k:Nat) (x:Option Addr) (y:Nat),k<=n/\i = .int .i64 k/\ve = .slice x k y/\Hid (wr.ownsRow W.heap.size 48 3 (.slice x k y) k (bG (fy ps ss p k)))/\Cx W wr) (fun _ i _=>n-(intOf i).toNat)
 case atStart=>exact ⟨0,none,0,Nat.zero_le _,rfl,rfl,by unfold Hid;rw [vl _ _ _ (by rw [HN.out];exact h0)];exact World.ownsRow_nil _ _ _ _,Below.refl _ _⟩
 case round =>
  obtain ⟨k,x,y,hk,rfl,rfl,HO,hb⟩:=hrel;have aM:=hb.size;have r:=ax.out.trans (hb.mono ax.out.size)
  by_cases aN:k<n
  ·have O:k<p.CE.length:=by rw [HN.out];exact aN
   obtain ⟨c0,c1⟩:=(aL.out.below r) k O;obtain ⟨q,hq,R,ay⟩:=hv.out _ (List.getElem_mem O);have H:=aa (uH ps ss p O);generalize p.CE[k]=sk at c0 c1 R ay H;obtain ⟨sp,sw⟩:=sk;dsimp only at c0 c1 R ay H;subst R;have y0:=cell_later hb x0;have y1:=cell_later hb x1;have y3:=cell_later hb x3;have aO:(k:Int)<n:=CG
   have aP:=ai c0;dsimp only at aP;have a9:=aa r;obtain ⟨es,t⟩:∃ es,au ⟨(q:Int),sw⟩=⟨(q:Int),es⟩/\0<=es/\es<=1:=by
    unfold au
    split
    ·exact ⟨1,rfl,CG,CG⟩
    ·exact ⟨0,rfl,CG,CG⟩
   have T:Hid (∀ u:World,Calls prog 114 #[.agg #[.int .i64 (q:Int),.int .i64 sw]] u fun e w'=>e = .returned (.agg #[.int .i64 (q:Int),.int .i64 es])/\Cx u w'):=fun u=>by
    have hh:=jm (q:Int) sw u;rw [t.1] at hh;exact hh
   have az:Hid (∀ u:World,Calls prog 113 #[.agg #[.int .i64 (q:Int),.int .i64 es]] u fun e w'=>e = .returned (.agg #[.int .i64 (q:Int),.int .i64 (1-es)])/\Cx u w'):=fun u=>jE (q:Int) es u t.2.1 t.2.2
   obtain ⟨A1,U⟩:∃ A,aR ps ⟨(q:Int),1-es⟩=A:=⟨_,rfl⟩;obtain ⟨A2,V⟩:∃ A,aR ps ⟨(q:Int),es⟩=A:=⟨_,rfl⟩;have g:Hid (fy ps ss p (k+1)=fy ps ss p k++[cD q (if k=0 then bK ss p.start else A1) (if k=n-1/\0<=p.stop then bK ss p.stop else A2)]):=by
    unfold Hid;rw [H.out,t.1,HN.out];unfold b7;rw [U,V]
   go_upto_region 5 with fail
   generalize I:World.alloc wr _=Wa;have l:Cx wr Wa:=by rw [<-I];exact CV.alloc CW _
   have z0:Wa.cell? ⟨wr.heap.size,0,none⟩=some (.int .i64 (q:Int)):=by rw [<-I];simp [go_sem]
   have z1:Wa.cell? ⟨wr.heap.size,1,none⟩=some (.int .i64 sw):=by rw [<-I];simp [go_sem]
   have X:=aa (hb.trans (l.mono aM));have b:=aa (r.trans (l.mono CG))
   have z:Hid (∀ u:World,Cx Wa u->Calls prog 112 #[.pointer (some ⟨K,0,none⟩),.agg #[.int .i64 (q:Int),.int .i64 (1-es)]] u fun e w'=>e = .returned (.int .i64 A1)/\Cx u w'):=fun u hu=>by
    rw [<-U];exact pJ K pa ja sa pc jc sc ps js ss q (1-es) u ((hT.out.below b.out).below hu) hq
   have B:Hid (∀ u:World,Cx Wa u->Calls prog 112 #[.pointer (some ⟨K,0,none⟩),.agg #[.int .i64 (q:Int),.int .i64 es]] u fun e w'=>e = .returned (.int .i64 A2)/\Cx u w'):=fun u hu=>by
    rw [<-V];exact pJ K pa ja sa pc jc sc ps js ss q es u ((hT.out.below b.out).below hu) hq
   replace y0:=cell_later l y0;replace y1:=cell_later l y1;replace y3:=cell_later l y3;have aA:=aa (aq HO.out l);have l0:=bA.cell z0;have l1:=bA.cell z1;have hne:=ft Wa;have aQ:=ai z0;dsimp only at aQ;clear I l c0 c1 hb r HO H t U V;refine cW CH CH ?_
   iterate 2 (go_big_quiet_step (fail))
   go_big_quiet_step ((rename_i u;exact bA.calls u (T.out u.val)))
   go_big_quiet_step ((rename_i u;exact bA.calls u (az.out u.val)))
   go_big_quiet_step ((rename_i u;exact bA.calls u (z.out u.val u.2)))
   iterate 2 (go_big_quiet_step (fail))
   go_big_quiet_step ((rename_i u;exact bA.calls u (T.out u.val)))
   go_big_quiet_step ((rename_i u;exact bA.calls u (B.out u.val u.2)))
   iterate 2 (go_big_quiet_step (fail))
   refine wpQuiet_nil ?_;intro _ aS;obtain ⟨u,Y⟩:=aS;subst Y;have f:=u.2;generalize u.val=w6 at f ⊢;replace y0:=cell_later f y0;replace y1:=cell_later f y1;replace y3:=cell_later f y3;replace z0:=cell_later f z0;have aB:=aa (aq aA.out f);have Z:=aa (X.out.trans (f.mono X.out.size));have j:=aa (b.out.trans (f.mono b.out.size));have ba:=f.size;clear l0 l1 hne f T az z B z1 aA X b;obtain ⟨i,hi,J⟩:=hs.out;have ab:=hT.out.below j.out;obtain ⟨bs,os,ac,c⟩:=ab.S.2.2.resolve_left (nz hi);obtain ⟨_,_,s2,_⟩:=c i hi;have k2:=ab.c2;rw [ac] at k2;have ad:Hid (bK ss p.start=ss[i].CD):=by unfold Hid;rw [J];exact gL hi
   rw [J] at y0;generalize ss[i].CD=sv at s2 ad;have aT:=ai s2;dsimp only at aT;have bb:(i:Int)<ss.length:=CG
   have aV:=aa ac;have bc:=aa J;clear c ab ac J
   go_upto_if 28 with fail
   go_cut [8] (fun v wx=>v = .int .i64 (if k=0 then bK ss p.start else A1)/\Cx w6 wx)
   case first =>
    by_cases C:k=0
    ·have ae:((k:Int)==0)=true:=by simp [C]
     have HV:Hid ((if k=0 then bK ss p.start else A1)=sv):=by unfold Hid;rw [if_pos C];exact ad.out
     clear C
     go_wp2_with fail
     go_quiet (fail)
     go_wp2_with fail
     go_meet
     exact ⟨by rw [HV.out],blo⟩
    ·have ae:((k:Int)==0)=false:=CN
     have HV:Hid ((if k=0 then bK ss p.start else A1)=A1):=by unfold Hid;rw [if_neg C]
     clear C
     go_wp2_with fail
     go_meet
     exact ⟨by rw [HV.out],Below.refl _ _⟩
   case rest =>
    obtain ⟨rfl,a⟩:=hcut;generalize (if k=0 then bK ss p.start else A1)=st at g ⊢
    replace y1:=cell_later a y1;replace y3:=cell_later a y3;replace z0:=cell_later a z0;replace k2:=cell_later a k2;have aC:=aa (aq aB.out a);have ag:=aa (Z.out.trans (a.mono Z.out.size));have o:=aa (j.out.trans (a.mono j.out.size));have bd:=a.size;clear a aB Z j s2 y0 ad;obtain ⟨m,hm⟩:∃ m,n=m+1:=⟨n-1,CG⟩
    have HM:=aa hm;have be:(n:Int)-1=m:=CG
    have aD:Hid (0<=p.stop->∃ (i2:Nat) (h2:i2<ss.length),p.stop=i2/\bK ss p.stop=ss[i2].CD):=fun bf=>by
     rcases he.out with h3 | ⟨i2,h3,h4⟩
     ·omega
     ·exact ⟨i2,h3,h4,by rw [h4];exact gL h3⟩
    clear hm
    go_upto_region 8 with fail
    go_cut [48] (fun v wx=>v = .bool (decide (k=n-1/\0<=p.stop))/\Cx wc wx)
    case first =>
     by_cases L:k=m
     ·have ae:((k:Int)==(m:Int))=true:=by simp [L]
      by_cases ah:0<=p.stop
      ·have HV:Hid (decide (k=n-1/\0<=p.stop)=true):=by
        have:=HM.out;unfold Hid;simp;omega
       clear L
       go_wp2_with fail
       go_meet
       exact ⟨by rw [HV.out],blo⟩
      ·have HV:Hid (decide (k=n-1/\0<=p.stop)=false):=by
        unfold Hid;simp;omega
       have aX:¬ 0<=p.stop:=ah;clear L
       go_wp2_with fail
       go_meet
       exact ⟨by rw [HV.out],blo⟩
     ·have ae:((k:Int)==(m:Int))=false:=CN
      have HV:Hid (decide (k=n-1/\0<=p.stop)=false):=by
       have:=HM.out;unfold Hid;simp;omega
      clear L
      go_wp2_with fail
      go_meet
      exact ⟨by rw [HV.out],blo⟩
    case rest =>
     obtain ⟨rfl,a⟩:=hcut;replace y1:=cell_later a y1;replace z0:=cell_later a z0;replace k2:=cell_later a k2;have aE:=aa (aq aC.out a);have ak:=aa (ag.out.trans (a.mono ag.out.size));have D:=aa (o.out.trans (a.mono o.out.size));have bg:=a.size;clear a aC ag o y3;generalize E:decide (k=n-1/\0<=p.stop)=db
     go_upto_if 48 with fail
     go_cut [9] (fun v wx=>v = .int .i64 (if k=n-1/\0<=p.stop then bK ss p.stop else A2)/\Cx wc wx)
     case first =>
      cases db with
      | true =>
       have al:=of_decide_eq_true E;obtain ⟨i2,h2,aY,aF⟩:=aD.out al.2;have HV:Hid ((if k=n-1/\0<=p.stop then bK ss p.stop else A2)=ss[i2].CD):=by unfold Hid;rw [if_pos al];exact aF
       have aG:=hT.out.below D.out;obtain ⟨bh,bi,F,c⟩:=aG.S.2.2.resolve_left (nz h2);obtain ⟨_,_,s2,_⟩:=c i2 h2;have aH:=aV.out.symm.trans F;simp at aH;obtain ⟨rfl,rfl⟩:=aH;rw [aY] at y1;generalize ss[i2].CD=sv2 at s2 HV;have am:=ai s2;dsimp only at am;have aZ:(i2:Int)<ss.length:=CG
       clear al E c aG aF F
       go_wp2_with fail
       go_quiet (fail)
       go_wp2_with fail
       go_meet
       exact ⟨by rw [HV.out],blo⟩
      | false =>
       have HV:Hid ((if k=n-1/\0<=p.stop then bK ss p.stop else A2)=A2):=by unfold Hid;rw [if_neg (of_decide_eq_false E)]
       clear E
       go_wp2_with fail
       go_meet
       exact ⟨by rw [HV.out],Below.refl _ _⟩
     case rest =>
      obtain ⟨rfl,a⟩:=hcut;generalize (if k=n-1/\0<=p.stop then bK ss p.stop else A2)=sp at g ⊢
      replace z0:=cell_later a z0;have aI:=aa (aq aE.out a);have an:=aa (ak.out.trans (a.mono ak.out.size));have bj:=a.size;clear a aE ak D k2 E aD y1;obtain ⟨pt,ao⟩:∃ pt,cD (q:Int) st sp=pt:=⟨_,rfl⟩;have a0:Hid (∀ u:World,Calls prog 115 #[.int .i64 (q:Int),.int .i64 st,.int .i64 sp] u fun e w'=>e = .returned (jF pt)/\Cx u w'):=fun u=>by rw [<-ao];exact qm (q:Int) st sp u
      rw [ao] at g;clear ao
      go_wp2_with (first
       | (go_at_call 115;refine (a0.out _).mono ?_;rintro e w2 ⟨rfl,M⟩;have G:=aa (aq aI.out M);have aJ:=an.out.trans (M.mono an.out.size);have a1:=M.size;have a2:=aJ.size;unfold jF;clear M aI an)
       | (at_builtin;refine aU rfl (.tmp 58) (.tmp 64) 41 rfl W.heap.size 48 _ 3 24 underlying41 Tryz.infoPart rfl CJ (.slice x k y) k (bG (fy ps ss p k)) rfl G.out w2.heap.size rfl [.int .i64 pt.CB,.int .i64 pt.lo,.int .i64 pt.hi] rfl rfl CL CK CG CG ?_;intro x' y' w3 ap aK;rw [gY,<-g.out] at ap;have a3:=aa ap;have a4:=dw aJ G.out aK CG;clear ap aK))
      go_roundw
      case rel=>exact ⟨k+1,x',y',CG,by go_num,rfl,a3,a4⟩
      case measure=>simp [intOf];omega
  ·obtain rfl:k=n:=CG
   have a5:Hid ((cY ps ss p).length=k):=by
    unfold Hid;rw [<-qo,xD _ _ _ (by rw [HN.out];exact h0) CW]
    exact HN.out
   have a6:Hid (wr.ownsRow w.heap.size 48 3 (.slice x k y) k (bG (cY ps ss p))):=by
    have:=aW HO.out (show w.heap.size<=W.heap.size by omega)
    rw [<-HN.out,qo,HN.out] at this;exact this
   clear HO hb;have aO:¬ (k:Int)<k:=CG
   have a7:=aa r;clear r
   go_wp2_with fail
   rw [a5.out];exact bodyPost_ret (v:=.slice x k y) (by simp [results,results83,go_sem]) rfl ⟨x,y,rfl,a6.out,a7.out⟩
end Go.Proofs.YtmkdgnmmebldgaaGreatDoor
