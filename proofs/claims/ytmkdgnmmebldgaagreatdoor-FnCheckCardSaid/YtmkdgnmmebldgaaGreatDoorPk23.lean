import Derived.Test.YtmkdgnmmebldgaaGreatDoorPk22
set_option maxRecDepth 100000
set_option maxHeartbeats 8000000
open Go.Proofs.Tryz
namespace Go.Proofs.YtmkdgnmmebldgaaGreatDoor
open Go.RowKit Go.Deep
variable {e:am}
theorem Cp {α:Type}{l:List α}(h:l.length=3):∃ a b c,l=[a,b,c]:=by
 match l,h with
 | [a,b,c],_=>exact ⟨a,b,c,rfl⟩
theorem rN (kind:Int)(nm:ByteArray)(es:List am)(k:Nat)(hk:k<es.length)(hl:(es.length:Int)=kind)(hkd:kind=2\/kind=3\/kind=4)(ea:Option Addr)(ec:Nat)(w:World)(he:Hid (aT w ea es)):
  Calls prog 48 #[.agg #[.int .i64 kind,.string nm,.slice ea es.length ec],.int .i64 k] w (dl w ((bt kind k).map (fun t=>es.getD t ⟨0,0⟩))):=by
 have hc:(kind=2\/kind=4)\/kind=3:=CG
 rcases hc with hc | rfl
 ·obtain ⟨t,ht,hb,h⟩:=my kind nm es k hk hl hc ea ec w he;rw [hb];have e:[t].map (fun t=>es.getD t ⟨0,0⟩)=[es[t]]:=by simp [ht]
  rw [e];exact h
 ·obtain ⟨a,b,c,rfl⟩:=Cp (show es.length=3 by omega)
  have d:k=0\/k=1\/k=2:=by simp at hk;omega
  rcases d with rfl | rfl | rfl
  ·exact rR nm a b c ea ec w he
  ·exact rL nm a b c ea ec w he
  ·exact rP nm a b c ea ec w he
theorem ox (kind:Int)(k:Nat):(bt kind k).length<=2:=by
 unfold bt
 split
 ·simp
 ·split
  ·split <;> simp
  ·split <;> simp
section
variable {w1 W:World} {F A Q B:Nat} {x0 x1 x2 x3:Option Addr} {y0 y1 y2 y3:Nat} {v7:Value} {st sp:Int} {CE:List aM} {CA:List bg} {Cy:List Int} {CF:List aI}
theorem vI (h:RB w1 W A Q B x0 y0 x1 y1 x2 y2 x3 y3 (.slice none 0 0) v7 ⟨st,sp,CE,CA,Cy,CF,[],[]⟩)(hF:F<B):fH W F ⟨x0,y0,x1,y1,x2,y2,x3,y3,none,0,none,0⟩ ⟨st,sp,CE,CA,Cy,CF,[],[]⟩:=
 vK (ov:=[]) (fl:=[]) (x4:=none) (y4:=0) (x5:=none) (y5:=0) (v:=n9) (v':=n9) (B4:=F+1) (B5:=F+1) h hF (World.ownsRow_nil _ _ _ _) (Nat.lt_succ_self F) (Eff.of_below CV) (World.ownsRow_nil _ _ _ _) (Nat.lt_succ_self F)
theorem yh (h:RB w1 W A Q B x0 y0 x1 y1 x2 y2 x3 y3 (.slice none 0 0) v7 ⟨st,sp,CE,CA,Cy,CF,[],[]⟩):ph ⟨x0,y0,x1,y1,x2,y2,x3,y3,none,0,none,0⟩ ⟨st,sp,CE,CA,Cy,CF,[],[]⟩:=
 ⟨(cz h.own.o0).2,(cz h.own.o1).2,(eJ h.own.o2).2,(ei h.own.o3).2⟩
end
def cv (w0 Wl wr:World)(F:Nat)(pa ja sa:Option Addr)(pc jc sc:Nat)(ps:List af)(js:List aj)(ss:List af)(over:Int)(n t:Nat)(vo:Value)(rs:List al)(path:aw)(j k:Nat)(T:List Nat)(m:Nat):Prop:=
 ∃ xo yo t' pr,WS w0 wr F pa ja sa pc jc sc ps.length js.length ss.length over xo yo t' pr/\Eff F vo (.slice xo pr.length yo) Wl wr/\eO (dr ps js ss over) t rs (path::dy ps js ss n path j k (T.take m)) t' (pr.map Prod.snd)/\t'+1<=20000+n+m/\pr.length<=301
section
variable {w0 Wl wr W w':World} {F:Nat} {pa ja sa:Option Addr} {pc jc sc:Nat} {ps:List af} {js:List aj} {ss:List af} {over:Int} {n t:Nat} {vo:Value} {rs:List al} {path:aw} {j k m:Nat} {T:List Nat}
theorem cv.start {xo:Option Addr}{yo:Nat}{pr:List (aL × al)}(h:WS w0 Wl F pa ja sa pc jc sc ps.length js.length ss.length over xo yo (t+1) pr)(hn:1<=n)(ht:t+1<=20000)(hp:path.ended=false)(hpr:pr.length<=301):cv w0 Wl Wl F pa ja sa pc jc sc ps js ss over n t (.slice xo pr.length yo) (pr.map Prod.snd) path j k T 0:=
 ⟨xo,yo,t+1,pr,h,h.eff0 CV,eO.one hp,CG,hpr⟩
theorem cv.below (h:cv w0 Wl wr F pa ja sa pc jc sc ps js ss over n t vo rs path j k T m)(hb:Cx wr W):cv w0 Wl W F pa ja sa pc jc sc ps js ss over n t vo rs path j k T m:=by
 obtain ⟨xo,yo,t',pr,h1,h2,h3,h4,h5⟩:=h;exact ⟨xo,yo,t',pr,h1.below hb,h2.later hb,h3,h4,h5⟩
theorem cv.none (h:cv w0 Wl wr F pa ja sa pc jc sc ps js ss over n t vo rs path j k T m)(hm:m<T.length)(hk:dD js path j k T[m]=none):cv w0 Wl wr F pa ja sa pc jc sc ps js ss over n t vo rs path j k T (m+1):=by
 obtain ⟨xo,yo,t',pr,h1,h2,h3,h4,h5⟩:=h;refine ⟨xo,yo,t',pr,h1,h2,?_,CG,h5⟩
 rw [List.take_succ_eq_append_getElem hm,jP];have a:gy ps js ss n path j k T[m]=[]:=by unfold gy;rw [hk]
 rw [a,List.append_nil];exact h3
theorem cv.gone {xo:Option Addr}{yo t':Nat}{pr:List (aL × al)}(h2:Eff F vo (.slice xo pr.length yo) Wl wr)(h3:eO (dr ps js ss over) t rs (path::dy ps js ss n path j k (T.take m)) t' (pr.map Prod.snd))(h4:t'+1<=20000+n+m)(hb:Cx wr W)(hm:m<T.length){q:aw}(hk:dD js path j k T[m]=some q)
  {e:Ending} (hw:fB w0 W F pa ja sa pc jc sc ps js ss over n t' (.slice xo pr.length yo) (pr.map Prod.snd) (evs ps js ss n q (aR ps (aY js j T[m]))) e w'):e = .returned (.tuple #[])/\cv w0 Wl w' F pa ja sa pc jc sc ps js ss over n t vo rs path j k T (m+1):=by
 obtain ⟨he,a,b,c,d,k1,k2,k3,k4,k5⟩:=hw;refine ⟨he,a,b,c,d,k1,(h2.later hb).trans k2,?_,CG,k5⟩
 rw [List.take_succ_eq_append_getElem hm,jP];have f:gy ps js ss n path j k T[m]=evs ps js ss n q (aR ps (aY js j T[m])):=by unfold gy;rw [hk]
 rw [f];exact h3.app k3
theorem cv.stop {w:World}{xo:Option Addr}{yo:Nat}{pr:List (aL × al)}{E:List aw}(h:cv w0 Wl wr F pa ja sa pc jc sc ps js ss over n t (.slice xo pr.length yo) (pr.map Prod.snd) path j k T m)(hm:m=T.length)(hT:T.length<=2)(hE:Eff F (.slice xo pr.length yo) (.slice xo pr.length yo) w Wl)(hev:E=path::dy ps js ss n path j k T):
  fB w0 w F pa ja sa pc jc sc ps js ss over (n+1) t (.slice xo pr.length yo) (pr.map Prod.snd) E (.returned (.tuple #[])) wr:=by
 obtain ⟨a,b,t',c,h1,h2,h3,h4,h5⟩:=h;refine ⟨rfl,a,b,t',c,h1,hE.trans h2,?_,CG,h5⟩
 rw [hm,List.take_length] at h3;rw [hev];exact h3
end
theorem ia {w0 w1 W:World}{F A Q B:Nat}{pa ja sa:Option Addr}{pc jc sc:Nat}{ps:List af}{js:List aj}{ss:List af}{over:Int}{n t i p pe:Nat}{way pos:Int}{xo:Option Addr}{yo:Nat}{pr:List (aL × al)}{x0 x1 x2 x3:Option Addr}{y0 y1 y2 y3:Nat}{v7:Value}{pre L:List aM}{CA lies':List bg}{Cy crosses':List Int}{PL:List aI}
  (ih:iY w0 F pa ja sa pc jc sc ps js ss over n) (R:bo ps js ss) (ok:ck ps js ss i pre ⟨p,way⟩ CA Cy pos) (hnot:(⟨(p:Int),way⟩:aM) ∉ pre) (hn:n+1+pre.length=2*ps.length+2) (hL:pre++[(⟨(p:Int),way⟩:aM)]=L) (hPL:PL=cg ps (bK ss i) L)
  (hv:bM ps e) (hpe:e.CB=pe) (lv:∀ l ∈ lies',∃ (j:Nat) (hj:j<js.length),l.CB=j/\js[j].kind=3/\(l.side=1\/l.side=2)) (ld:(lies'.map am.CB).Nodup) (cl:crosses'.length<=pre.length+1)
  (hs:WS w0 W F pa ja sa pc jc sc ps.length js.length ss.length over xo yo t pr) (h:RB w1 W A Q B x0 y0 x1 y1 x2 y2 x3 y3 (.slice none 0 0) v7 ⟨i,0,L,lies',crosses',PL,[],[]⟩) (hF:F<B) (ht:t<=100000) (hpr:pr.length<=301) {wy:Int} (hwy:(aD e).side=wy) :
  Calls prog 35 #[.pointer (some ⟨F,0,none⟩),.agg #[.int .i64 i,.int .i64 0,.slice x0 L.length y0,.slice x1 lies'.length y1,.slice x2 crosses'.length y2,.slice x3 PL.length y3,.slice none 0 0,.slice none 0 0],.int .i64 pe,.int .i64 wy,.int .i64 0] W
   (fB w0 W F pa ja sa pc jc sc ps js ss over n t (.slice xo pr.length yo) (pr.map Prod.snd) (evs ps js ss n (aF i (L++[aD e]) lies' crosses') (aR ps e))):=by
 have hw:=ok.next R hnot hv lv ld cl
 have b:aD e=⟨(pe:Int),wy⟩:=by
  have h1:=kG e;generalize aD e=s at h1 hwy;cases s;simp only at h1 hwy;rw [h1,hwy,hpe]
 have hf:=(lS hv).1;rw [b] at hf hw ⊢;dsimp only at hf;rw [hL] at hw;have hk:=vI h hF;have c:=yh h;have a:PL.length=L.length:=by rw [hPL,dW]
 have d:(Value.agg #[.int .i64 i,.int .i64 0,.slice x0 L.length y0,.slice x1 lies'.length y1,.slice x2 crosses'.length y2,.slice x3 L.length y3,.slice none 0 0,.slice none 0 0]) = .agg #[.int .i64 i,.int .i64 0,.slice x0 L.length y0,.slice x1 lies'.length y1,.slice x2 crosses'.length y2,.slice x3 PL.length y3,.slice none 0 0,.slice none 0 0]:=by rw [a]
 subst hPL;have hc:=ih x0 y0 x1 y1 x2 y2 x3 y3 i L pe wy lies' crosses' (aR ps e) xo yo t pr W hw (by rw [<-hL];simp;omega) hs hk c ht hpr
 rw [d,hf] at hc;exact hc
theorem qE (h:e.side=0):(aD e).side=1:=by unfold aD;rw [if_pos h]
theorem qC (h:e.side=1):(aD e).side = -1:=by unfold aD;rw [if_neg CG]
theorem p9 {wr w5:World}{z0 z1 z2 z3:Option Addr}{t0 t1 t2 t3:Nat}{st sp:Int}{CE:List aM}{CA:List bg}{Cy:List Int}{CF:List aI}(hb:Cx wr w5)(hz:wr.heap.size+1<=w5.heap.size)
  (ho:iK w5 (wr.heap.size+1) (.slice z0 CE.length t0) (.slice z1 CA.length t1) (.slice z2 Cy.length t2) (.slice z3 CF.length t3) ⟨st,sp,CE,CA,Cy,CF,[],[]⟩) :
  RB wr (w5.alloc (.cells #[.int .i64 st,.int .i64 sp,.slice z0 CE.length t0,.slice z1 CA.length t1,.slice z2 Cy.length t2,.slice z3 CF.length t3,.slice none 0 0,.slice none 0 0] 44)) wr.heap.size w5.heap.size (wr.heap.size+1) z0 t0 z1 t1 z2 t2 z3 t3 (.slice none 0 0) (.slice none 0 0) ⟨st,sp,CE,CA,Cy,CF,[],[]⟩:=
 ⟨hb.alloc CG _,CG,CG,CN,py _ _ _ _ _ _ _ _ _,ho.below CU⟩
theorem jz (cs:List Int)(x:Int):bP cs++[.int .i64 x]=bP (cs++[x]):=by
 rw [pD];rfl
end Go.Proofs.YtmkdgnmmebldgaaGreatDoor
namespace Go.Proofs.YtmkdgnmmebldgaaGreatDoor
open Go.RowKit Go.Deep Go.Maps
variable {B B' b e e' n y y':Nat}{d:cH}{p:aw}{s:aM}{u w w':World}{v:Value}{x x':Option Addr}{xs:List Value}
def iN (j k t:Nat)(kd:Int):Value:=.agg #[.int .i64 (j:Int),.int .i64 (k:Int),.int .i64 (t:Int),.iface (cj kd) (.agg #[])]
def ee (p:aw)(j k t:Nat)(kd:Int)(e:am):aw × Bool:=
 let q:aw:={ p with CE:=p.CE++[aD e] }
 if kd=4 then ({ q with Cy:=p.Cy++[(j:Int)] },true)
 else if kd=3 then
  (if ce p.CA j≠0 then (q,decide (ce p.CA j=(max k t:Nat)))
  else ({ q with CA:=p.CA++[⟨j,(max k t:Nat)⟩] },true))
 else (q,true)
theorem isC (w:World)(xt:TypeId)(k:Int)(h1:1<=k)(h4:k<=4):(Instr.typeAssert (.iface (cj k) (.agg #[])) xt 208 true).run prog w = .ok (.tuple #[.agg #[],.bool (decide (k=4))]) w:=by
 have:k=1\/k=2\/k=3\/k=4:=CG
 rcases this with rfl | rfl | rfl | rfl
 ·exact nT w xt _ CJ
 ·exact nT w xt _ CJ
 ·exact nT w xt _ CJ
 ·exact dK (P:=prog) w xt 208 (.agg #[]) _ underlying208
theorem isS (w:World)(xt:TypeId)(k:Int)(h1:1<=k)(h4:k<=4):(Instr.typeAssert (.iface (cj k) (.agg #[])) xt 207 true).run prog w = .ok (.tuple #[.agg #[],.bool (decide (k=3))]) w:=by
 have:k=1\/k=2\/k=3\/k=4:=CG
 rcases this with rfl | rfl | rfl | rfl
 ·exact nY w xt _ CJ
 ·exact nY w xt _ CJ
 ·exact dK (P:=prog) w xt 207 (.agg #[]) _ underlying207
 ·exact nY w xt _ CJ
theorem qP {s:Nat}(h:w.ownsRow B e s (.slice x n y) n xs):n<=y:=by
 rcases h.2 with ⟨_,rfl⟩ | ⟨g,a,b,h1,_,_,h2,_⟩
 ·exact Nat.zero_le _
 ·cases h1;exact h2
def six (u:World)(b:Nat)(v0 v1 v2 v3 v4 v5:Value):World:=(((((u.setCell ⟨b,0,none⟩ v0).setCell ⟨b,1,none⟩ v1).setCell ⟨b,2,none⟩ v2).setCell ⟨b,3,none⟩ v3).setCell ⟨b,4,none⟩ v4).setCell ⟨b,5,none⟩ v5
theorem kN {T:Nat}{f:Nat->Value}(hr:u.rowIs b T 6 f)(v0 v1 v2 v3 v4 v5:Value):(six u b v0 v1 v2 v3 v4 v5).cell? ⟨b,0,none⟩=some v0/\(six u b v0 v1 v2 v3 v4 v5).cell? ⟨b,1,none⟩=some v1/\(six u b v0 v1 v2 v3 v4 v5).cell? ⟨b,2,none⟩=some v2/\(six u b v0 v1 v2 v3 v4 v5).cell? ⟨b,3,none⟩=some v3/\(six u b v0 v1 v2 v3 v4 v5).cell? ⟨b,4,none⟩=some v4/\(six u b v0 v1 v2 v3 v4 v5).cell? ⟨b,5,none⟩=some v5:=by
 have h:=(((((hr.set 0 v0).set 1 v1).set 2 v2).set 3 v3).set 4 v4).set 5 v5;exact ⟨(h.cell (i:=0) CG).trans CI,(h.cell (i:=1) CG).trans CI,(h.cell (i:=2) CG).trans CI,(h.cell (i:=3) CG).trans CI,(h.cell (i:=4) CG).trans CI,(h.cell (i:=5) CG).trans CI⟩
theorem iV {s:Nat}(h:u.ownsRow B e s v n xs)(hb:b<B)(v0 v1 v2 v3 v4 v5:Value):(six u b v0 v1 v2 v3 v4 v5).ownsRow B e s v n xs:=
 ownsRow_setCell_below (ownsRow_setCell_below (ownsRow_setCell_below (ownsRow_setCell_below (ownsRow_setCell_below (ownsRow_setCell_below h (a:=⟨b,0,none⟩) hb v0) (a:=⟨b,1,none⟩) hb v1) (a:=⟨b,2,none⟩) hb v2) (a:=⟨b,3,none⟩) hb v3) (a:=⟨b,4,none⟩) hb v4) (a:=⟨b,5,none⟩) hb v5
theorem ks (h:Below B w u)(hb:B<=b)(v0 v1 v2 v3 v4 v5:Value):Below B w (six u b v0 v1 v2 v3 v4 v5):=
 (((((h.setCell (p:=⟨b,0,none⟩) hb v0).setCell (p:=⟨b,1,none⟩) hb v1).setCell (p:=⟨b,2,none⟩) hb v2).setCell (p:=⟨b,3,none⟩) hb v3).setCell (p:=⟨b,4,none⟩) hb v4).setCell (p:=⟨b,5,none⟩) hb v5
theorem re {s:Nat}(h:u.ownsRow B e s v n xs):u.drew.ownsRow B e s v n xs:=h
theorem xI (a b:Int):(a==b)=decide (a=b):=by
 by_cases h:a=b <;> simp [h]
theorem AK (u:World)(b:Nat)(v0 v1 v2 v3 v4 v5:Value):ag (fun k=>k=b) u (six u b v0 v1 v2 v3 v4 v5):=by
 have h0:=(ag.refl (fun k=>k=b) u).setCell (p:=⟨b,0,none⟩) (Or.inl rfl) v0
 have h1:=h0.setCell (p:=⟨b,1,none⟩) (Or.inl rfl) v1;have h2:=h1.setCell (p:=⟨b,2,none⟩) (Or.inl rfl) v2;have h3:=h2.setCell (p:=⟨b,3,none⟩) (Or.inl rfl) v3;have h4:=h3.setCell (p:=⟨b,4,none⟩) (Or.inl rfl) v4;exact h4.setCell (p:=⟨b,5,none⟩) (Or.inl rfl) v5
theorem bI.grow (h:bI w d p)(hb:Cx w w')(ho:w'.ownsRow B e 2 (.slice x (p.CE.length+1) y) (p.CE.length+1) (aG (p.CE++[s]))):bI w' ⟨x,y,d.a1,d.c1,d.a2,d.c2⟩ { p with CE:=p.CE++[s] }:=by
 have hl:(p.CE++[s]).length=p.CE.length+1:=CI
 rw [<-hl] at ho;have e1:=cz ho;exact ⟨e1.1,h.CA.below hb,h.Cy.below hb,e1.2,h.nil1,h.nil2,qP ho⟩
theorem bI.grow2 (h:bI w d p)(hb:Cx w w'){l:bg}(ho:w'.ownsRow B e 2 (.slice x (p.CE.length+1) y) (p.CE.length+1) (aG (p.CE++[s])))(ho':w'.ownsRow B' e' 2 (.slice x' (p.CA.length+1) y') (p.CA.length+1) (aG (p.CA++[l]))):bI w' ⟨x,y,x',y',d.a2,d.c2⟩ { p with CE:=p.CE++[s],CA:=p.CA++[l] }:=by
 have hl:(p.CE++[s]).length=p.CE.length+1:=CI
 have a:(p.CA++[l]).length=p.CA.length+1:=CI
 rw [<-hl] at ho;rw [<-a] at ho';have e1:=cz ho;have e2:=cz ho';exact ⟨e1.1,e2.1,h.Cy.below hb,e1.2,e2.2,h.nil2,qP ho⟩
theorem bI.grow3 (h:bI w d p)(hb:Cx w w'){l:Int}(ho:w'.ownsRow B e 2 (.slice x (p.CE.length+1) y) (p.CE.length+1) (aG (p.CE++[s])))(ho':w'.ownsRow B' e' 1 (.slice x' (p.Cy.length+1) y') (p.Cy.length+1) (bP (p.Cy++[l]))):bI w' ⟨x,y,d.a1,d.c1,x',y'⟩ { p with CE:=p.CE++[s],Cy:=p.Cy++[l] }:=by
 have hl:(p.CE++[s]).length=p.CE.length+1:=CI
 have a:(p.Cy++[l]).length=p.Cy.length+1:=CI
 rw [<-hl] at ho;rw [<-a] at ho';have e1:=cz ho;have e2:=eJ ho';exact ⟨e1.1,h.CA.below hb,e2.1,e1.2,h.nil1,e2.2,qP ho⟩
theorem cA {K:Nat->Prop}{s:Nat}(h:w.ownsRow B e s v n xs)(hO:ag K w u)(hK:∀ k,K k->k<B):u.ownsRow B e s v n xs:=by
 refine ⟨h.1,?_⟩;rcases h.2 with h2 | ⟨g,a,b,h1,h2,h3,h4⟩
 ·exact Or.inl h2
 ·exact Or.inr ⟨g,a,b,h1,h2,(hO.block g (Array.getElem?_eq_some_iff.1 h3).1 (fun hk=>by have:=hK g hk;omega)).trans h3,h4⟩
def gz (w w':World)(d d':cH)(p p':aw):Prop := ∀ (K:Nat->Prop) (u:World),(∀ k,K k->k<w.heap.size)->ag K w' u->bI u d p->bI u d' p'
theorem gz.grow (hB:w.heap.size<=B)(ho:w'.ownsRow B e 2 (.slice x (p.CE.length+1) y) (p.CE.length+1) (aG (p.CE++[s]))):gz w w' d ⟨x,y,d.a1,d.c1,d.a2,d.c2⟩ p { p with CE:=p.CE++[s] }:=
 fun _ _ hK hO h=>h.grow CV (cA ho hO (fun k hk=>Nat.lt_of_lt_of_le (hK k hk) hB))
theorem gz.grow2 {l:bg}(hB:w.heap.size<=B)(hB':w.heap.size<=B')(ho:w'.ownsRow B e 2 (.slice x (p.CE.length+1) y) (p.CE.length+1) (aG (p.CE++[s])))(ho':w'.ownsRow B' e' 2 (.slice x' (p.CA.length+1) y') (p.CA.length+1) (aG (p.CA++[l]))):gz w w' d ⟨x,y,x',y',d.a2,d.c2⟩ p { p with CE:=p.CE++[s],CA:=p.CA++[l] }:=
 fun _ _ hK hO h=>h.grow2 CV (cA ho hO (fun k hk=>Nat.lt_of_lt_of_le (hK k hk) hB)) (cA ho' hO (fun k hk=>Nat.lt_of_lt_of_le (hK k hk) hB'))
theorem gz.grow3 {l:Int}(hB:w.heap.size<=B)(hB':w.heap.size<=B')(ho:w'.ownsRow B e 2 (.slice x (p.CE.length+1) y) (p.CE.length+1) (aG (p.CE++[s])))(ho':w'.ownsRow B' e' 1 (.slice x' (p.Cy.length+1) y') (p.Cy.length+1) (bP (p.Cy++[l]))):gz w w' d ⟨x,y,d.a1,d.c1,x',y'⟩ p { p with CE:=p.CE++[s],Cy:=p.Cy++[l] }:=
 fun _ _ hK hO h=>h.grow3 CV (cA ho hO (fun k hk=>Nat.lt_of_lt_of_le (hK k hk) hB)) (cA ho' hO (fun k hk=>Nat.lt_of_lt_of_le (hK k hk) hB'))
theorem AY {g:Nat}{a:Value}(c0:u.cell? ⟨g,0,none⟩=some a):∀ (j:Nat) (v:Value),[a][j]? = some v->u.cell? ((⟨g,0,none⟩:Addr).add j)=some v:=by
 intro j v hv;rw [bH,Nat.zero_add]
 match j with
 | 0=>simp at hv;rw [<-hv];exact c0
 | j+1=>simp at hv
theorem wV {g:Nat}{a b:Value}(c0:u.cell? ⟨g,0,none⟩=some a)(c1:u.cell? ⟨g,1,none⟩=some b):∀ (j:Nat) (v:Value),[a,b][j]? = some v->u.cell? ((⟨g,0,none⟩:Addr).add j)=some v:=by
 intro j v hv;rw [bH,Nat.zero_add]
 match j with
 | 0=>simp at hv;rw [<-hv];exact c0
 | 1=>simp at hv;rw [<-hv];exact c1
 | j+2=>simp at hv
theorem sF (d:cH)(p:aw)(j k t:Nat)(kd:Int)(en:am)(w:World)(h:Hid (bI w d p))(hn:p.CE.length<=1000)(hnl:p.CA.length<=1000)(hnc:p.Cy.length<=1000)(hk1:1<=kd)(hk4:kd<=4):
  Calls prog 168 #[dB d p,iN j k t kd,bC en] w fun e w' => ∃ d',e = .returned (.tuple #[dB d' (ee p j k t kd en).1,.bool (ee p j k t kd en).2])/\gz w w' d d' p (ee p j k t kd en).1/\Cx w w':=by
 unfold dB iN bC;obtain ⟨se,ab⟩:∃ se,aD en=se:=⟨_,rfl⟩;have aC:Hid (∀ u:World,Calls prog 169 #[.agg #[.int .i64 en.CB,.int .i64 en.side]] u fun e w'=>e = .returned (.agg #[.int .i64 se.CB,.int .i64 se.side])/\Cx u w'):=fun u=>by rw [<-ab];exact kh _ _ u
 go_enter func168,ntmps168
 go_upto_region 1 with fail
 generalize M:(fun i:Nat=>(#[Value.int .i64 p.start,.int .i64 p.stop,.bool p.ended,.slice d.a0 p.CE.length d.c0,.slice d.a1 p.CA.length d.c1,.slice d.a2 p.Cy.length d.c2]:Array Value).getD i (.bool false))=pf
 generalize hW:World.alloc (World.alloc (World.alloc (World.alloc w _) _) _) _=W;have ac:Hid (W.rowIs w.heap.size 94 6 pf):=by
  unfold Hid;rw [<-hW,<-M];exact (((cG w _ _).alloc _).alloc _).alloc _
 have aE:Hid (∃ f,W.rowIs (w.heap.size+1+1+1) 94 6 f):=by
  unfold Hid;rw [<-hW];obtain ⟨X,hX⟩:∃ X,X=World.alloc (World.alloc (World.alloc w (Obj.cells #[Value.int .i64 p.start,.int .i64 p.stop,.bool p.ended,.slice d.a0 p.CE.length d.c0,.slice d.a1 p.CA.length d.c1,.slice d.a2 p.Cy.length d.c2] 94)) (Obj.cells #[.int .i64 (j:Int),.int .i64 (k:Int),.int .i64 (t:Int),.iface (cj kd) (.agg #[])] 293)) (Obj.cells #[.int .i64 en.CB,.int .i64 en.side] 114):=⟨_,rfl⟩;have aR:X.heap.size=w.heap.size+1+1+1:=by rw [hX];simp
  have:=cG X #[.int .i64 0,.int .i64 0,.bool false,.slice none 0 0,.slice none 0 0,.slice none 0 0] 94;rw [aR,hX] at this;exact ⟨_,this⟩
 have aF:Cx w W:=by rw [<-hW];exact blo
 have q0:W.cell? ⟨w.heap.size+1,0,none⟩=some (.int .i64 (j:Int)):=by rw [<-hW];simp [go_sem]
 have q1:W.cell? ⟨w.heap.size+1,1,none⟩=some (.int .i64 (k:Int)):=by rw [<-hW];simp [go_sem]
 have q2:W.cell? ⟨w.heap.size+1,2,none⟩=some (.int .i64 (t:Int)):=by rw [<-hW];simp [go_sem]
 have q3:W.cell? ⟨w.heap.size+1,3,none⟩=some (.iface (cj kd) (.agg #[])):=by rw [<-hW];simp [go_sem]
 have e0:W.cell? ⟨w.heap.size+1+1,0,none⟩=some (.int .i64 en.CB):=by rw [<-hW];simp [go_sem]
 have e1:W.cell? ⟨w.heap.size+1+1,1,none⟩=some (.int .i64 en.side):=by rw [<-hW];simp [go_sem]
 have af:=aa aF;have a5:w.heap.size+1+1+1<W.heap.size:=by rw [<-hW];simp
 clear hW aF;have p3:W.cell? ⟨w.heap.size,3,none⟩=some (.slice d.a0 p.CE.length d.c0):=(ac.out.cell (i:=3) CG).trans (by rw [<-M];rfl)
 obtain ⟨S,hS⟩:∃ S:World->Prop,∀ u,S u↔Cx W u:=⟨_,fun _=>Iff.rfl⟩
 have C:=aa hS;have r0:∀ u:an S,World.cell? u.val ⟨w.heap.size+1+1,0,none⟩=some (.int .i64 en.CB):=fun u=>cell_later ((hS u.val).1 u.2) e0
 have r1:∀ u:an S,World.cell? u.val ⟨w.heap.size+1+1,1,none⟩=some (.int .i64 en.side):=fun u=>cell_later ((hS u.val).1 u.2) e1
 have r3:∀ u:an S,World.cell? u.val ⟨w.heap.size,3,none⟩=some (.slice d.a0 p.CE.length d.c0):=fun u=>cell_later ((hS u.val).1 u.2) p3
 have D:S W.drew:=(hS _).2 (CV.drew);have hne:=aQ D;clear hS
 go_cut [16] (fun _ wx => ∃ x y,wx.rowIs w.heap.size 94 6 (fun i=>if i=3 then .slice x (p.CE.length+1) y else pf i)/\wx.ownsRow W.heap.size 46 2 (.slice x (p.CE.length+1) y) (p.CE.length+1) (aG (p.CE++[se]))/\ag (fun k=>k=w.heap.size) W wx)
 case first =>
  refine bW 8 D ?_
  (refine ae 0 ?_;intro K hK;go_big_quiet_op;go_big_quiet_on);(refine ae 1 ?_;intro K hK;go_big_quiet_op;go_big_quiet_on)
  (refine ae 3 ?_;intro K hK;go_big_quiet_op;go_big_quiet_on)
  refine az 2 ?_
  ·intro K hK
   go_wp2_with (at_builtin;refine eu rfl (.tmp 11) 38 rfl 46 _ 2 16 underlying38 Tryz.infoStep rfl CJ d.a0 p.CE.length d.c0 (aG p.CE) rfl h.out.nil0 (eL _) (kz ((h.out.CE.below af.out).below (CV.drew))) (fT _) h.out.CE.1 CG ?_;intro x2 y2 w2 F c)
   have r:Cx W w2:=CV.drew.trans c;refine hK _ _ (ak ((C.out _).2 r)) ?_;clear hK K c;refine az 4 ?_;intro K hK
   go_wp2_with (go_at_call 169;refine (aC.out _).mono ?_;rintro e w3 ⟨rfl,N⟩)
   have B:Cx W w3:=r.trans (N.mono r.size);have aH:=aa (aq F N);refine hK _ _ (ak ((C.out _).2 B)) ?_;clear hK K N F;refine az 5 ?_;intro K hK
   go_wp2_with fail
   generalize hV:World.alloc w3 _=V;have m:Cx w3 V:=by rw [<-hV];exact CV.alloc CW _
   have q:Cx W V:=B.trans (m.mono B.size);have HO:=aa (aq aH.out m);have HC:Hid (V.cell? ⟨w3.heap.size,0,none⟩=some (.int .i64 se.CB)/\V.cell? ⟨w3.heap.size,1,none⟩=some (.int .i64 se.side)):=by
    unfold Hid;rw [<-hV];constructor <;> simp [go_sem]
   refine hK _ _ (ak ((C.out _).2 q)) ?_;clear hK K hV aH m;have aI:=q.size;refine az 6 ?_;intro K hK
   go_wp2_with (at_builtin;refine il rfl (.tmp 12) (.tmp 15) 38 rfl W.heap.size 46 _ 2 16 underlying38 Tryz.infoStep rfl CJ (.slice x2 p.CE.length y2) p.CE.length (aG p.CE) rfl HO.out ⟨w3.heap.size,0,none⟩ 1 1 [.int .i64 se.CB,.int .i64 se.side] rfl rfl (wV HC.out.1 HC.out.2) CL CK CG CG ?_;intro x6 y6 w6 z n;rw [eE] at z;have O:=aa z;have o:Cx W w6:=q.trans n;clear z n)
   refine hK _ _ (ak ((C.out _).2 o)) ?_;clear hK K
   (refine ae 7 ?_;intro K hK;go_big_quiet_op;go_big_quiet_on)
   refine a9 ?_;have E:=ac.out.of_block (o.block _ ac.out.lt);have s3:=E.cell (i:=3) CG
   have f3:=E.frozen 3;have aJ:=E.lt;have aS:=aa (E.set 3 (.slice x6 (p.CE.length+1) y6));clear r0 r1 r3 D hne E
   go_wp2_with fail
   go_meet
   exact ⟨x6,y6,aS.out,ownsRow_setCell_below O.out (a:=⟨w.heap.size,3,none⟩) CM _,(ag.of_below (S:=fun k=>k=w.heap.size) o).setCell (p:=⟨w.heap.size,3,none⟩) (Or.inl rfl) _⟩
 case rest =>
  obtain ⟨x,y,hr,ho,hO⟩:=hcut;have HO:=aa ho;have aK:Cx w wc:=af.out.trans (hO.below CG (fun k hk e=>CG))
  have s:=aa aK;replace q0:=hO.cell q0 (by show ¬ w.heap.size+1=w.heap.size;omega)
  replace q1:=hO.cell q1 (by show ¬ w.heap.size+1=w.heap.size;omega)
  replace q2:=hO.cell q2 (by show ¬ w.heap.size+1=w.heap.size;omega)
  replace q3:=hO.cell q3 (by show ¬ w.heap.size+1=w.heap.size;omega)
  obtain ⟨rf,ah⟩:=aE.out;have aj:=ah.of_block (hO.block _ ah.lt CG)
  have c0:wc.cell? ⟨w.heap.size,0,none⟩=some (.int .i64 p.start):=(hr.cell (i:=0) CG).trans (by rw [<-M];rfl)
  have c1:wc.cell? ⟨w.heap.size,1,none⟩=some (.int .i64 p.stop):=(hr.cell (i:=1) CG).trans (by rw [<-M];rfl)
  have c2:wc.cell? ⟨w.heap.size,2,none⟩=some (.bool p.ended):=(hr.cell (i:=2) CG).trans (by rw [<-M];rfl)
  have c3:wc.cell? ⟨w.heap.size,3,none⟩=some (.slice x (p.CE.length+1) y):=(hr.cell (i:=3) CG).trans CI
  have c4:wc.cell? ⟨w.heap.size,4,none⟩=some (.slice d.a1 p.CA.length d.c1):=(hr.cell (i:=4) CG).trans (by rw [<-M];rfl)
  have c5:wc.cell? ⟨w.heap.size,5,none⟩=some (.slice d.a2 p.Cy.length d.c2):=(hr.cell (i:=5) CG).trans (by rw [<-M];rfl)
  have J:=aa hr;have g:=aa aj;have a6:=hr.lt;have a7:=aj.lt;have a8:=hO.size;clear r0 r1 r3 D hne hr ho hO ah aj aE ac aK e0 e1 p3 C aC af;have hC:∀ u:World,(Instr.typeAssert (.iface (cj kd) (.agg #[])) 149 208 true).run prog u = .ok (.tuple #[.agg #[],.bool (decide (kd=4))]) u:=fun u=>isC u _ kd hk1 hk4
  have al:∀ u:World,(Instr.typeAssert (.iface (cj kd) (.agg #[])) 149 207 true).run prog u = .ok (.tuple #[.agg #[],.bool (decide (kd=3))]) u:=fun u=>isS u _ kd hk1 hk4
  generalize cj kd=kt at q3 hC al
  by_cases A:kd=4
  ·rw [decide_eq_true A] at hC;have HE:Hid (ee p j k t kd en=({ p with CE:=p.CE++[se],Cy:=p.Cy++[(j:Int)] },true)):=by
    unfold Hid ee;rw [ab,if_pos A]
   clear A
   go_upto_region 4 with fail
   obtain ⟨S4,hS⟩:∃ S:World->Prop,∀ u,S u↔Cx wc u:=⟨_,fun _=>Iff.rfl⟩
   have C:=aa hS;have r0:∀ u:an S4,World.cell? u.val ⟨w.heap.size+1,0,none⟩=some (.int .i64 (j:Int)):=fun u=>cell_later ((hS u.val).1 u.2) q0
   have r3:∀ u:an S4,World.cell? u.val ⟨w.heap.size,5,none⟩=some (.slice d.a2 p.Cy.length d.c2):=fun u=>cell_later ((hS u.val).1 u.2) c5
   have D:S4 wc.drew:=(hS _).2 (CV.drew);have hne:=aQ D;clear hS;refine ic (fun w' => ∃ u:an S4,w'=u.val) 8 CH CH (ak D) ?_
   (refine ae 0 ?_;intro K hK;go_big_quiet_op;go_big_quiet_on);(refine ae 1 ?_;intro K hK;go_big_quiet_op;go_big_quiet_on)
   (refine ae 3 ?_;intro K hK;go_big_quiet_op;go_big_quiet_on);(refine ae 4 ?_;intro K hK;go_big_quiet_op;go_big_quiet_on)
   refine fh 2 5 (by rfl) (by rfl) CH CH CH ?za0 ?zb0
   case' za0 =>
    intro K hK
    go_wp2_with (at_builtin;refine eu rfl (.tmp 24) 40 rfl 3 _ 1 8 underlying40 Tryz.infoInt rfl CJ d.a2 p.Cy.length d.c2 (bP p.Cy) rfl h.out.nil2 (gS _) (sM ((h.out.Cy.below s.out).below (CV.drew))) (kD _) h.out.Cy.1 CG ?_;intro x2 y2 w2 F c)
    have r:Cx wc w2:=CV.drew.trans c;refine hK _ _ (ak ((C.out _).2 r)) ?_;clear hK K c;refine az 5 ?_;intro K hK
    go_wp2_with fail
    generalize hV:World.alloc w2 _=V;have m:Cx w2 V:=by rw [<-hV];exact CV.alloc CW _
    have q:Cx wc V:=r.trans (m.mono r.size);have R:=aa (aq F m);have L:Hid (V.cell? ⟨w2.heap.size,0,none⟩=some (.int .i64 (j:Int))):=by
     unfold Hid;rw [<-hV];simp [go_sem]
    refine hK _ _ (ak ((C.out _).2 q)) ?_;clear hK K hV F m;have aI:=q.size;refine az 6 ?_;intro K hK
    go_wp2_with (at_builtin;refine il rfl (.tmp 25) (.tmp 28) 40 rfl wc.heap.size 3 _ 1 8 underlying40 Tryz.infoInt rfl CJ (.slice x2 p.Cy.length y2) p.Cy.length (bP p.Cy) rfl R.out ⟨w2.heap.size,0,none⟩ 1 1 [.int .i64 (j:Int)] rfl rfl (AY L.out) CL CK CG CG ?_;intro x6 y6 w6 z n;rw [jz p.Cy (j:Int)] at z;have O:=aa z;have o:Cx wc w6:=q.trans n;clear z n)
   case' zb0 =>
    intro K hK
    go_wp2_with fail
    generalize hV:World.drew (World.alloc wc _)=V;have q:Cx wc V:=by rw [<-hV];exact CU.drew
    have Y:Hid (V.cell? ⟨wc.heap.size,0,none⟩=some (.int .i64 (j:Int))):=by
     unfold Hid;rw [<-hV];simp [go_sem]
    refine hK _ _ (ak ((C.out _).2 q)) ?_;clear hK K hV;refine az 2 ?_;intro K hK
    go_wp2_with (at_builtin;refine eu rfl (.tmp 24) 40 rfl 3 _ 1 8 underlying40 Tryz.infoInt rfl CJ d.a2 p.Cy.length d.c2 (bP p.Cy) rfl h.out.nil2 (gS _) (sM ((h.out.Cy.below s.out).below q)) (kD _) h.out.Cy.1 CG ?_;intro x2 y2 w2 F c)
    have r:Cx wc w2:=q.trans (c.mono q.size);have R:=aa (aW F q.size);have L:Hid (w2.cell? ⟨wc.heap.size,0,none⟩=some (.int .i64 (j:Int))):=cell_later c Y.out;refine hK _ _ (ak ((C.out _).2 r)) ?_;clear hK K c F Y q;have aT:=r.size;refine az 6 ?_;intro K hK
    go_wp2_with (at_builtin;refine il rfl (.tmp 25) (.tmp 28) 40 rfl wc.heap.size 3 _ 1 8 underlying40 Tryz.infoInt rfl CJ (.slice x2 p.Cy.length y2) p.Cy.length (bP p.Cy) rfl R.out ⟨wc.heap.size,0,none⟩ 1 1 [.int .i64 (j:Int)] rfl rfl (AY L.out) CL CK CG CG ?_;intro x6 y6 w6 z n;rw [jz p.Cy (j:Int)] at z;have O:=aa z;have o:Cx wc w6:=r.trans n;clear z n)
   all_goals
    refine hK _ _ (ak ((C.out _).2 o)) ?_;clear hK K
    (refine ae 7 ?_;intro K hK;go_big_quiet_op;go_big_quiet_on)
    refine a9 ?_;have E:=J.out.of_block (o.block _ J.out.lt);have l:=g.out.of_block (o.block _ g.out.lt);have s5:=E.cell (i:=5) CG
    have ba:=E.frozen 5;have aJ:=E.lt;have aU:=l.lt;replace c0:=cell_later o c0;replace c1:=cell_later o c1;replace c2:=cell_later o c2;replace c3:=cell_later o c3;replace c4:=cell_later o c4;have g0:=l.cell (i:=0) CG
    have g1:=l.cell (i:=1) CG
    have g2:=l.cell (i:=2) CG
    have g3:=l.cell (i:=3) CG
    have g4:=l.cell (i:=4) CG
    have g5:=l.cell (i:=5) CG
    have f0:=l.frozen 0;have f1:=l.frozen 1;have f2:=l.frozen 2;have f3:=l.frozen 3;have f4:=l.frozen 4;have f5:=l.frozen 5;have ao:=aa (kN (l.setOther (a:=⟨w.heap.size,5,none⟩) CR (.slice x6 (p.Cy.length+1) y6)) (.int .i64 p.start) (.int .i64 p.stop) (.bool p.ended) (.slice x (p.CE.length+1) y) (.slice d.a1 p.CA.length d.c1) (.slice x6 (p.Cy.length+1) y6))
    have ap:=aa (iV (ownsRow_setCell_below (aq HO.out o) (a:=⟨w.heap.size,5,none⟩) CM (.slice x6 (p.Cy.length+1) y6)) (b:=w.heap.size+1+1+1) CG (.int .i64 p.start) (.int .i64 p.stop) (.bool p.ended) (.slice x (p.CE.length+1) y) (.slice d.a1 p.CA.length d.c1) (.slice x6 (p.Cy.length+1) y6))
    have ar:=aa (iV (ownsRow_setCell_below O.out (a:=⟨w.heap.size,5,none⟩) CM (.slice x6 (p.Cy.length+1) y6)) (b:=w.heap.size+1+1+1) CG (.int .i64 p.start) (.int .i64 p.stop) (.bool p.ended) (.slice x (p.CE.length+1) y) (.slice d.a1 p.CA.length d.c1) (.slice x6 (p.Cy.length+1) y6))
    have au:=aa (ks ((s.out.trans (o.mono s.out.size)).setCell (p:=⟨w.heap.size,5,none⟩) CW (.slice x6 (p.Cy.length+1) y6)) (b:=w.heap.size+1+1+1) CG (.int .i64 p.start) (.int .i64 p.stop) (.bool p.ended) (.slice x (p.CE.length+1) y) (.slice d.a1 p.CA.length d.c1) (.slice x6 (p.Cy.length+1) y6))
    clear r0 r3 D hne E l c5
    go_wp2_with fail
    obtain ⟨k0,k1,k2,k3,k4,k5⟩:=ao.out;unfold six at k0 k1 k2 k3 k4 k5;exact bodyPost_ret (v:=.tuple #[.agg #[.int .i64 p.start,.int .i64 p.stop,.bool p.ended,.slice x (p.CE.length+1) y,.slice d.a1 p.CA.length d.c1,.slice x6 (p.Cy.length+1) y6],.bool true]) (by simp [results,results168,go_sem,k0,k1,k2,k3,k4,k5]) rfl ⟨⟨x,y,d.a1,d.c1,x6,y6⟩,by rw [HE.out];simp,by rw [HE.out];exact gz.grow3 (by have h2:=s.out.size;omega) (by have h2:=s.out.size;omega) ap.out ar.out,au.out⟩
  ·by_cases G:kd=3
   ·rw [decide_eq_false A] at hC;rw [decide_eq_true G] at al;obtain ⟨lf,aL⟩:∃ lf,ce p.CA j=lf:=⟨_,rfl⟩;have HX:Hid (ee p j k t kd en=if lf≠0 then ({ p with CE:=p.CE++[se] },decide (lf=(max k t:Nat))) else ({ p with CE:=p.CE++[se],CA:=p.CA++[⟨j,(max k t:Nat)⟩] },true)):=by
     unfold Hid ee;rw [ab,if_neg A,if_pos G,aL]
    have av:Hid (∀ u:World,Calls prog 176 #[.agg #[.int .i64 (j:Int),.int .i64 (k:Int),.int .i64 (t:Int),.iface kt (.agg #[])]] u fun e w'=>e = .returned (.agg #[.int .i64 (j:Int),.int .i64 ((max k t:Nat):Int)])/\Cx u w'):=fun u=>Bc j k t _ u
    have aM:Hid (∀ u:World,Cx w u->Calls prog 177 #[.slice d.a1 p.CA.length d.c1,.int .i64 (j:Int)] u fun e w'=>e = .returned (.int .i64 lf)/\Cx u w'):=fun u hu=>by
     rw [<-aL];exact qY _ _ p.CA (j:Int) u (h.out.CA.below hu)
    generalize max k t=mx at HX av;clear A G
    go_upto_region 7 with (go_at_call 176;refine (av.out _).mono ?_;rintro e w2 ⟨rfl,r⟩)
    generalize hV:World.alloc w2 _=V;have m:Cx w2 V:=by rw [<-hV];exact CV.alloc CW _
    have H:Cx wc V:=r.trans (m.mono r.size);have z0:V.cell? ⟨w2.heap.size,0,none⟩=some (.int .i64 (j:Int)):=by rw [<-hV];simp [go_sem]
    have z1:V.cell? ⟨w2.heap.size,1,none⟩=some (.int .i64 (mx:Int)):=by rw [<-hV];simp [go_sem]
    have aN:=ai z0;dsimp only at aN;have aV:=r.size;generalize w2.heap.size=Lb at z0 z1 aN aV ⊢;have aO:=aa (aq HO.out H);have T:=aa (J.out.of_block (H.block _ J.out.lt));have U:=aa (g.out.of_block (H.block _ g.out.lt));have ad:=aa (s.out.trans (H.mono s.out.size));have aP:=aa (aM.out V ad.out);replace c0:=cell_later H c0;replace c1:=cell_later H c1;replace c2:=cell_later H c2;replace c3:=cell_later H c3;replace c4:=cell_later H c4;replace c5:=cell_later H c5;have bb:=H.size;clear hV r H m av aM HO J g s q0 q1 q2 q3
    go_upto_region 8 with (go_at_call 177;refine aP.out.mono ?_;rintro e w3 ⟨rfl,B⟩)
    replace z0:=cell_later B z0;replace z1:=cell_later B z1;replace c0:=cell_later B c0;replace c1:=cell_later B c1;replace c2:=cell_later B c2;replace c3:=cell_later B c3;replace c4:=cell_later B c4;replace c5:=cell_later B c5;have HO:=aa (aq aO.out B);have J:=aa (T.out.of_block (B.block _ T.out.lt));have g:=aa (U.out.of_block (B.block _ U.out.lt));have s:=aa (ad.out.trans (B.mono ad.out.size));have bc:=B.size;have aX:Lb<w3.heap.size:=CG
    have aY:=J.out.lt;have aZ:=g.out.lt;clear B aO T U ad aP
    by_cases Z:lf=0
    ·have HE:Hid (ee p j k t kd en=({ p with CE:=p.CE++[se],CA:=p.CA++[⟨(j:Int),(mx:Int)⟩] },true)):=by unfold Hid;rw [HX.out,if_neg (by simpa using Z)]
     clear HX;subst Z
     go_upto_region 10 with fail
     obtain ⟨S,hS⟩:∃ S:World->Prop,∀ u,S u↔Cx w3 u:=⟨_,fun _=>Iff.rfl⟩
     have C:=aa hS;have r0:∀ u:an S,World.cell? u.val ⟨Lb,0,none⟩=some (.int .i64 (j:Int)):=fun u=>cell_later ((hS u.val).1 u.2) z0
     have r1:∀ u:an S,World.cell? u.val ⟨Lb,1,none⟩=some (.int .i64 (mx:Int)):=fun u=>cell_later ((hS u.val).1 u.2) z1
     have r3:∀ u:an S,World.cell? u.val ⟨w.heap.size,4,none⟩=some (.slice d.a1 p.CA.length d.c1):=fun u=>cell_later ((hS u.val).1 u.2) c4
     have D:S w3.drew:=(hS _).2 (CV.drew);have hne:=aQ D;clear hS;refine bW 7 D ?_
     (refine ae 0 ?_;intro K hK;go_big_quiet_op;go_big_quiet_on);(refine ae 1 ?_;intro K hK;go_big_quiet_op;go_big_quiet_on)
     (refine ae 3 ?_;intro K hK;go_big_quiet_op;go_big_quiet_on)
     refine fh 2 4 (by rfl) (by rfl) CH CH CH ?za1 ?zb1
     case' za1 =>
      intro K hK
      go_wp2_with (at_builtin;refine eu rfl (.tmp 49) 39 rfl 52 _ 2 16 underlying39 Tryz.infoLie rfl CJ d.a1 p.CA.length d.c1 (aG p.CA) rfl h.out.nil1 (eL _) (kz ((h.out.CA.below s.out).below (CV.drew))) (fT _) h.out.CA.1 CG ?_;intro x2 y2 w2 F c)
      have r:Cx w3 w2:=CV.drew.trans c;refine hK _ _ (ak ((C.out _).2 r)) ?_;clear hK K c;refine az 4 ?_;intro K hK
      go_wp2_with fail
      generalize hV:World.alloc w2 _=V;have m:Cx w2 V:=by rw [<-hV];exact CV.alloc CW _
      have q:Cx w3 V:=r.trans (m.mono r.size);have R:=aa (aq F m);have L:Hid (V.cell? ⟨w2.heap.size,0,none⟩=some (.int .i64 (j:Int))/\V.cell? ⟨w2.heap.size,1,none⟩=some (.int .i64 (mx:Int))):=by
       unfold Hid;rw [<-hV];constructor <;> simp [go_sem]
      refine hK _ _ (ak ((C.out _).2 q)) ?_;clear hK K hV F m;have aI:=q.size;refine az 5 ?_;intro K hK
      go_wp2_with (at_builtin;refine il rfl (.tmp 50) (.tmp 52) 39 rfl w3.heap.size 52 _ 2 16 underlying39 Tryz.infoLie rfl CJ (.slice x2 p.CA.length y2) p.CA.length (aG p.CA) rfl R.out ⟨w2.heap.size,0,none⟩ 1 1 [.int .i64 (j:Int),.int .i64 (mx:Int)] rfl rfl (wV L.out.1 L.out.2) CL CK CG CG ?_;intro x6 y6 w6 z n;rw [eE p.CA ⟨(j:Int),(mx:Int)⟩] at z;have O:=aa z;have o:Cx w3 w6:=q.trans n;clear z n)
     case' zb1 =>
      intro K hK
      go_wp2_with fail
      generalize hV:World.drew (World.alloc w3 _)=V;have q:Cx w3 V:=by rw [<-hV];exact CU.drew
      have Y:Hid (V.cell? ⟨w3.heap.size,0,none⟩=some (.int .i64 (j:Int))/\V.cell? ⟨w3.heap.size,1,none⟩=some (.int .i64 (mx:Int))):=by
       unfold Hid;rw [<-hV];constructor <;> simp [go_sem]
      refine hK _ _ (ak ((C.out _).2 q)) ?_;clear hK K hV;refine az 2 ?_;intro K hK
      go_wp2_with (at_builtin;refine eu rfl (.tmp 49) 39 rfl 52 _ 2 16 underlying39 Tryz.infoLie rfl CJ d.a1 p.CA.length d.c1 (aG p.CA) rfl h.out.nil1 (eL _) (kz ((h.out.CA.below s.out).below q)) (fT _) h.out.CA.1 CG ?_;intro x2 y2 w2 F c)
      have r:Cx w3 w2:=q.trans (c.mono q.size);have R:=aa (aW F q.size);have L:Hid (w2.cell? ⟨w3.heap.size,0,none⟩=some (.int .i64 (j:Int))/\w2.cell? ⟨w3.heap.size,1,none⟩=some (.int .i64 (mx:Int))):=⟨cell_later c Y.out.1,cell_later c Y.out.2⟩;refine hK _ _ (ak ((C.out _).2 r)) ?_;clear hK K c F Y q;have aT:=r.size;refine az 5 ?_;intro K hK
      go_wp2_with (at_builtin;refine il rfl (.tmp 50) (.tmp 52) 39 rfl w3.heap.size 52 _ 2 16 underlying39 Tryz.infoLie rfl CJ (.slice x2 p.CA.length y2) p.CA.length (aG p.CA) rfl R.out ⟨w3.heap.size,0,none⟩ 1 1 [.int .i64 (j:Int),.int .i64 (mx:Int)] rfl rfl (wV L.out.1 L.out.2) CL CK CG CG ?_;intro x6 y6 w6 z n;rw [eE p.CA ⟨(j:Int),(mx:Int)⟩] at z;have O:=aa z;have o:Cx w3 w6:=r.trans n;clear z n)
     all_goals
      refine hK _ _ (ak ((C.out _).2 o)) ?_;clear hK K
      (refine ae 6 ?_;intro K hK;go_big_quiet_op;go_big_quiet_on)
      refine a9 ?_;have E:=J.out.of_block (o.block _ J.out.lt);have l:=g.out.of_block (o.block _ g.out.lt);have s4:=E.cell (i:=4) CG
      have bd:=E.frozen 4;have aJ:=E.lt;have aU:=l.lt;replace c0:=cell_later o c0;replace c1:=cell_later o c1;replace c2:=cell_later o c2;replace c3:=cell_later o c3;replace c5:=cell_later o c5;have g0:=l.cell (i:=0) CG
      have g1:=l.cell (i:=1) CG
      have g2:=l.cell (i:=2) CG
      have g3:=l.cell (i:=3) CG
      have g4:=l.cell (i:=4) CG
      have g5:=l.cell (i:=5) CG
      have f0:=l.frozen 0;have f1:=l.frozen 1;have f2:=l.frozen 2;have f3:=l.frozen 3;have f4:=l.frozen 4;have f5:=l.frozen 5;have ao:=aa (kN (l.setOther (a:=⟨w.heap.size,4,none⟩) CR (.slice x6 (p.CA.length+1) y6)) (.int .i64 p.start) (.int .i64 p.stop) (.bool p.ended) (.slice x (p.CE.length+1) y) (.slice x6 (p.CA.length+1) y6) (.slice d.a2 p.Cy.length d.c2))
      have ap:=aa (iV (ownsRow_setCell_below (aq HO.out o) (a:=⟨w.heap.size,4,none⟩) CM (.slice x6 (p.CA.length+1) y6)) (b:=w.heap.size+1+1+1) CG (.int .i64 p.start) (.int .i64 p.stop) (.bool p.ended) (.slice x (p.CE.length+1) y) (.slice x6 (p.CA.length+1) y6) (.slice d.a2 p.Cy.length d.c2))
      have ar:=aa (iV (ownsRow_setCell_below O.out (a:=⟨w.heap.size,4,none⟩) CM (.slice x6 (p.CA.length+1) y6)) (b:=w.heap.size+1+1+1) CG (.int .i64 p.start) (.int .i64 p.stop) (.bool p.ended) (.slice x (p.CE.length+1) y) (.slice x6 (p.CA.length+1) y6) (.slice d.a2 p.Cy.length d.c2))
      have au:=aa (ks ((s.out.trans (o.mono s.out.size)).setCell (p:=⟨w.heap.size,4,none⟩) CW (.slice x6 (p.CA.length+1) y6)) (b:=w.heap.size+1+1+1) CG (.int .i64 p.start) (.int .i64 p.stop) (.bool p.ended) (.slice x (p.CE.length+1) y) (.slice x6 (p.CA.length+1) y6) (.slice d.a2 p.Cy.length d.c2))
      clear r0 r1 r3 D hne E l z0 z1 c4
      go_wp2_with fail
      obtain ⟨k0,k1,k2,k3,k4,k5⟩:=ao.out;unfold six at k0 k1 k2 k3 k4 k5;exact bodyPost_ret (v:=.tuple #[.agg #[.int .i64 p.start,.int .i64 p.stop,.bool p.ended,.slice x (p.CE.length+1) y,.slice x6 (p.CA.length+1) y6,.slice d.a2 p.Cy.length d.c2],.bool true]) (by simp [results,results168,go_sem,k0,k1,k2,k3,k4,k5]) rfl ⟨⟨x,y,x6,y6,d.a2,d.c2⟩,by rw [HE.out];simp,by rw [HE.out];exact gz.grow2 (by have h2:=s.out.size;omega) (by have h2:=s.out.size;omega) ap.out ar.out,au.out⟩
    ·have HE:Hid (ee p j k t kd en=({ p with CE:=p.CE++[se] },decide (lf=(mx:Int)))):=by unfold Hid;rw [HX.out,if_pos Z]
     have be:(lf != 0)=true:=by simpa using Z
     have g0:=g.out.cell (i:=0) CG
     have g1:=g.out.cell (i:=1) CG
     have g2:=g.out.cell (i:=2) CG
     have g3:=g.out.cell (i:=3) CG
     have g4:=g.out.cell (i:=4) CG
     have g5:=g.out.cell (i:=5) CG
     have f0:=g.out.frozen 0;have f1:=g.out.frozen 1;have f2:=g.out.frozen 2;have f3:=g.out.frozen 3;have f4:=g.out.frozen 4;have f5:=g.out.frozen 5;have ax:=aa (kN g.out (.int .i64 p.start) (.int .i64 p.stop) (.bool p.ended) (.slice x (p.CE.length+1) y) (.slice d.a1 p.CA.length d.c1) (.slice d.a2 p.Cy.length d.c2));have ay:=aa (iV HO.out (b:=w.heap.size+1+1+1) CG (.int .i64 p.start) (.int .i64 p.stop) (.bool p.ended) (.slice x (p.CE.length+1) y) (.slice d.a1 p.CA.length d.c1) (.slice d.a2 p.Cy.length d.c2))
     have aA:=aa (ks s.out (b:=w.heap.size+1+1+1) CG (.int .i64 p.start) (.int .i64 p.stop) (.bool p.ended) (.slice x (p.CE.length+1) y) (.slice d.a1 p.CA.length d.c1) (.slice d.a2 p.Cy.length d.c2))
     clear HX Z
     go_upto_region 9 with fail
     obtain ⟨S9,I⟩:∃ S:World->Prop,∀ u,S u↔ag (fun k=>k=w.heap.size+1+1+1) w3 u:=⟨_,fun _=>Iff.rfl⟩
     have a3:=aa I;have r6:∀ u:an S9,World.cell? u.val ⟨Lb,1,none⟩=some (.int .i64 (mx:Int)):=fun u=>((I u.val).1 u.2).cell z1 (by show ¬ Lb=w.heap.size+1+1+1;omega)
     have r0:∀ u:an S9,World.cell? u.val ⟨w.heap.size,0,none⟩=some (.int .i64 p.start):=fun u=>((I u.val).1 u.2).cell c0 (by show ¬ w.heap.size=w.heap.size+1+1+1;omega)
     have r1:∀ u:an S9,World.cell? u.val ⟨w.heap.size,1,none⟩=some (.int .i64 p.stop):=fun u=>((I u.val).1 u.2).cell c1 (by show ¬ w.heap.size=w.heap.size+1+1+1;omega)
     have r2:∀ u:an S9,World.cell? u.val ⟨w.heap.size,2,none⟩=some (.bool p.ended):=fun u=>((I u.val).1 u.2).cell c2 (by show ¬ w.heap.size=w.heap.size+1+1+1;omega)
     have r3:∀ u:an S9,World.cell? u.val ⟨w.heap.size,3,none⟩=some (.slice x (p.CE.length+1) y):=fun u=>((I u.val).1 u.2).cell c3 (by show ¬ w.heap.size=w.heap.size+1+1+1;omega)
     have r4:∀ u:an S9,World.cell? u.val ⟨w.heap.size,4,none⟩=some (.slice d.a1 p.CA.length d.c1):=fun u=>((I u.val).1 u.2).cell c4 (by show ¬ w.heap.size=w.heap.size+1+1+1;omega)
     have r5:∀ u:an S9,World.cell? u.val ⟨w.heap.size,5,none⟩=some (.slice d.a2 p.Cy.length d.c2):=fun u=>((I u.val).1 u.2).cell c5 (by show ¬ w.heap.size=w.heap.size+1+1+1;omega)
     have D:S9 w3.drew:=(I _).2 (ag.refl _ _).drew;have hne:=aQ D;clear I;refine ic (fun w' => ∃ u:an S9,w'=u.val) 6 CH CH (ak D) ?_
     (refine ae 0 ?_;intro K hK;go_big_quiet_op;go_big_quiet_on);(refine ae 1 ?_;intro K hK;go_big_quiet_op;go_big_quiet_on);(refine ae 2 ?_;intro K hK;go_big_quiet_op;go_big_quiet_on);(refine ae 3 ?_;intro K hK;go_big_quiet_op;go_big_quiet_on);(refine ae 4 ?_;intro K hK;go_big_quiet_op;go_big_quiet_on)
     refine az 5 ?_;intro K hK
     go_wp2_with fail
     have aB:S9 (World.drew (six w3 (w.heap.size+1+1+1) (.int .i64 p.start) (.int .i64 p.stop) (.bool p.ended) (.slice x (p.CE.length+1) y) (.slice d.a1 p.CA.length d.c1) (.slice d.a2 p.Cy.length d.c2))):=(a3.out _).2 (AK _ _ _ _ _ _ _ _).drew;unfold six at aB;refine hK _ _ (ak aB) ?_;clear hK K r0 r1 r2 r3 r4 r5 r6 D aB hne;refine a9 ?_
     go_wp2_with fail
     obtain ⟨k0,k1,k2,k3,k4,k5⟩:=ax.out;unfold six at k0 k1 k2 k3 k4 k5;have a4:=xI lf (mx:Int);rw [a4];exact bodyPost_ret (v:=.tuple #[.agg #[.int .i64 p.start,.int .i64 p.stop,.bool p.ended,.slice x (p.CE.length+1) y,.slice d.a1 p.CA.length d.c1,.slice d.a2 p.Cy.length d.c2],.bool (decide (lf=(mx:Int)))]) (by simp [results,results168,go_sem,k0,k1,k2,k3,k4,k5]) rfl ⟨⟨x,y,d.a1,d.c1,d.a2,d.c2⟩,by rw [HE.out];simp,by rw [HE.out];exact gz.grow (by have h2:=s.out.size;omega) (re ay.out),aA.out.drew⟩
   ·have HX:Hid (ee p j k t kd en=({ p with CE:=p.CE++[se] },true)):=by
     unfold Hid ee;rw [ab,if_neg A,if_neg G]
    rw [decide_eq_false A] at hC;rw [decide_eq_false G] at al;have g0:=g.out.cell (i:=0) CG
    have g1:=g.out.cell (i:=1) CG
    have g2:=g.out.cell (i:=2) CG
    have g3:=g.out.cell (i:=3) CG
    have g4:=g.out.cell (i:=4) CG
    have g5:=g.out.cell (i:=5) CG
    have f0:=g.out.frozen 0;have f1:=g.out.frozen 1;have f2:=g.out.frozen 2;have f3:=g.out.frozen 3;have f4:=g.out.frozen 4;have f5:=g.out.frozen 5;clear A G;have K6:=kN g.out (.int .i64 p.start) (.int .i64 p.stop) (.bool p.ended) (.slice x (p.CE.length+1) y) (.slice d.a1 p.CA.length d.c1) (.slice d.a2 p.Cy.length d.c2);have ay:=aa (iV HO.out (b:=w.heap.size+1+1+1) CG (.int .i64 p.start) (.int .i64 p.stop) (.bool p.ended) (.slice x (p.CE.length+1) y) (.slice d.a1 p.CA.length d.c1) (.slice d.a2 p.Cy.length d.c2))
    have aA:=aa (ks s.out (b:=w.heap.size+1+1+1) CG (.int .i64 p.start) (.int .i64 p.stop) (.bool p.ended) (.slice x (p.CE.length+1) y) (.slice d.a1 p.CA.length d.c1) (.slice d.a2 p.Cy.length d.c2))
    have ax:=aa K6;clear K6
    go_wp2_with fail
    obtain ⟨k0,k1,k2,k3,k4,k5⟩:=ax.out;unfold six at k0 k1 k2 k3 k4 k5;exact bodyPost_ret (v:=.tuple #[.agg #[.int .i64 p.start,.int .i64 p.stop,.bool p.ended,.slice x (p.CE.length+1) y,.slice d.a1 p.CA.length d.c1,.slice d.a2 p.Cy.length d.c2],.bool true]) (by simp [results,results168,go_sem,k0,k1,k2,k3,k4,k5]) rfl ⟨⟨x,y,d.a1,d.c1,d.a2,d.c2⟩,by rw [HX.out];simp,by rw [HX.out];exact gz.grow (by have h2:=s.out.size;omega) ay.out,aA.out⟩
theorem xQ {js:List aj}{q:aw}{j k t:Nat}(h:dD js p j k t=some q):ee p j k t (aH js j) (aY js j t)=(q,true):=by
 unfold dD at h;unfold ee;dsimp only at h ⊢
 by_cases h4:aH js j=4
 ·rw [if_pos h4] at h ⊢;injection h with h;rw [h]
 ·rw [if_neg h4] at h ⊢
  by_cases h3:aH js j=3
  ·rw [if_pos h3] at h ⊢
   by_cases hl:ce p.CA j≠0
   ·rw [if_pos hl] at h ⊢
    by_cases hm:ce p.CA j=(max k t:Nat)
    ·rw [if_pos hm] at h;injection h with h;rw [h,decide_eq_true hm]
    ·rw [if_neg hm] at h;exact absurd h CI
   ·rw [if_neg hl] at h ⊢;injection h with h;rw [h]
  ·rw [if_neg h3] at h ⊢;injection h with h;rw [h]
theorem xd {js:List aj}{j k t:Nat}(h:dD js p j k t=none):(ee p j k t (aH js j) (aY js j t)).2=false:=by
 unfold dD at h;unfold ee;dsimp only at h ⊢
 by_cases h4:aH js j=4
 ·rw [if_pos h4] at h;exact absurd h CI
 ·rw [if_neg h4] at h ⊢
  by_cases h3:aH js j=3
  ·rw [if_pos h3] at h ⊢
   by_cases hl:ce p.CA j≠0
   ·rw [if_pos hl] at h ⊢
    by_cases hm:ce p.CA j=(max k t:Nat)
    ·rw [if_pos hm] at h;exact absurd h CI
    ·exact decide_eq_false hm
   ·rw [if_neg hl] at h;exact absurd h CI
  ·rw [if_neg h3] at h;exact absurd h CI
def i5 (k:Int):Nat:=if k=1 then 216 else if k=2 then 218 else if k=3 then 220 else 222
theorem BL (w : World) : (method 448 205 (.agg #[]) "loop.example/lockbar/impl.beyond").run prog w = .ok (216, .agg #[]) w := by kernel_rfl
theorem A6 (w : World) : (method 448 206 (.agg #[]) "loop.example/lockbar/impl.beyond").run prog w = .ok (218, .agg #[]) w := by kernel_rfl
theorem A9 (w : World) : (method 448 207 (.agg #[]) "loop.example/lockbar/impl.beyond").run prog w = .ok (220, .agg #[]) w := by kernel_rfl
theorem Be (w : World) : (method 448 208 (.agg #[]) "loop.example/lockbar/impl.beyond").run prog w = .ok (222, .agg #[]) w := by kernel_rfl
theorem vg (k : Int) (h1 : 1 <= k) (h4 : k <= 4) (w : World) : (method 448 (cj k) (.agg #[]) "loop.example/lockbar/impl.beyond").run prog w = .ok (i5 k, .agg #[]) w := by
 have:k=1\/k=2\/k=3\/k=4:=CG
 rcases this with rfl | rfl | rfl | rfl
 ·exact BL w
 ·exact A6 w
 ·exact A9 w
 ·exact Be w
theorem Cc:bits BinOp.xor IntKind.i64 0 1=1:=CH
theorem B7:bits BinOp.xor IntKind.i64 1 1=0:=CH
theorem BU:bits BinOp.xor IntKind.i64 2 1=3:=CH
theorem BV:bits BinOp.xor IntKind.i64 3 1=2:=CH
theorem uB (k:Int)(args:Array Value)(w:World):(callFunc (i5 k) args).run prog w = .ok (.enter (i5 k) args) w:=by
 unfold i5
 split
 ·kernel_rfl
 ·split
  ·kernel_rfl
  ·split <;> kernel_rfl
def gb (w:World)(L:List Nat)(e:Ending)(w':World):Prop := ∃ a c,e = .returned (.slice a L.length c)/\bV w' a (L.map Int.ofNat)/\(∀ x,a=some x->w.heap.size<=x.block)/\Cx w w'
theorem pA {x:Nat}(h:w.cell? ⟨b,0,none⟩=some (.int .i64 (x:Int))):bV w (some ⟨b,0,none⟩) ([x].map Int.ofNat):=
 ⟨by unfold maxLen;simp,Or.inr ⟨b,0,rfl,fun i hi=>by
  have:i=0:=by simpa using hi
  subst this;exact h⟩⟩
theorem Ao {x:Nat}(h:w.cell? ⟨b,0,none⟩=some (.int .i64 (x:Int)))(h':w.cell? ⟨b,1,none⟩=some (.int .i64 (y:Int))):bV w (some ⟨b,0,none⟩) ([x,y].map Int.ofNat):=
 ⟨by unfold maxLen;simp,Or.inr ⟨b,0,rfl,fun i hi=>by
  have:i=0\/i=1:=by simp at hi;omega
  rcases this with rfl | rfl
  ·exact h
  ·exact h'⟩⟩
theorem zX (pl:Nat)(w:World):Calls prog 216 #[.agg #[],.int .i64 pl] w (gb w []):=by
 go_enter func216,ntmps216
 go_wp2_with fail
 exact bodyPost_ret (v:=.slice none 0 0) (by simp [results,results216,go_sem]) rfl ⟨none,0,rfl,⟨CI,Or.inl rfl⟩,CI,blo⟩
theorem Ae (pl:Nat)(hpl:pl<=1)(w:World):Calls prog 218 #[.agg #[],.int .i64 pl] w (gb w [1-pl]):=by
 have hx:(1:Int)-pl=((1-pl:Nat):Int):=CG
 go_enter func218,ntmps218
 go_wp2_with fail
 refine bodyPost_ret (v:=.slice (some ⟨w.heap.size+1,0,none⟩) 1 1) (by simp [results,results218,go_sem]) rfl ⟨_,1,rfl,pA CO,(fun x hx=>by cases hx;simp),blo⟩
theorem zN (w:World):Calls prog 220 #[.agg #[],.int .i64 0] w (gb w [1,2]):=by
 go_enter func220,ntmps220
 go_wp2_with fail
 refine bodyPost_ret (v:=.slice (some ⟨w.heap.size+1,0,none⟩) 2 2) (by simp [results,results220,go_sem]) rfl ⟨_,2,rfl,Ao CO CO,(fun x hx=>by cases hx;simp),blo⟩
theorem yQ (pl:Nat)(hpl:pl≠0)(w:World):Calls prog 220 #[.agg #[],.int .i64 pl] w (gb w [0]):=by
 have hx:((pl:Int)==0)=false:=CN
 go_enter func220,ntmps220
 go_wp2_with fail
 refine bodyPost_ret (v:=.slice (some ⟨w.heap.size+1,0,none⟩) 1 1) (by simp [results,results220,go_sem]) rfl ⟨_,1,rfl,pA CO,(fun x hx=>by cases hx;simp),blo⟩
theorem mf (pl x:Nat)(h:(pl=0/\x=1)\/(pl=1/\x=0)\/(pl=2/\x=3)\/(pl=3/\x=2))(w:World):Calls prog 222 #[.agg #[],.int .i64 pl] w (gb w [x]):=by
 rcases h with ⟨rfl,rfl⟩ | ⟨rfl,rfl⟩ | ⟨rfl,rfl⟩ | ⟨rfl,rfl⟩
 all_goals
  go_enter func222,ntmps222
  go_wp2_with fail
  refine bodyPost_ret (v:=.slice (some ⟨w.heap.size+1,0,none⟩) 1 1) (by simp [results,results222,go_sem]) rfl ⟨_,1,rfl,pA (by simp [go_sem,Cc,B7,BU,BV]),(fun x hx=>by cases hx;simp),blo⟩
theorem uy (k:Int)(pl:Nat)(h1:1<=k)(h4:k<=4)(hpl:(pl:Int)<k)(w:World):Calls prog (i5 k) #[.agg #[],.int .i64 pl] w (gb w (bt k pl)):=by
 have:k=1\/k=2\/k=3\/k=4:=CG
 rcases this with rfl | rfl | rfl | rfl
 ·exact zX pl w
 ·exact Ae pl CG w
 ·by_cases h0:pl=0
  ·subst h0;exact zN w
  ·have:bt 3 pl=[0]:=by simp [bt,h0]
   rw [this];exact yQ pl h0 w
 ·have hp:pl=0\/pl=1\/pl=2\/pl=3:=CG
  rcases hp with rfl | rfl | rfl | rfl
  ·exact mf 0 1 CG w
  ·exact mf 1 0 CG w
  ·exact mf 2 3 CG w
  ·exact mf 3 2 CG w
def dP (K K':Nat->Prop)(w:World):Prop := ∀ k,K' k->K k\/w.heap.size<=k
theorem dP.refl (K:Nat->Prop)(w:World):dP K K w:=fun _ h=>Or.inl h
theorem dP.mono {K K':Nat->Prop}(h:dP K K' w')(hs:w.heap.size<=w'.heap.size):dP K K' w:=fun k hk=>(h k hk).imp id (fun h=>Nat.le_trans hs h)
theorem dP.trans {K K' K'':Nat->Prop}(h:dP K K' w)(h':dP K' K'' w')(hs:w.heap.size<=w'.heap.size):dP K K'' w:=fun k hk=>by
 rcases h' k hk with h1 | h1
 ·exact h k h1
 ·exact Or.inr (Nat.le_trans hs h1)
theorem ag.thru {K K':Nat->Prop}{v:World}(h:ag K w u)(hg:dP K K' w)(h':ag K' u v):ag K w v:=
 ⟨h'.os.trans h.os,h'.tape.trans h.tape,h'.output.trans h.output,Nat.le_trans h.size h'.size,fun k hk hn=>(h'.block k (Nat.lt_of_lt_of_le hk h.size) (fun e=>(hg k e).elim hn (fun e2=>CG))).trans (h.block k hk hn)⟩
def dm (J:(Nat->Prop)->World->Prop)(Sx:World->Prop)(K:Nat->Prop)(u:World)(e:Ending)(u':World):Prop:=
 ∃ b:Bool,e = .returned (.bool b)/\ag K u u'/\(b=true->∃ K',J K' u'/\dP K K' u)/\(b=false->Sx u')
theorem mH (KT M:Nat)(pa ja sa:Option Addr)(pc jc sc:Nat)(ps:List af)(js:List aj)(ss:List af)(R:Hid (bo ps js ss))(e:am)(g:Nat)(rv:Value)(J:Nat->(Nat->Prop)->World->Prop)(Sx:World->Prop)(K0:Nat->Prop)(w:World)
  (hT:Hid (cB w KT M pa ja sa pc jc sc ps js ss)) (hv:Hid (bM ps e)) (hg:∀ args u,(callFunc g args).run prog u = .ok (.enter g args) u) (j k:Nat) (hsp:Hid (aO js e=(j,k)))
  (hJ0:Hid (J 0 K0 w)) (hJl:Hid (∀ m K u,J m K u->∀ k,K k->k<u.heap.size)) (hJk:Hid (∀ m K u u',J m K u->Cx u u'->J m K u'))
  (hV:Hid (∀ m t K u,(bt (aH js j) k)[m]? = some t->J m K u->Calls prog g #[rv,iN j k t (aH js j)] u (dm (J (m+1)) Sx K u))) :
  Calls prog 133 #[.pointer (some ⟨KT,0,none⟩),bC e,.func (.func g) #[rv] #[]] w (dm (J (bt (aH js j) k).length) Sx K0 w):=by
 have H:Hid (∀ u:World,Cx w u->(Instr.lookup 145 (.map (some M)) (bC e) false).run prog u = .ok (eV j k (aH js j)) u):=fun u hu=>by
  have h:=(hT.out.below hu).lookup R.out hv.out;rw [hsp.out] at h;exact h
 obtain ⟨hj,hk⟩:∃ hj:j<js.length,k<js[j].ends.length:=by
  obtain ⟨j',k',g1,g2⟩:=R.out.spot hv.out;obtain ⟨_,hj,hk,g3,_⟩:=df g1;rw [hsp.out] at g2;injection g2 with e1 e2;subst e1 e2;simp only [Nat.sub_zero] at hj hk;exact ⟨hj,hk⟩
 obtain ⟨kd,d⟩:∃ kd,aH js j=kd:=⟨_,rfl⟩;have p:=R.out.kind j hj;have h1:1<=kd:=by rw [<-d,cu hj];exact p.1
 have h4:kd<=4:=by rw [<-d,cu hj];exact p.2.1
 have I:(k:Int)<kd:=by rw [<-d,cu hj,<-p.2.2];omega
 rw [d] at H hV ⊢;have N:Hid (∀ u:World,Calls prog (i5 kd) #[.agg #[],.int .i64 k] u (gb u (bt kd k))):=fun u=>uy kd k h1 h4 I u
 obtain ⟨L,hL⟩:∃ L,bt kd k=L:=⟨_,rfl⟩;have aA:L.length<=2:=by rw [<-hL];exact ox _ _
 rw [hL] at hV N ⊢;have hm:=vg kd h1 h4;have ac:=uB kd;have c3:=hT.out.c3;have hK:=ai c3;dsimp only at hK;have f:=aa (hJl.out _ _ _ hJ0.out);clear hL d p I;unfold bC
 go_enter func133,ntmps133
 go_upto_region 1 with fail
 generalize hW:World.alloc w _=W;have s:Cx w W:=by rw [<-hW];exact blo
 have x0:W.cell? ⟨w.heap.size,0,none⟩=some (.int .i64 e.CB):=by rw [<-hW];simp [go_sem]
 have x1:W.cell? ⟨w.heap.size,1,none⟩=some (.int .i64 e.side):=by rw [<-hW];simp [go_sem]
 have y3:=cell_later s c3;have i:=aa s;have aB:w.heap.size<W.heap.size:=by rw [<-hW];simp
 obtain ⟨S,hS⟩:∃ S:World->Prop,∀ u,S u↔Cx W u:=⟨_,fun _=>Iff.rfl⟩
 have ad:=aa hS;have r0:∀ u:an S,World.cell? u.val ⟨w.heap.size,0,none⟩=some (.int .i64 e.CB):=fun u=>cell_later ((hS u.val).1 u.2) x0
 have r1:∀ u:an S,World.cell? u.val ⟨w.heap.size,1,none⟩=some (.int .i64 e.side):=fun u=>cell_later ((hS u.val).1 u.2) x1
 have r3:∀ u:an S,World.cell? u.val ⟨KT,3,none⟩=some (.map (some M)):=fun u=>cell_later ((hS u.val).1 u.2) y3
 have r4:∀ u:an S,(Instr.lookup 145 (.map (some M)) (.agg #[.int .i64 e.CB,.int .i64 e.side]) false).run prog u.val = .ok (eV j k kd) u.val:=fun u=>H.out u.val (i.out.trans (((hS u.val).1 u.2).mono i.out.size))
 have q:S W.drew:=(hS _).2 (CV.drew);have hne:=aQ q;clear hS hW s
 go_cut [7] (fun v wx => ∃ b,v = .pointer (some ⟨b,0,none⟩)/\W.heap.size<=b/\wx.cell? ⟨b,0,none⟩=some (.int .i64 (j:Int))/\wx.cell? ⟨b,1,none⟩=some (.int .i64 (k:Int))/\wx.cell? ⟨b,2,none⟩=some (.iface (cj kd) (.agg #[]))/\Cx W wx)
 case first =>
  refine bW 7 q ?_
  (refine ae 0 ?_;intro K hK;go_big_quiet_op;go_big_quiet_on);(refine ae 1 ?_;intro K hK;go_big_quiet_op;go_big_quiet_on);(refine ae 2 ?_;intro K hK;go_big_quiet_op;go_big_quiet_on);(refine ae 3 ?_;intro K hK;go_big_quiet_op;go_big_quiet_on);(refine ae 4 ?_;intro K hK;go_big_quiet_op;go_big_quiet_on);(refine ae 5 ?_;intro K hK;go_big_quiet_op;go_big_quiet_on)
  refine az 6 ?_;intro K hK
  go_wp2_with fail
  have O:Cx W (W.alloc (Obj.cells #[Value.int IntKind.i64 0,Value.int IntKind.i64 0,Value.nilIface] 153)).drew:=CU.drew;refine hK _ _ (ak ((ad.out _).2 O)) ?_;clear hK K;refine a9 ?_;unfold eV;clear r0 r1 r3 r4 q hne O
  go_wp2_with fail
  go_meet
  exact ⟨_,rfl,Nat.le_refl _,CO,CO,CO,CU.drew⟩
 case rest =>
  obtain ⟨b,rfl,hb,z0,z1,z2,r⟩:=hcut;clear r0 r1 r3 r4 q hne y3 x0 x1;have ah:=ai z0;dsimp only at ah
  go_wp2_with (refine Calls.mono (N.out _) ?_;rintro e w2 ⟨a,c,rfl,T,l,n⟩)
  have y:Cx w w2:=(i.out.trans (r.mono i.out.size)).trans (n.mono (by have h1:=i.out.size;have h2:=r.size;omega))
  replace z0:=cell_later n z0;replace z1:=cell_later n z1;replace z2:=cell_later n z2;have aC:=r.size;have z:Hid (¬ K0 b):=fun hk=>by have h1:=f.out b hk;omega
  have al:Hid (∀ x,a=some x->¬ K0 x.block):=fun x hx hk=>by have h1:=f.out _ hk;have h2:=l x hx;omega
  have ao:=aa T;have A:=aa y;have U:=aa (hJk.out _ _ _ _ hJ0.out y);have Z0:=aa z0;have Z1:=aa z1;have Z2:=aa z2;clear T l n y z0 z1 z2 hm ac r
  go_loopw [22] (fun c wr => ∃ (m:Nat) (K:Nat->Prop),m<=L.length/\c = .int .i64 m/\Hid (J m K wr)/\Hid (ag K0 w2 wr)/\Hid (dP K0 K w2)) (fun c _=>L.length-(intOf c).toNat)
  case atStart=>exact ⟨0,K0,Nat.zero_le _,rfl,U,ag.refl _ _,dP.refl _ _⟩
  case round =>
   obtain ⟨m,K,hm,rfl,HJ,HO,HG⟩:=hrel;clear U;have ap:=HO.out.size
   by_cases o:m<L.length
   ·have aq:(m:Int)<L.length:=CG
    obtain ⟨b2,B,rfl,V⟩:=ao.out.2.resolve_left (fun h=>by rw [List.map_eq_nil_iff] at h;rw [h] at o;exact absurd o (Nat.not_lt_zero _))
    have q0:=HO.out.cell Z0.out z.out;have q1:=HO.out.cell Z1.out z.out;have q2:=HO.out.cell Z2.out z.out;have q3:=HO.out.cell (V m (by simpa using o)) (al.out ⟨b2,B,none⟩ rfl)
    obtain ⟨t,ht⟩:∃ t,L[m]=t:=⟨_,rfl⟩;have X:L[m]? = some t:=by rw [List.getElem?_eq_getElem o,ht]
    have e3:(L.map Int.ofNat)[m]'(by simpa using o)=(t:Int):=by rw [List.getElem_map,ht];rfl
    rw [e3] at q3;have C:=aa (hV.out m t K wr X HJ.out);unfold Hid iN at C;have ar:=aa C;have au:=ai q3;have D:=ai q0;dsimp only at au D;clear V ht X e3 C
    go_upto_if 36 with (refine Calls.mono ar.out ?_;rintro e w3 ⟨bb,rfl,E,F,G⟩)
    have Y:=aa (HO.out.thru HG.out E);cases bb
    ·have av:=aa (G rfl);clear F G E
     go_wp2_with fail
     go_ret
     exact ⟨false,rfl,(ag.of_below A.out).trans Y.out,(fun h=>by cases h),fun _=>av.out⟩
    ·obtain ⟨K',Z,ab⟩:=F rfl;have aw:=aa Z;have ax:=aa (HG.out.trans ab ap);clear F G E Z ab
     go_wp2_with fail
     go_roundw
     case rel=>exact ⟨m+1,K',CG,by go_num,aw,Y,ax⟩
     case measure=>simp [intOf];omega
   ·have ay:m=L.length:=CG
    have aq:¬ (m:Int)<L.length:=CG
    subst ay
    go_wp2_with fail
    go_ret
    exact ⟨true,rfl,(ag.of_below A.out).trans HO.out,fun _=>⟨K,HJ.out,HG.out.mono A.out.size⟩,fun h=>by cases h⟩
end Go.Proofs.YtmkdgnmmebldgaaGreatDoor
