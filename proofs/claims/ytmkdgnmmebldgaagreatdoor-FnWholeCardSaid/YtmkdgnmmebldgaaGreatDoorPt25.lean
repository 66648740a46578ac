import Derived.Test.YtmkdgnmmebldgaaGreatDoorPt24
set_option maxRecDepth 100000
set_option maxHeartbeats 8000000
namespace Go.Proofs.YtmkdgnmmebldgaaGreatDoor
open Go.RowKit Go.Deep
theorem list3 {α:Type}{l:List α}(h:l.length=3):∃ a b c,l=[a,b,c]:=by
 match l,h with
 | [a,b,c],_=>exact ⟨a,b,c,rfl⟩
theorem l1acrossN_any (kind:Int)(nm:ByteArray)(es:List MEnd)(k:Nat)(hk:k<es.length)(hl:(es.length:Int)=kind)(hkd:kind=2∨kind=3∨kind=4)(ea:Option Addr)(ec:Nat)(w:World)(he:Hid (EndsAt w ea es)):
  Calls Tryz.prog 48 #[.agg #[.int .i64 kind,.string nm,.slice ea es.length ec],.int .i64 k] w (AcrossPostN w ((beyondF kind k).map (fun t=>es.getD t ⟨0,0⟩))):=by
 have hc:(kind=2∨kind=4)∨kind=3:=by omega
 rcases hc with hc | rfl
 ·obtain ⟨t,ht,hb,h⟩:=l1acrossN_one kind nm es k hk hl hc ea ec w he
  rw [hb]
  have e:[t].map (fun t=>es.getD t ⟨0,0⟩)=[es[t]]:=by simp [ht]
  rw [e]
  exact h
 ·obtain ⟨a,b,c,rfl⟩:=list3 (show es.length=3 by omega)
  have hk3:k=0∨k=1∨k=2:=by simp at hk;omega
  rcases hk3 with rfl | rfl | rfl
  ·exact l1acrossN_3_0 nm a b c ea ec w he
  ·exact l1acrossN_3_1 nm a b c ea ec w he
  ·exact l1acrossN_3_2 nm a b c ea ec w he
theorem beyondF_few (kind:Int)(k:Nat):(beyondF kind k).length≤2:=by
 unfold beyondF
 split
 ·simp
 ·split
  ·split <;> simp
  ·split <;> simp
section
variable {w1 W:World} {F A Q B:Nat} {x0 x1 x2 x3:Option Addr} {y0 y1 y2 y3:Nat} {v7:Value} {st sp:Int} {steps:List MStep} {lies:List MLie} {crosses:List Int} {parts:List MPart}
theorem keep_rb (h:RB w1 W A Q B x0 y0 x1 y1 x2 y2 x3 y3 (.slice none 0 0) v7 ⟨st,sp,steps,lies,crosses,parts,[],[]⟩)(hF:F<B):RKeep W F ⟨x0,y0,x1,y1,x2,y2,x3,y3,none,0,none,0⟩ ⟨st,sp,steps,lies,crosses,parts,[],[]⟩:=
 keep_of (ov:=[]) (fl:=[]) (x4:=none) (y4:=0) (x5:=none) (y5:=0) (v:=noRow) (v':=noRow) (B4:=F+1) (B5:=F+1) h hF (World.ownsRow_nil _ _ _ _) (Nat.lt_succ_self F) (Eff.of_below (Below.refl _ _)) (World.ownsRow_nil _ _ _ _) (Nat.lt_succ_self F)
theorem nil_rb (h:RB w1 W A Q B x0 y0 x1 y1 x2 y2 x3 y3 (.slice none 0 0) v7 ⟨st,sp,steps,lies,crosses,parts,[],[]⟩):NilR ⟨x0,y0,x1,y1,x2,y2,x3,y3,none,0,none,0⟩ ⟨st,sp,steps,lies,crosses,parts,[],[]⟩:=
 ⟨(own_listE h.own.o0).2,(own_listE h.own.o1).2,(own_listN h.own.o2).2,(own_listP h.own.o3).2⟩
end
def LoopInv (w0 Wl wr:World)(F:Nat)(pa ja sa:Option Addr)(pc jc sc:Nat)(ps:List MPiece)(js:List MJoint)(ss:List MPiece)(over:Int)(n t:Nat)(vo:Value)(rs:List MRoute)(path:MPath)(j k:Nat)(T:List Nat)(m:Nat):Prop:=
 ∃ xo yo t' pr,WS w0 wr F pa ja sa pc jc sc ps.length js.length ss.length over xo yo t' pr∧Eff F vo (.slice xo pr.length yo) Wl wr∧Went (routeF ps js ss over) t rs (path::kidsF ps js ss n path j k (T.take m)) t' (pr.map Prod.snd)∧t'+1≤20000+n+m∧pr.length≤301
section
variable {w0 Wl wr W w':World} {F:Nat} {pa ja sa:Option Addr} {pc jc sc:Nat} {ps:List MPiece} {js:List MJoint} {ss:List MPiece} {over:Int} {n t:Nat} {vo:Value} {rs:List MRoute} {path:MPath} {j k m:Nat} {T:List Nat}
theorem LoopInv.start {xo:Option Addr}{yo:Nat}{pr:List (RAddr × MRoute)}(h:WS w0 Wl F pa ja sa pc jc sc ps.length js.length ss.length over xo yo (t+1) pr)(hn:1≤n)(ht:t+1≤20000)(hp:path.ended=false)(hpr:pr.length≤301):LoopInv w0 Wl Wl F pa ja sa pc jc sc ps js ss over n t (.slice xo pr.length yo) (pr.map Prod.snd) path j k T 0:=
 ⟨xo,yo,t+1,pr,h,h.eff0 (Below.refl _ _),Went.one hp,by omega,hpr⟩
theorem LoopInv.below (h:LoopInv w0 Wl wr F pa ja sa pc jc sc ps js ss over n t vo rs path j k T m)(hb:Below wr.heap.size wr W):LoopInv w0 Wl W F pa ja sa pc jc sc ps js ss over n t vo rs path j k T m:=by
 obtain ⟨xo,yo,t',pr,h1,h2,h3,h4,h5⟩:=h
 exact ⟨xo,yo,t',pr,h1.below hb,h2.later hb,h3,h4,h5⟩
theorem LoopInv.none (h:LoopInv w0 Wl wr F pa ja sa pc jc sc ps js ss over n t vo rs path j k T m)(hm:m<T.length)(hk:overP js path j k T[m]=none):LoopInv w0 Wl wr F pa ja sa pc jc sc ps js ss over n t vo rs path j k T (m+1):=by
 obtain ⟨xo,yo,t',pr,h1,h2,h3,h4,h5⟩:=h
 refine ⟨xo,yo,t',pr,h1,h2,?_,by omega,h5⟩
 rw [List.take_succ_eq_append_getElem hm,kidsF_snoc]
 have hkk:kidF ps js ss n path j k T[m]=[]:=by unfold kidF;rw [hk]
 rw [hkk,List.append_nil]
 exact h3
theorem LoopInv.gone {xo:Option Addr}{yo t':Nat}{pr:List (RAddr × MRoute)}(h2:Eff F vo (.slice xo pr.length yo) Wl wr)(h3:Went (routeF ps js ss over) t rs (path::kidsF ps js ss n path j k (T.take m)) t' (pr.map Prod.snd))(h4:t'+1≤20000+n+m)(hb:Below wr.heap.size wr W)(hm:m<T.length){q:MPath}(hk:overP js path j k T[m]=some q)
  {e:Ending} (hw:WalkPost w0 W F pa ja sa pc jc sc ps js ss over n t' (.slice xo pr.length yo) (pr.map Prod.snd) (evs ps js ss n q (endAt ps (endE js j T[m]))) e w'):e = .returned (.tuple #[])∧LoopInv w0 Wl w' F pa ja sa pc jc sc ps js ss over n t vo rs path j k T (m+1):=by
 obtain ⟨he,xo',yo',t'',pr',k1,k2,k3,k4,k5⟩:=hw
 refine ⟨he,xo',yo',t'',pr',k1,(h2.later hb).trans k2,?_,by omega,k5⟩
 rw [List.take_succ_eq_append_getElem hm,kidsF_snoc]
 have hkk:kidF ps js ss n path j k T[m]=evs ps js ss n q (endAt ps (endE js j T[m])):=by unfold kidF;rw [hk]
 rw [hkk]
 exact h3.app k3
theorem LoopInv.stop {w:World}{xo:Option Addr}{yo:Nat}{pr:List (RAddr × MRoute)}{E:List MPath}(h:LoopInv w0 Wl wr F pa ja sa pc jc sc ps js ss over n t (.slice xo pr.length yo) (pr.map Prod.snd) path j k T m)(hm:m=T.length)(hT:T.length≤2)(hE:Eff F (.slice xo pr.length yo) (.slice xo pr.length yo) w Wl)(hev:E=path::kidsF ps js ss n path j k T):
  WalkPost w0 w F pa ja sa pc jc sc ps js ss over (n+1) t (.slice xo pr.length yo) (pr.map Prod.snd) E (.returned (.tuple #[])) wr:=by
 obtain ⟨xo',yo',t',pr',h1,h2,h3,h4,h5⟩:=h
 refine ⟨rfl,xo',yo',t',pr',h1,hE.trans h2,?_,by omega,h5⟩
 rw [hm,List.take_length] at h3
 rw [hev]
 exact h3
end
theorem child_call {w0 w1 W:World}{F A Q B:Nat}{pa ja sa:Option Addr}{pc jc sc:Nat}{ps:List MPiece}{js:List MJoint}{ss:List MPiece}{over:Int}{n t i p pe:Nat}{way pos:Int}{xo:Option Addr}{yo:Nat}{pr:List (RAddr × MRoute)}{x0 x1 x2 x3:Option Addr}{y0 y1 y2 y3:Nat}{v7:Value}{pre L:List MStep}{lies lies':List MLie}{crosses crosses':List Int}{PL:List MPart}{e:MEnd}
  (ih:WalkSpec w0 F pa ja sa pc jc sc ps js ss over n) (R:Right ps js ss) (ok:WalkOk ps js ss i pre ⟨p,way⟩ lies crosses pos) (hnot:(⟨(p:Int),way⟩:MStep) ∉ pre) (hn:n+1+pre.length=2*ps.length+2) (hL:pre++[(⟨(p:Int),way⟩:MStep)]=L) (hPL:PL=fullParts ps (sigAt ss i) L)
  (hv:ValidE ps e) (hpe:e.piece=pe) (lv:∀ l ∈ lies',∃ (j:Nat) (hj:j<js.length),l.piece=j∧js[j].kind=3∧(l.side=1∨l.side=2)) (ld:(lies'.map MEnd.piece).Nodup) (cl:crosses'.length≤pre.length+1)
  (hs:WS w0 W F pa ja sa pc jc sc ps.length js.length ss.length over xo yo t pr) (h:RB w1 W A Q B x0 y0 x1 y1 x2 y2 x3 y3 (.slice none 0 0) v7 ⟨i,0,L,lies',crosses',PL,[],[]⟩) (hF:F<B) (ht:t≤100000) (hpr:pr.length≤301) {wy:Int} (hwy:(stepFromE e).side=wy) :
  Calls Tryz.prog 35 #[.pointer (some ⟨F,0,none⟩),.agg #[.int .i64 i,.int .i64 0,.slice x0 L.length y0,.slice x1 lies'.length y1,.slice x2 crosses'.length y2,.slice x3 PL.length y3,.slice none 0 0,.slice none 0 0],.int .i64 pe,.int .i64 wy,.int .i64 0] W
   (WalkPost w0 W F pa ja sa pc jc sc ps js ss over n t (.slice xo pr.length yo) (pr.map Prod.snd) (evs ps js ss n (pathOf i (L++[stepFromE e]) lies' crosses') (endAt ps e))):=by
 have hw:=ok.next R hnot hv lv ld cl
 have hse:stepFromE e=⟨(pe:Int),wy⟩:=by
  have h1:=stepFromE_piece e
  generalize stepFromE e=s at h1 hwy
  cases s
  simp only at h1 hwy
  rw [h1,hwy,hpe]
 have hf:=(farI_begin hv).1
 rw [hse] at hf hw ⊢
 dsimp only at hf
 rw [hL] at hw
 have hk:=keep_rb h hF
 have hni:=nil_rb h
 have hlen:PL.length=L.length:=by rw [hPL,fullParts_len]
 have hag:(Value.agg #[.int .i64 i,.int .i64 0,.slice x0 L.length y0,.slice x1 lies'.length y1,.slice x2 crosses'.length y2,.slice x3 L.length y3,.slice none 0 0,.slice none 0 0]) = .agg #[.int .i64 i,.int .i64 0,.slice x0 L.length y0,.slice x1 lies'.length y1,.slice x2 crosses'.length y2,.slice x3 PL.length y3,.slice none 0 0,.slice none 0 0]:=by rw [hlen]
 subst hPL
 have hc:=ih x0 y0 x1 y1 x2 y2 x3 y3 i L pe wy lies' crosses' (endAt ps e) xo yo t pr W hw (by rw [← hL];simp;omega) hs hk hni ht hpr
 rw [hag,hf] at hc
 exact hc
theorem stepFrom_side0 {e:MEnd}(h:e.side=0):(stepFromE e).side=1:=by unfold stepFromE;rw [if_pos h]
theorem stepFrom_side1 {e:MEnd}(h:e.side=1):(stepFromE e).side = -1:=by unfold stepFromE;rw [if_neg (by omega)]
theorem rb_new {wr w5:World}{z0 z1 z2 z3:Option Addr}{t0 t1 t2 t3:Nat}{st sp:Int}{steps:List MStep}{lies:List MLie}{crosses:List Int}{parts:List MPart}(hb:Below wr.heap.size wr w5)(hz:wr.heap.size+1≤w5.heap.size)
  (ho:OwnR w5 (wr.heap.size+1) (.slice z0 steps.length t0) (.slice z1 lies.length t1) (.slice z2 crosses.length t2) (.slice z3 parts.length t3) ⟨st,sp,steps,lies,crosses,parts,[],[]⟩) :
  RB wr (w5.alloc (.cells #[.int .i64 st,.int .i64 sp,.slice z0 steps.length t0,.slice z1 lies.length t1,.slice z2 crosses.length t2,.slice z3 parts.length t3,.slice none 0 0,.slice none 0 0] 44)) wr.heap.size w5.heap.size (wr.heap.size+1) z0 t0 z1 t1 z2 t2 z3 t3 (.slice none 0 0) (.slice none 0 0) ⟨st,sp,steps,lies,crosses,parts,[],[]⟩:=
 ⟨hb.alloc (by omega) _,by omega,by omega,by simp;omega,qc_alloc _ _ _ _ _ _ _ _ _,ho.below ((Below.refl _ _).alloc (Nat.le_refl _) _)⟩
theorem flatN_push (cs:List Int)(x:Int):flatN cs++[.int .i64 x]=flatN (cs++[x]):=by
 rw [flatN_snoc]
 rfl
end Go.Proofs.YtmkdgnmmebldgaaGreatDoor
namespace Go.Proofs.YtmkdgnmmebldgaaGreatDoor
open Go.RowKit Go.Deep Go.Maps
def passV (j k t:Nat)(kd:Int):Value:=.agg #[.int .i64 (j:Int),.int .i64 (k:Int),.int .i64 (t:Int),.iface (kindT kd) (.agg #[])]
def overI (p:MPath)(j k t:Nat)(kd:Int)(e:MEnd):MPath × Bool:=
 let q:MPath:={ p with steps:=p.steps++[stepFromE e] }
 if kd=4 then ({ q with crosses:=p.crosses++[(j:Int)] },true)
 else if kd=3 then
  (if lieF p.lies j≠0 then (q,decide (lieF p.lies j=(max k t:Nat)))
  else ({ q with lies:=p.lies++[⟨j,(max k t:Nat)⟩] },true))
 else (q,true)
theorem isC (w:World)(xt:TypeId)(k:Int)(h1:1≤k)(h4:k≤4):(Instr.typeAssert (.iface (kindT k) (.agg #[])) xt 208 true).run Tryz.prog w = .ok (.tuple #[.agg #[],.bool (decide (k=4))]) w:=by
 have:k=1∨k=2∨k=3∨k=4:=by omega
 rcases this with rfl | rfl | rfl | rfl
 ·exact missC w xt _ (by decide)
 ·exact missC w xt _ (by decide)
 ·exact missC w xt _ (by decide)
 ·exact run_typeAssert_hit (P:=Tryz.prog) w xt 208 (.agg #[]) _ Tryz.underlying208
theorem isS (w:World)(xt:TypeId)(k:Int)(h1:1≤k)(h4:k≤4):(Instr.typeAssert (.iface (kindT k) (.agg #[])) xt 207 true).run Tryz.prog w = .ok (.tuple #[.agg #[],.bool (decide (k=3))]) w:=by
 have:k=1∨k=2∨k=3∨k=4:=by omega
 rcases this with rfl | rfl | rfl | rfl
 ·exact missS w xt _ (by decide)
 ·exact missS w xt _ (by decide)
 ·exact run_typeAssert_hit (P:=Tryz.prog) w xt 207 (.agg #[]) _ Tryz.underlying207
 ·exact missS w xt _ (by decide)
theorem own_cap {w:World}{B e s n:Nat}{x:Option Addr}{y:Nat}{xs:List Value}(h:w.ownsRow B e s (.slice x n y) n xs):n≤y:=by
 rcases h.2 with ⟨_,rfl⟩ | ⟨g,cap,cur,h1,_,_,h2,_⟩
 ·exact Nat.zero_le _
 ·cases h1
  exact h2
def six (u:World)(b:Nat)(v0 v1 v2 v3 v4 v5:Value):World:=(((((u.setCell ⟨b,0,none⟩ v0).setCell ⟨b,1,none⟩ v1).setCell ⟨b,2,none⟩ v2).setCell ⟨b,3,none⟩ v3).setCell ⟨b,4,none⟩ v4).setCell ⟨b,5,none⟩ v5
theorem six_cells {u:World}{b T:Nat}{f:Nat→Value}(hr:u.rowIs b T 6 f)(v0 v1 v2 v3 v4 v5:Value):(six u b v0 v1 v2 v3 v4 v5).cell? ⟨b,0,none⟩=some v0∧(six u b v0 v1 v2 v3 v4 v5).cell? ⟨b,1,none⟩=some v1∧(six u b v0 v1 v2 v3 v4 v5).cell? ⟨b,2,none⟩=some v2∧(six u b v0 v1 v2 v3 v4 v5).cell? ⟨b,3,none⟩=some v3∧(six u b v0 v1 v2 v3 v4 v5).cell? ⟨b,4,none⟩=some v4∧(six u b v0 v1 v2 v3 v4 v5).cell? ⟨b,5,none⟩=some v5:=by
 have h:=(((((hr.set 0 v0).set 1 v1).set 2 v2).set 3 v3).set 4 v4).set 5 v5
 exact ⟨(h.cell (i:=0) (by omega)).trans (by simp),(h.cell (i:=1) (by omega)).trans (by simp),(h.cell (i:=2) (by omega)).trans (by simp),(h.cell (i:=3) (by omega)).trans (by simp),(h.cell (i:=4) (by omega)).trans (by simp),(h.cell (i:=5) (by omega)).trans (by simp)⟩
theorem six_owns {u:World}{b B e s n:Nat}{v:Value}{xs:List Value}(h:u.ownsRow B e s v n xs)(hb:b<B)(v0 v1 v2 v3 v4 v5:Value):(six u b v0 v1 v2 v3 v4 v5).ownsRow B e s v n xs:=
 ownsRow_setCell_below (ownsRow_setCell_below (ownsRow_setCell_below (ownsRow_setCell_below (ownsRow_setCell_below (ownsRow_setCell_below h (a:=⟨b,0,none⟩) hb v0) (a:=⟨b,1,none⟩) hb v1) (a:=⟨b,2,none⟩) hb v2) (a:=⟨b,3,none⟩) hb v3) (a:=⟨b,4,none⟩) hb v4) (a:=⟨b,5,none⟩) hb v5
theorem six_below {w u:World}{b B:Nat}(h:Below B w u)(hb:B≤b)(v0 v1 v2 v3 v4 v5:Value):Below B w (six u b v0 v1 v2 v3 v4 v5):=
 (((((h.setCell (p:=⟨b,0,none⟩) hb v0).setCell (p:=⟨b,1,none⟩) hb v1).setCell (p:=⟨b,2,none⟩) hb v2).setCell (p:=⟨b,3,none⟩) hb v3).setCell (p:=⟨b,4,none⟩) hb v4).setCell (p:=⟨b,5,none⟩) hb v5
theorem owns_drew {u:World}{B e s n:Nat}{v:Value}{xs:List Value}(h:u.ownsRow B e s v n xs):u.drew.ownsRow B e s v n xs:=h
theorem beq_decide (a b:Int):(a==b)=decide (a=b):=by
 by_cases h:a=b <;> simp [h]
theorem six_only (u:World)(b:Nat)(v0 v1 v2 v3 v4 v5:Value):Only (fun k=>k=b) u (six u b v0 v1 v2 v3 v4 v5):=by
 have h0:=(Only.refl (fun k=>k=b) u).setCell (p:=⟨b,0,none⟩) (Or.inl rfl) v0
 have h1:=h0.setCell (p:=⟨b,1,none⟩) (Or.inl rfl) v1
 have h2:=h1.setCell (p:=⟨b,2,none⟩) (Or.inl rfl) v2
 have h3:=h2.setCell (p:=⟨b,3,none⟩) (Or.inl rfl) v3
 have h4:=h3.setCell (p:=⟨b,4,none⟩) (Or.inl rfl) v4
 exact h4.setCell (p:=⟨b,5,none⟩) (Or.inl rfl) v5
theorem PListsAt.grow {w w':World}{d:PAddr}{p:MPath}(h:PListsAt w d p)(hb:Below w.heap.size w w'){B e:Nat}{x:Option Addr}{y:Nat}{s:MStep}(ho:w'.ownsRow B e 2 (.slice x (p.steps.length+1) y) (p.steps.length+1) (flatE (p.steps++[s]))):PListsAt w' ⟨x,y,d.a1,d.c1,d.a2,d.c2⟩ { p with steps:=p.steps++[s] }:=by
 have hl:(p.steps++[s]).length=p.steps.length+1:=by simp
 rw [← hl] at ho
 have e1:=own_listE ho
 exact ⟨e1.1,h.lies.below hb,h.crosses.below hb,e1.2,h.nil1,h.nil2,own_cap ho⟩
theorem PListsAt.grow2 {w w':World}{d:PAddr}{p:MPath}(h:PListsAt w d p)(hb:Below w.heap.size w w'){B e B' e':Nat}{x x':Option Addr}{y y':Nat}{s:MStep}{l:MLie}(ho:w'.ownsRow B e 2 (.slice x (p.steps.length+1) y) (p.steps.length+1) (flatE (p.steps++[s])))(ho':w'.ownsRow B' e' 2 (.slice x' (p.lies.length+1) y') (p.lies.length+1) (flatE (p.lies++[l]))):PListsAt w' ⟨x,y,x',y',d.a2,d.c2⟩ { p with steps:=p.steps++[s],lies:=p.lies++[l] }:=by
 have hl:(p.steps++[s]).length=p.steps.length+1:=by simp
 have hl':(p.lies++[l]).length=p.lies.length+1:=by simp
 rw [← hl] at ho
 rw [← hl'] at ho'
 have e1:=own_listE ho
 have e2:=own_listE ho'
 exact ⟨e1.1,e2.1,h.crosses.below hb,e1.2,e2.2,h.nil2,own_cap ho⟩
theorem PListsAt.grow3 {w w':World}{d:PAddr}{p:MPath}(h:PListsAt w d p)(hb:Below w.heap.size w w'){B e B' e':Nat}{x x':Option Addr}{y y':Nat}{s:MStep}{l:Int}(ho:w'.ownsRow B e 2 (.slice x (p.steps.length+1) y) (p.steps.length+1) (flatE (p.steps++[s])))(ho':w'.ownsRow B' e' 1 (.slice x' (p.crosses.length+1) y') (p.crosses.length+1) (flatN (p.crosses++[l]))):PListsAt w' ⟨x,y,d.a1,d.c1,x',y'⟩ { p with steps:=p.steps++[s],crosses:=p.crosses++[l] }:=by
 have hl:(p.steps++[s]).length=p.steps.length+1:=by simp
 have hl':(p.crosses++[l]).length=p.crosses.length+1:=by simp
 rw [← hl] at ho
 rw [← hl'] at ho'
 have e1:=own_listE ho
 have e2:=own_listN ho'
 exact ⟨e1.1,h.lies.below hb,e2.1,e1.2,h.nil1,e2.2,own_cap ho⟩
theorem owns_only {K:Nat→Prop}{w u:World}{B e s n:Nat}{v:Value}{xs:List Value}(h:w.ownsRow B e s v n xs)(hO:Only K w u)(hK:∀ k,K k→k<B):u.ownsRow B e s v n xs:=by
 refine ⟨h.1,?_⟩
 rcases h.2 with h2 | ⟨g,cap,cur,h1,h2,h3,h4⟩
 ·exact Or.inl h2
 ·exact Or.inr ⟨g,cap,cur,h1,h2,(hO.block g (Array.getElem?_eq_some_iff.1 h3).1 (fun hk=>by have:=hK g hk;omega)).trans h3,h4⟩
def PSound (w w':World)(d d':PAddr)(p p':MPath):Prop := ∀ (K:Nat→Prop) (u:World),(∀ k,K k→k<w.heap.size)→Only K w' u→PListsAt u d p→PListsAt u d' p'
theorem PSound.grow {w w':World}{d:PAddr}{p:MPath}{B e:Nat}{x:Option Addr}{y:Nat}{s:MStep}(hB:w.heap.size≤B)(ho:w'.ownsRow B e 2 (.slice x (p.steps.length+1) y) (p.steps.length+1) (flatE (p.steps++[s]))):PSound w w' d ⟨x,y,d.a1,d.c1,d.a2,d.c2⟩ p { p with steps:=p.steps++[s] }:=
 fun _ _ hK hO h=>h.grow (Below.refl _ _) (owns_only ho hO (fun k hk=>Nat.lt_of_lt_of_le (hK k hk) hB))
theorem PSound.grow2 {w w':World}{d:PAddr}{p:MPath}{B e B' e':Nat}{x x':Option Addr}{y y':Nat}{s:MStep}{l:MLie}(hB:w.heap.size≤B)(hB':w.heap.size≤B')(ho:w'.ownsRow B e 2 (.slice x (p.steps.length+1) y) (p.steps.length+1) (flatE (p.steps++[s])))(ho':w'.ownsRow B' e' 2 (.slice x' (p.lies.length+1) y') (p.lies.length+1) (flatE (p.lies++[l]))):PSound w w' d ⟨x,y,x',y',d.a2,d.c2⟩ p { p with steps:=p.steps++[s],lies:=p.lies++[l] }:=
 fun _ _ hK hO h=>h.grow2 (Below.refl _ _) (owns_only ho hO (fun k hk=>Nat.lt_of_lt_of_le (hK k hk) hB)) (owns_only ho' hO (fun k hk=>Nat.lt_of_lt_of_le (hK k hk) hB'))
theorem PSound.grow3 {w w':World}{d:PAddr}{p:MPath}{B e B' e':Nat}{x x':Option Addr}{y y':Nat}{s:MStep}{l:Int}(hB:w.heap.size≤B)(hB':w.heap.size≤B')(ho:w'.ownsRow B e 2 (.slice x (p.steps.length+1) y) (p.steps.length+1) (flatE (p.steps++[s])))(ho':w'.ownsRow B' e' 1 (.slice x' (p.crosses.length+1) y') (p.crosses.length+1) (flatN (p.crosses++[l]))):PSound w w' d ⟨x,y,d.a1,d.c1,x',y'⟩ p { p with steps:=p.steps++[s],crosses:=p.crosses++[l] }:=
 fun _ _ hK hO h=>h.grow3 (Below.refl _ _) (owns_only ho hO (fun k hk=>Nat.lt_of_lt_of_le (hK k hk) hB)) (owns_only ho' hO (fun k hk=>Nat.lt_of_lt_of_le (hK k hk) hB'))
theorem news0 {u:World}{g:Nat}{a:Value}(c0:u.cell? ⟨g,0,none⟩=some a):∀ (j:Nat) (v:Value),[a][j]? = some v→u.cell? ((⟨g,0,none⟩:Addr).add j)=some v:=by
 intro j v hv
 rw [addr_at,Nat.zero_add]
 match j with
 | 0=>simp at hv;rw [← hv];exact c0
 | j+1=>simp at hv
theorem news1 {u:World}{g:Nat}{a b:Value}(c0:u.cell? ⟨g,0,none⟩=some a)(c1:u.cell? ⟨g,1,none⟩=some b):∀ (j:Nat) (v:Value),[a,b][j]? = some v→u.cell? ((⟨g,0,none⟩:Addr).add j)=some v:=by
 intro j v hv
 rw [addr_at,Nat.zero_add]
 match j with
 | 0=>simp at hv;rw [← hv];exact c0
 | 1=>simp at hv;rw [← hv];exact c1
 | j+2=>simp at hv
theorem path_over_any (d:PAddr)(p:MPath)(j k t:Nat)(kd:Int)(en:MEnd)(w:World)(h:Hid (PListsAt w d p))(hn:p.steps.length≤1000)(hnl:p.lies.length≤1000)(hnc:p.crosses.length≤1000)(hk1:1≤kd)(hk4:kd≤4):
  Calls Tryz.prog 168 #[pathV d p,passV j k t kd,endV en] w fun e w' => ∃ d',e = .returned (.tuple #[pathV d' (overI p j k t kd en).1,.bool (overI p j k t kd en).2])∧PSound w w' d d' p (overI p j k t kd en).1∧Below w.heap.size w w':=by
 unfold pathV passV endV
 obtain ⟨se,hse⟩:∃ se,stepFromE en=se:=⟨_,rfl⟩
 have HSF:Hid (∀ u:World,Calls Tryz.prog 169 #[.agg #[.int .i64 en.piece,.int .i64 en.side]] u fun e w'=>e = .returned (.agg #[.int .i64 se.piece,.int .i64 se.side])∧Below u.heap.size u w'):=fun u=>by rw [← hse];exact stepFrom_any _ _ u
 go_enter Tryz.func168,Tryz.ntmps168
 go_upto_region 1 with fail
 generalize hPF:(fun i:Nat=>(#[Value.int .i64 p.start,.int .i64 p.stop,.bool p.ended,.slice d.a0 p.steps.length d.c0,.slice d.a1 p.lies.length d.c1,.slice d.a2 p.crosses.length d.c2]:Array Value).getD i (.bool false))=pf
 generalize hW:World.alloc (World.alloc (World.alloc (World.alloc w _) _) _) _=W
 have HRP:Hid (W.rowIs w.heap.size 94 6 pf):=by
  unfold Hid
  rw [← hW,← hPF]
  exact (((row_of_alloc2 w _ _).alloc _).alloc _).alloc _
 have HRR:Hid (∃ f,W.rowIs (w.heap.size+1+1+1) 94 6 f):=by
  unfold Hid
  rw [← hW]
  obtain ⟨X,hX⟩:∃ X,X=World.alloc (World.alloc (World.alloc w (Obj.cells #[Value.int .i64 p.start,.int .i64 p.stop,.bool p.ended,.slice d.a0 p.steps.length d.c0,.slice d.a1 p.lies.length d.c1,.slice d.a2 p.crosses.length d.c2] 94)) (Obj.cells #[.int .i64 (j:Int),.int .i64 (k:Int),.int .i64 (t:Int),.iface (kindT kd) (.agg #[])] 293)) (Obj.cells #[.int .i64 en.piece,.int .i64 en.side] 114):=⟨_,rfl⟩
  have hXs:X.heap.size=w.heap.size+1+1+1:=by rw [hX];simp
  have:=row_of_alloc2 X #[.int .i64 0,.int .i64 0,.bool false,.slice none 0 0,.slice none 0 0,.slice none 0 0] 94
  rw [hXs,hX] at this
  exact ⟨_,this⟩
 have hbW:Below w.heap.size w W:=by rw [← hW];exact blo
 have q0:W.cell? ⟨w.heap.size+1,0,none⟩=some (.int .i64 (j:Int)):=by rw [← hW];simp [go_sem]
 have q1:W.cell? ⟨w.heap.size+1,1,none⟩=some (.int .i64 (k:Int)):=by rw [← hW];simp [go_sem]
 have q2:W.cell? ⟨w.heap.size+1,2,none⟩=some (.int .i64 (t:Int)):=by rw [← hW];simp [go_sem]
 have q3:W.cell? ⟨w.heap.size+1,3,none⟩=some (.iface (kindT kd) (.agg #[])):=by rw [← hW];simp [go_sem]
 have e0:W.cell? ⟨w.heap.size+1+1,0,none⟩=some (.int .i64 en.piece):=by rw [← hW];simp [go_sem]
 have e1:W.cell? ⟨w.heap.size+1+1,1,none⟩=some (.int .i64 en.side):=by rw [← hW];simp [go_sem]
 have HBW:=hidP hbW
 have hzW:w.heap.size+1+1+1<W.heap.size:=by rw [← hW];simp
 clear hW hbW
 have p3:W.cell? ⟨w.heap.size,3,none⟩=some (.slice d.a0 p.steps.length d.c0):=(HRP.out.cell (i:=3) (by omega)).trans (by rw [← hPF];rfl)
 obtain ⟨S,hS⟩:∃ S:World→Prop,∀ u,S u↔Below W.heap.size W u:=⟨_,fun _=>Iff.rfl⟩
 have HS0:=hidP hS
 have r0:∀ u:Held S,World.cell? u.val ⟨w.heap.size+1+1,0,none⟩=some (.int .i64 en.piece):=fun u=>cell_later ((hS u.val).1 u.2) e0
 have r1:∀ u:Held S,World.cell? u.val ⟨w.heap.size+1+1,1,none⟩=some (.int .i64 en.side):=fun u=>cell_later ((hS u.val).1 u.2) e1
 have r3:∀ u:Held S,World.cell? u.val ⟨w.heap.size,3,none⟩=some (.slice d.a0 p.steps.length d.c0):=fun u=>cell_later ((hS u.val).1 u.2) p3
 have hS1:S W.drew:=(hS _).2 ((Below.refl _ _).drew)
 have hne:=held_ne hS1
 clear hS
 go_cut [16] (fun _ wx => ∃ x y,wx.rowIs w.heap.size 94 6 (fun i=>if i=3 then .slice x (p.steps.length+1) y else pf i)∧wx.ownsRow W.heap.size 46 2 (.slice x (p.steps.length+1) y) (p.steps.length+1) (flatE (p.steps++[se]))∧Only (fun k=>k=w.heap.size) W wx)
 case first =>
  refine wp_region_tree (fun w' => ∃ u:Held S,w'=u.val) 8 (by kernel_rfl) (by kernel_rfl) (held_some hS1) ?_
  (refine wpT_sea 0 ?_;intro K hK;go_big_quiet_op;go_big_quiet_on);(refine wpT_sea 1 ?_;intro K hK;go_big_quiet_op;go_big_quiet_on)
  (refine wpT_sea 3 ?_;intro K hK;go_big_quiet_op;go_big_quiet_on)
  refine wpT_loud 2 (by rfl) (by kernel_rfl) (by kernel_rfl) ?_
  ·intro K hK
   go_wp2_with (at_builtin;refine wpList_copy0 rfl (.tmp 11) 38 rfl 46 _ 2 16 Tryz.underlying38 Tryz.infoStep rfl (by decide) d.a0 p.steps.length d.c0 (flatE p.steps) rfl h.out.nil0 (flatE_len _) (newsE ((h.out.steps.below HBW.out).below ((Below.refl _ _).drew))) (flatE_one _) h.out.steps.1 (by omega) ?_;intro x2 y2 w2 ho2 hb2')
   have hb2:Below W.heap.size W w2:=(Below.refl _ _).drew.trans hb2'
   refine hK _ _ (held_some ((HS0.out _).2 hb2)) ?_
   clear hK K hb2'
   refine wpT_loud 4 (by rfl) (by kernel_rfl) (by kernel_rfl) ?_
   intro K hK
   go_wp2_with (go_at_call 169;refine (HSF.out _).mono ?_;rintro e w3 ⟨rfl,hb3'⟩)
   have hb3:Below W.heap.size W w3:=hb2.trans (hb3'.mono hb2.size)
   have HO3:=hidP (owns_below ho2 hb3')
   refine hK _ _ (held_some ((HS0.out _).2 hb3)) ?_
   clear hK K hb3' ho2
   refine wpT_loud 5 (by rfl) (by kernel_rfl) (by kernel_rfl) ?_
   intro K hK
   go_wp2_with fail
   generalize hV:World.alloc w3 _=V
   have hbV':Below w3.heap.size w3 V:=by rw [← hV];exact (Below.refl _ _).alloc (Nat.le_refl _) _
   have hb4:Below W.heap.size W V:=hb3.trans (hbV'.mono hb3.size)
   have HO:=hidP (owns_below HO3.out hbV')
   have HC:Hid (V.cell? ⟨w3.heap.size,0,none⟩=some (.int .i64 se.piece)∧V.cell? ⟨w3.heap.size,1,none⟩=some (.int .i64 se.side)):=by
    unfold Hid
    rw [← hV]
    constructor <;> simp [go_sem]
   refine hK _ _ (held_some ((HS0.out _).2 hb4)) ?_
   clear hK K hV HO3 hbV'
   have hz4:=hb4.size
   refine wpT_loud 6 (by rfl) (by kernel_rfl) (by kernel_rfl) ?_
   intro K hK
   go_wp2_with (at_builtin;refine wpList_onto rfl (.tmp 12) (.tmp 15) 38 rfl W.heap.size 46 _ 2 16 Tryz.underlying38 Tryz.infoStep rfl (by decide) (.slice x2 p.steps.length y2) p.steps.length (flatE p.steps) rfl HO.out ⟨w3.heap.size,0,none⟩ 1 1 [.int .i64 se.piece,.int .i64 se.side] rfl rfl (news1 HC.out.1 HC.out.2) (by simp [Value.oneCell']) (by unfold maxLen;omega) (by omega) (by omega) ?_;intro x6 y6 w6 ho6 hb6';rw [flatE_push] at ho6;have HO6:=hidP ho6;have hb6:Below W.heap.size W w6:=hb4.trans hb6';clear ho6 hb6')
   refine hK _ _ (held_some ((HS0.out _).2 hb6)) ?_
   clear hK K
   (refine wpT_sea 7 ?_;intro K hK;go_big_quiet_op;go_big_quiet_on)
   refine wpT_done (by kernel_rfl) ?_
   have hr6:=HRP.out.of_block (hb6.block _ HRP.out.lt)
   have s3:=hr6.cell (i:=3) (by omega)
   have f3:=hr6.frozen 3
   have hz6:=hr6.lt
   have HR7:=hidP (hr6.set 3 (.slice x6 (p.steps.length+1) y6))
   clear r0 r1 r3 hS1 hne hr6
   go_wp2_with fail
   go_meet
   exact ⟨x6,y6,HR7.out,ownsRow_setCell_below HO6.out (a:=⟨w.heap.size,3,none⟩) (by simp only [];omega) _,(Only.of_below (S:=fun k=>k=w.heap.size) hb6).setCell (p:=⟨w.heap.size,3,none⟩) (Or.inl rfl) _⟩
 case rest =>
  obtain ⟨x,y,hr,ho,hO⟩:=hcut
  have HO:=hidP ho
  have hbc:Below w.heap.size w wc:=HBW.out.trans (hO.below (by omega) (fun k hk e=>by omega))
  have HBC:=hidP hbc
  replace q0:=hO.cell q0 (by show ¬ w.heap.size+1=w.heap.size;omega)
  replace q1:=hO.cell q1 (by show ¬ w.heap.size+1=w.heap.size;omega)
  replace q2:=hO.cell q2 (by show ¬ w.heap.size+1=w.heap.size;omega)
  replace q3:=hO.cell q3 (by show ¬ w.heap.size+1=w.heap.size;omega)
  obtain ⟨rf,hrf⟩:=HRR.out
  have hrR:=hrf.of_block (hO.block _ hrf.lt (by omega))
  have c0:wc.cell? ⟨w.heap.size,0,none⟩=some (.int .i64 p.start):=(hr.cell (i:=0) (by omega)).trans (by rw [← hPF];rfl)
  have c1:wc.cell? ⟨w.heap.size,1,none⟩=some (.int .i64 p.stop):=(hr.cell (i:=1) (by omega)).trans (by rw [← hPF];rfl)
  have c2:wc.cell? ⟨w.heap.size,2,none⟩=some (.bool p.ended):=(hr.cell (i:=2) (by omega)).trans (by rw [← hPF];rfl)
  have c3:wc.cell? ⟨w.heap.size,3,none⟩=some (.slice x (p.steps.length+1) y):=(hr.cell (i:=3) (by omega)).trans (by simp)
  have c4:wc.cell? ⟨w.heap.size,4,none⟩=some (.slice d.a1 p.lies.length d.c1):=(hr.cell (i:=4) (by omega)).trans (by rw [← hPF];rfl)
  have c5:wc.cell? ⟨w.heap.size,5,none⟩=some (.slice d.a2 p.crosses.length d.c2):=(hr.cell (i:=5) (by omega)).trans (by rw [← hPF];rfl)
  have HRc:=hidP hr
  have HRr:=hidP hrR
  have hzP:=hr.lt
  have hzR:=hrR.lt
  have hzO:=hO.size
  clear r0 r1 r3 hS1 hne hr ho hO hrf hrR HRR HRP hbc e0 e1 p3 HS0 HSF HBW
  have hC:∀ u:World,(Instr.typeAssert (.iface (kindT kd) (.agg #[])) 149 208 true).run Tryz.prog u = .ok (.tuple #[.agg #[],.bool (decide (kd=4))]) u:=fun u=>isC u _ kd hk1 hk4
  have hSw:∀ u:World,(Instr.typeAssert (.iface (kindT kd) (.agg #[])) 149 207 true).run Tryz.prog u = .ok (.tuple #[.agg #[],.bool (decide (kd=3))]) u:=fun u=>isS u _ kd hk1 hk4
  generalize kindT kd=kt at q3 hC hSw
  by_cases hkd4:kd=4
  ·rw [decide_eq_true hkd4] at hC
   have HE:Hid (overI p j k t kd en=({ p with steps:=p.steps++[se],crosses:=p.crosses++[(j:Int)] },true)):=by
    unfold Hid overI
    rw [hse,if_pos hkd4]
   clear hkd4
   go_upto_region 4 with fail
   obtain ⟨S4,hS⟩:∃ S:World→Prop,∀ u,S u↔Below wc.heap.size wc u:=⟨_,fun _=>Iff.rfl⟩
   have HS0:=hidP hS
   have r0:∀ u:Held S4,World.cell? u.val ⟨w.heap.size+1,0,none⟩=some (.int .i64 (j:Int)):=fun u=>cell_later ((hS u.val).1 u.2) q0
   have r3:∀ u:Held S4,World.cell? u.val ⟨w.heap.size,5,none⟩=some (.slice d.a2 p.crosses.length d.c2):=fun u=>cell_later ((hS u.val).1 u.2) c5
   have hS1:S4 wc.drew:=(hS _).2 ((Below.refl _ _).drew)
   have hne:=held_ne hS1
   clear hS
   refine wp_region_tree (fun w' => ∃ u:Held S4,w'=u.val) 8 (by kernel_rfl) (by kernel_rfl) (held_some hS1) ?_
   (refine wpT_sea 0 ?_;intro K hK;go_big_quiet_op;go_big_quiet_on);(refine wpT_sea 1 ?_;intro K hK;go_big_quiet_op;go_big_quiet_on)
   (refine wpT_sea 3 ?_;intro K hK;go_big_quiet_op;go_big_quiet_on);(refine wpT_sea 4 ?_;intro K hK;go_big_quiet_op;go_big_quiet_on)
   refine wpT_loud2 2 5 (by rfl) (by rfl) (by kernel_rfl) (by kernel_rfl) (by kernel_rfl) ?_ ?_
   ·intro K hK
    go_wp2_with (at_builtin;refine wpList_copy0 rfl (.tmp 24) 40 rfl 3 _ 1 8 Tryz.underlying40 Tryz.infoInt rfl (by decide) d.a2 p.crosses.length d.c2 (flatN p.crosses) rfl h.out.nil2 (flatN_len _) (newsN ((h.out.crosses.below HBC.out).below ((Below.refl _ _).drew))) (flatN_one _) h.out.crosses.1 (by omega) ?_;intro x2 y2 w2 ho2 hb2')
    have hb2:Below wc.heap.size wc w2:=(Below.refl _ _).drew.trans hb2'
    refine hK _ _ (held_some ((HS0.out _).2 hb2)) ?_
    clear hK K hb2'
    refine wpT_loud 5 (by rfl) (by kernel_rfl) (by kernel_rfl) ?_
    intro K hK
    go_wp2_with fail
    generalize hV:World.alloc w2 _=V
    have hbV':Below w2.heap.size w2 V:=by rw [← hV];exact (Below.refl _ _).alloc (Nat.le_refl _) _
    have hb4:Below wc.heap.size wc V:=hb2.trans (hbV'.mono hb2.size)
    have HOl:=hidP (owns_below ho2 hbV')
    have HCl:Hid (V.cell? ⟨w2.heap.size,0,none⟩=some (.int .i64 (j:Int))):=by
     unfold Hid
     rw [← hV]
     simp [go_sem]
    refine hK _ _ (held_some ((HS0.out _).2 hb4)) ?_
    clear hK K hV ho2 hbV'
    have hz4:=hb4.size
    refine wpT_loud 6 (by rfl) (by kernel_rfl) (by kernel_rfl) ?_
    intro K hK
    go_wp2_with (at_builtin;refine wpList_onto rfl (.tmp 25) (.tmp 28) 40 rfl wc.heap.size 3 _ 1 8 Tryz.underlying40 Tryz.infoInt rfl (by decide) (.slice x2 p.crosses.length y2) p.crosses.length (flatN p.crosses) rfl HOl.out ⟨w2.heap.size,0,none⟩ 1 1 [.int .i64 (j:Int)] rfl rfl (news0 HCl.out) (by simp [Value.oneCell']) (by unfold maxLen;omega) (by omega) (by omega) ?_;intro x6 y6 w6 ho6 hb6';rw [flatN_push p.crosses (j:Int)] at ho6;have HO6:=hidP ho6;have hb6:Below wc.heap.size wc w6:=hb4.trans hb6';clear ho6 hb6')
    refine hK _ _ (held_some ((HS0.out _).2 hb6)) ?_
    clear hK K
    (refine wpT_sea 7 ?_;intro K hK;go_big_quiet_op;go_big_quiet_on)
    refine wpT_done (by kernel_rfl) ?_
    have hr6:=HRc.out.of_block (hb6.block _ HRc.out.lt)
    have hR6:=HRr.out.of_block (hb6.block _ HRr.out.lt)
    have s5:=hr6.cell (i:=5) (by omega)
    have f55:=hr6.frozen 5
    have hz6:=hr6.lt
    have hz7:=hR6.lt
    replace c0:=cell_later hb6 c0
    replace c1:=cell_later hb6 c1
    replace c2:=cell_later hb6 c2
    replace c3:=cell_later hb6 c3
    replace c4:=cell_later hb6 c4
    have g0:=hR6.cell (i:=0) (by omega)
    have g1:=hR6.cell (i:=1) (by omega)
    have g2:=hR6.cell (i:=2) (by omega)
    have g3:=hR6.cell (i:=3) (by omega)
    have g4:=hR6.cell (i:=4) (by omega)
    have g5:=hR6.cell (i:=5) (by omega)
    have f0:=hR6.frozen 0
    have f1:=hR6.frozen 1
    have f2:=hR6.frozen 2
    have f3:=hR6.frozen 3
    have f4:=hR6.frozen 4
    have f5:=hR6.frozen 5
    have HW6:=hidP (six_cells (hR6.setOther (a:=⟨w.heap.size,5,none⟩) (by simp only [ne_eq];omega) (.slice x6 (p.crosses.length+1) y6)) (.int .i64 p.start) (.int .i64 p.stop) (.bool p.ended) (.slice x (p.steps.length+1) y) (.slice d.a1 p.lies.length d.c1) (.slice x6 (p.crosses.length+1) y6))
    have HOs:=hidP (six_owns (ownsRow_setCell_below (owns_below HO.out hb6) (a:=⟨w.heap.size,5,none⟩) (by simp only [];omega) (.slice x6 (p.crosses.length+1) y6)) (b:=w.heap.size+1+1+1) (by omega) (.int .i64 p.start) (.int .i64 p.stop) (.bool p.ended) (.slice x (p.steps.length+1) y) (.slice d.a1 p.lies.length d.c1) (.slice x6 (p.crosses.length+1) y6))
    have HOL:=hidP (six_owns (ownsRow_setCell_below HO6.out (a:=⟨w.heap.size,5,none⟩) (by simp only [];omega) (.slice x6 (p.crosses.length+1) y6)) (b:=w.heap.size+1+1+1) (by omega) (.int .i64 p.start) (.int .i64 p.stop) (.bool p.ended) (.slice x (p.steps.length+1) y) (.slice d.a1 p.lies.length d.c1) (.slice x6 (p.crosses.length+1) y6))
    have HBF:=hidP (six_below ((HBC.out.trans (hb6.mono HBC.out.size)).setCell (p:=⟨w.heap.size,5,none⟩) (Nat.le_refl _) (.slice x6 (p.crosses.length+1) y6)) (b:=w.heap.size+1+1+1) (by omega) (.int .i64 p.start) (.int .i64 p.stop) (.bool p.ended) (.slice x (p.steps.length+1) y) (.slice d.a1 p.lies.length d.c1) (.slice x6 (p.crosses.length+1) y6))
    clear r0 r3 hS1 hne hr6 hR6 c5
    go_wp2_with fail
    obtain ⟨k0,k1,k2,k3,k4,k5⟩:=HW6.out
    unfold six at k0 k1 k2 k3 k4 k5
    exact bodyPost_ret (v:=.tuple #[.agg #[.int .i64 p.start,.int .i64 p.stop,.bool p.ended,.slice x (p.steps.length+1) y,.slice d.a1 p.lies.length d.c1,.slice x6 (p.crosses.length+1) y6],.bool true]) (by simp [results,Tryz.results168,go_sem,k0,k1,k2,k3,k4,k5]) rfl ⟨⟨x,y,d.a1,d.c1,x6,y6⟩,by rw [HE.out];simp,by rw [HE.out];exact PSound.grow3 (by have h2:=HBC.out.size;omega) (by have h2:=HBC.out.size;omega) HOs.out HOL.out,HBF.out⟩
   ·intro K hK
    go_wp2_with fail
    generalize hV:World.drew (World.alloc wc _)=V
    have hb4:Below wc.heap.size wc V:=by rw [← hV];exact ((Below.refl _ _).alloc (Nat.le_refl _) _).drew
    have HC0:Hid (V.cell? ⟨wc.heap.size,0,none⟩=some (.int .i64 (j:Int))):=by
     unfold Hid
     rw [← hV]
     simp [go_sem]
    refine hK _ _ (held_some ((HS0.out _).2 hb4)) ?_
    clear hK K hV
    refine wpT_loud 2 (by rfl) (by kernel_rfl) (by kernel_rfl) ?_
    intro K hK
    go_wp2_with (at_builtin;refine wpList_copy0 rfl (.tmp 24) 40 rfl 3 _ 1 8 Tryz.underlying40 Tryz.infoInt rfl (by decide) d.a2 p.crosses.length d.c2 (flatN p.crosses) rfl h.out.nil2 (flatN_len _) (newsN ((h.out.crosses.below HBC.out).below hb4)) (flatN_one _) h.out.crosses.1 (by omega) ?_;intro x2 y2 w2 ho2 hb2')
    have hb2:Below wc.heap.size wc w2:=hb4.trans (hb2'.mono hb4.size)
    have HOl:=hidP (owns_base ho2 hb4.size)
    have HCl:Hid (w2.cell? ⟨wc.heap.size,0,none⟩=some (.int .i64 (j:Int))):=cell_later hb2' HC0.out
    refine hK _ _ (held_some ((HS0.out _).2 hb2)) ?_
    clear hK K hb2' ho2 HC0 hb4
    have hz2:=hb2.size
    refine wpT_loud 6 (by rfl) (by kernel_rfl) (by kernel_rfl) ?_
    intro K hK
    go_wp2_with (at_builtin;refine wpList_onto rfl (.tmp 25) (.tmp 28) 40 rfl wc.heap.size 3 _ 1 8 Tryz.underlying40 Tryz.infoInt rfl (by decide) (.slice x2 p.crosses.length y2) p.crosses.length (flatN p.crosses) rfl HOl.out ⟨wc.heap.size,0,none⟩ 1 1 [.int .i64 (j:Int)] rfl rfl (news0 HCl.out) (by simp [Value.oneCell']) (by unfold maxLen;omega) (by omega) (by omega) ?_;intro x6 y6 w6 ho6 hb6';rw [flatN_push p.crosses (j:Int)] at ho6;have HO6:=hidP ho6;have hb6:Below wc.heap.size wc w6:=hb2.trans hb6';clear ho6 hb6')
    refine hK _ _ (held_some ((HS0.out _).2 hb6)) ?_
    clear hK K
    (refine wpT_sea 7 ?_;intro K hK;go_big_quiet_op;go_big_quiet_on)
    refine wpT_done (by kernel_rfl) ?_
    have hr6:=HRc.out.of_block (hb6.block _ HRc.out.lt)
    have hR6:=HRr.out.of_block (hb6.block _ HRr.out.lt)
    have s5:=hr6.cell (i:=5) (by omega)
    have f55:=hr6.frozen 5
    have hz6:=hr6.lt
    have hz7:=hR6.lt
    replace c0:=cell_later hb6 c0
    replace c1:=cell_later hb6 c1
    replace c2:=cell_later hb6 c2
    replace c3:=cell_later hb6 c3
    replace c4:=cell_later hb6 c4
    have g0:=hR6.cell (i:=0) (by omega)
    have g1:=hR6.cell (i:=1) (by omega)
    have g2:=hR6.cell (i:=2) (by omega)
    have g3:=hR6.cell (i:=3) (by omega)
    have g4:=hR6.cell (i:=4) (by omega)
    have g5:=hR6.cell (i:=5) (by omega)
    have f0:=hR6.frozen 0
    have f1:=hR6.frozen 1
    have f2:=hR6.frozen 2
    have f3:=hR6.frozen 3
    have f4:=hR6.frozen 4
    have f5:=hR6.frozen 5
    have HW6:=hidP (six_cells (hR6.setOther (a:=⟨w.heap.size,5,none⟩) (by simp only [ne_eq];omega) (.slice x6 (p.crosses.length+1) y6)) (.int .i64 p.start) (.int .i64 p.stop) (.bool p.ended) (.slice x (p.steps.length+1) y) (.slice d.a1 p.lies.length d.c1) (.slice x6 (p.crosses.length+1) y6))
    have HOs:=hidP (six_owns (ownsRow_setCell_below (owns_below HO.out hb6) (a:=⟨w.heap.size,5,none⟩) (by simp only [];omega) (.slice x6 (p.crosses.length+1) y6)) (b:=w.heap.size+1+1+1) (by omega) (.int .i64 p.start) (.int .i64 p.stop) (.bool p.ended) (.slice x (p.steps.length+1) y) (.slice d.a1 p.lies.length d.c1) (.slice x6 (p.crosses.length+1) y6))
    have HOL:=hidP (six_owns (ownsRow_setCell_below HO6.out (a:=⟨w.heap.size,5,none⟩) (by simp only [];omega) (.slice x6 (p.crosses.length+1) y6)) (b:=w.heap.size+1+1+1) (by omega) (.int .i64 p.start) (.int .i64 p.stop) (.bool p.ended) (.slice x (p.steps.length+1) y) (.slice d.a1 p.lies.length d.c1) (.slice x6 (p.crosses.length+1) y6))
    have HBF:=hidP (six_below ((HBC.out.trans (hb6.mono HBC.out.size)).setCell (p:=⟨w.heap.size,5,none⟩) (Nat.le_refl _) (.slice x6 (p.crosses.length+1) y6)) (b:=w.heap.size+1+1+1) (by omega) (.int .i64 p.start) (.int .i64 p.stop) (.bool p.ended) (.slice x (p.steps.length+1) y) (.slice d.a1 p.lies.length d.c1) (.slice x6 (p.crosses.length+1) y6))
    clear r0 r3 hS1 hne hr6 hR6 c5
    go_wp2_with fail
    obtain ⟨k0,k1,k2,k3,k4,k5⟩:=HW6.out
    unfold six at k0 k1 k2 k3 k4 k5
    exact bodyPost_ret (v:=.tuple #[.agg #[.int .i64 p.start,.int .i64 p.stop,.bool p.ended,.slice x (p.steps.length+1) y,.slice d.a1 p.lies.length d.c1,.slice x6 (p.crosses.length+1) y6],.bool true]) (by simp [results,Tryz.results168,go_sem,k0,k1,k2,k3,k4,k5]) rfl ⟨⟨x,y,d.a1,d.c1,x6,y6⟩,by rw [HE.out];simp,by rw [HE.out];exact PSound.grow3 (by have h2:=HBC.out.size;omega) (by have h2:=HBC.out.size;omega) HOs.out HOL.out,HBF.out⟩
  ·by_cases hkd3:kd=3
   ·rw [decide_eq_false hkd4] at hC
    rw [decide_eq_true hkd3] at hSw
    obtain ⟨lf,hlf⟩:∃ lf,lieF p.lies j=lf:=⟨_,rfl⟩
    have HX:Hid (overI p j k t kd en=if lf≠0 then ({ p with steps:=p.steps++[se] },decide (lf=(max k t:Nat))) else ({ p with steps:=p.steps++[se],lies:=p.lies++[⟨j,(max k t:Nat)⟩] },true)):=by
     unfold Hid overI
     rw [hse,if_neg hkd4,if_pos hkd3,hlf]
    have HLI:Hid (∀ u:World,Calls Tryz.prog 176 #[.agg #[.int .i64 (j:Int),.int .i64 (k:Int),.int .i64 (t:Int),.iface kt (.agg #[])]] u fun e w'=>e = .returned (.agg #[.int .i64 (j:Int),.int .i64 ((max k t:Nat):Int)])∧Below u.heap.size u w'):=fun u=>lie_any j k t _ u
    have HLO:Hid (∀ u:World,Below w.heap.size w u→Calls Tryz.prog 177 #[.slice d.a1 p.lies.length d.c1,.int .i64 (j:Int)] u fun e w'=>e = .returned (.int .i64 lf)∧Below u.heap.size u w'):=fun u hu=>by
     rw [← hlf]
     exact lieOf_any _ _ p.lies (j:Int) u (h.out.lies.below hu)
    generalize max k t=mx at HX HLI
    clear hkd4 hkd3
    go_upto_region 7 with (go_at_call 176;refine (HLI.out _).mono ?_;rintro e w2 ⟨rfl,hb2⟩)
    generalize hV:World.alloc w2 _=V
    have hbV':Below w2.heap.size w2 V:=by rw [← hV];exact (Below.refl _ _).alloc (Nat.le_refl _) _
    have hbV:Below wc.heap.size wc V:=hb2.trans (hbV'.mono hb2.size)
    have z0:V.cell? ⟨w2.heap.size,0,none⟩=some (.int .i64 (j:Int)):=by rw [← hV];simp [go_sem]
    have z1:V.cell? ⟨w2.heap.size,1,none⟩=some (.int .i64 (mx:Int)):=by rw [← hV];simp [go_sem]
    have hzZ:=cellLt z0
    dsimp only at hzZ
    have hzL:=hb2.size
    generalize w2.heap.size=Lb at z0 z1 hzZ hzL ⊢
    have HOV:=hidP (owns_below HO.out hbV)
    have HRcV:=hidP (HRc.out.of_block (hbV.block _ HRc.out.lt))
    have HRrV:=hidP (HRr.out.of_block (hbV.block _ HRr.out.lt))
    have HBV:=hidP (HBC.out.trans (hbV.mono HBC.out.size))
    have HLV:=hidP (HLO.out V HBV.out)
    replace c0:=cell_later hbV c0
    replace c1:=cell_later hbV c1
    replace c2:=cell_later hbV c2
    replace c3:=cell_later hbV c3
    replace c4:=cell_later hbV c4
    replace c5:=cell_later hbV c5
    have hzV:=hbV.size
    clear hV hb2 hbV hbV' HLI HLO HO HRc HRr HBC q0 q1 q2 q3
    go_upto_region 8 with (go_at_call 177;refine HLV.out.mono ?_;rintro e w3 ⟨rfl,hb3⟩)
    replace z0:=cell_later hb3 z0
    replace z1:=cell_later hb3 z1
    replace c0:=cell_later hb3 c0
    replace c1:=cell_later hb3 c1
    replace c2:=cell_later hb3 c2
    replace c3:=cell_later hb3 c3
    replace c4:=cell_later hb3 c4
    replace c5:=cell_later hb3 c5
    have HO:=hidP (owns_below HOV.out hb3)
    have HRc:=hidP (HRcV.out.of_block (hb3.block _ HRcV.out.lt))
    have HRr:=hidP (HRrV.out.of_block (hb3.block _ HRrV.out.lt))
    have HBC:=hidP (HBV.out.trans (hb3.mono HBV.out.size))
    have hz3:=hb3.size
    have hzZ3:Lb<w3.heap.size:=by omega
    have hzP3:=HRc.out.lt
    have hzR3:=HRr.out.lt
    clear hb3 HOV HRcV HRrV HBV HLV
    by_cases hl0:lf=0
    ·have HE:Hid (overI p j k t kd en=({ p with steps:=p.steps++[se],lies:=p.lies++[⟨(j:Int),(mx:Int)⟩] },true)):=by unfold Hid;rw [HX.out,if_neg (by simpa using hl0)]
     clear HX
     subst hl0
     go_upto_region 10 with fail
     obtain ⟨S,hS⟩:∃ S:World→Prop,∀ u,S u↔Below w3.heap.size w3 u:=⟨_,fun _=>Iff.rfl⟩
     have HS0:=hidP hS
     have r0:∀ u:Held S,World.cell? u.val ⟨Lb,0,none⟩=some (.int .i64 (j:Int)):=fun u=>cell_later ((hS u.val).1 u.2) z0
     have r1:∀ u:Held S,World.cell? u.val ⟨Lb,1,none⟩=some (.int .i64 (mx:Int)):=fun u=>cell_later ((hS u.val).1 u.2) z1
     have r3:∀ u:Held S,World.cell? u.val ⟨w.heap.size,4,none⟩=some (.slice d.a1 p.lies.length d.c1):=fun u=>cell_later ((hS u.val).1 u.2) c4
     have hS1:S w3.drew:=(hS _).2 ((Below.refl _ _).drew)
     have hne:=held_ne hS1
     clear hS
     refine wp_region_tree (fun w' => ∃ u:Held S,w'=u.val) 7 (by kernel_rfl) (by kernel_rfl) (held_some hS1) ?_
     (refine wpT_sea 0 ?_;intro K hK;go_big_quiet_op;go_big_quiet_on);(refine wpT_sea 1 ?_;intro K hK;go_big_quiet_op;go_big_quiet_on)
     (refine wpT_sea 3 ?_;intro K hK;go_big_quiet_op;go_big_quiet_on)
     refine wpT_loud2 2 4 (by rfl) (by rfl) (by kernel_rfl) (by kernel_rfl) (by kernel_rfl) ?_ ?_
     ·intro K hK
      go_wp2_with (at_builtin;refine wpList_copy0 rfl (.tmp 49) 39 rfl 52 _ 2 16 Tryz.underlying39 Tryz.infoLie rfl (by decide) d.a1 p.lies.length d.c1 (flatE p.lies) rfl h.out.nil1 (flatE_len _) (newsE ((h.out.lies.below HBC.out).below ((Below.refl _ _).drew))) (flatE_one _) h.out.lies.1 (by omega) ?_;intro x2 y2 w2 ho2 hb2')
      have hb2:Below w3.heap.size w3 w2:=(Below.refl _ _).drew.trans hb2'
      refine hK _ _ (held_some ((HS0.out _).2 hb2)) ?_
      clear hK K hb2'
      refine wpT_loud 4 (by rfl) (by kernel_rfl) (by kernel_rfl) ?_
      intro K hK
      go_wp2_with fail
      generalize hV:World.alloc w2 _=V
      have hbV':Below w2.heap.size w2 V:=by rw [← hV];exact (Below.refl _ _).alloc (Nat.le_refl _) _
      have hb4:Below w3.heap.size w3 V:=hb2.trans (hbV'.mono hb2.size)
      have HOl:=hidP (owns_below ho2 hbV')
      have HCl:Hid (V.cell? ⟨w2.heap.size,0,none⟩=some (.int .i64 (j:Int))∧V.cell? ⟨w2.heap.size,1,none⟩=some (.int .i64 (mx:Int))):=by
       unfold Hid
       rw [← hV]
       constructor <;> simp [go_sem]
      refine hK _ _ (held_some ((HS0.out _).2 hb4)) ?_
      clear hK K hV ho2 hbV'
      have hz4:=hb4.size
      refine wpT_loud 5 (by rfl) (by kernel_rfl) (by kernel_rfl) ?_
      intro K hK
      go_wp2_with (at_builtin;refine wpList_onto rfl (.tmp 50) (.tmp 52) 39 rfl w3.heap.size 52 _ 2 16 Tryz.underlying39 Tryz.infoLie rfl (by decide) (.slice x2 p.lies.length y2) p.lies.length (flatE p.lies) rfl HOl.out ⟨w2.heap.size,0,none⟩ 1 1 [.int .i64 (j:Int),.int .i64 (mx:Int)] rfl rfl (news1 HCl.out.1 HCl.out.2) (by simp [Value.oneCell']) (by unfold maxLen;omega) (by omega) (by omega) ?_;intro x6 y6 w6 ho6 hb6';rw [flatE_push p.lies ⟨(j:Int),(mx:Int)⟩] at ho6;have HO6:=hidP ho6;have hb6:Below w3.heap.size w3 w6:=hb4.trans hb6';clear ho6 hb6')
      refine hK _ _ (held_some ((HS0.out _).2 hb6)) ?_
      clear hK K
      (refine wpT_sea 6 ?_;intro K hK;go_big_quiet_op;go_big_quiet_on)
      refine wpT_done (by kernel_rfl) ?_
      have hr6:=HRc.out.of_block (hb6.block _ HRc.out.lt)
      have hR6:=HRr.out.of_block (hb6.block _ HRr.out.lt)
      have s4:=hr6.cell (i:=4) (by omega)
      have f44:=hr6.frozen 4
      have hz6:=hr6.lt
      have hz7:=hR6.lt
      replace c0:=cell_later hb6 c0
      replace c1:=cell_later hb6 c1
      replace c2:=cell_later hb6 c2
      replace c3:=cell_later hb6 c3
      replace c5:=cell_later hb6 c5
      have g0:=hR6.cell (i:=0) (by omega)
      have g1:=hR6.cell (i:=1) (by omega)
      have g2:=hR6.cell (i:=2) (by omega)
      have g3:=hR6.cell (i:=3) (by omega)
      have g4:=hR6.cell (i:=4) (by omega)
      have g5:=hR6.cell (i:=5) (by omega)
      have f0:=hR6.frozen 0
      have f1:=hR6.frozen 1
      have f2:=hR6.frozen 2
      have f3:=hR6.frozen 3
      have f4:=hR6.frozen 4
      have f5:=hR6.frozen 5
      have HW6:=hidP (six_cells (hR6.setOther (a:=⟨w.heap.size,4,none⟩) (by simp only [ne_eq];omega) (.slice x6 (p.lies.length+1) y6)) (.int .i64 p.start) (.int .i64 p.stop) (.bool p.ended) (.slice x (p.steps.length+1) y) (.slice x6 (p.lies.length+1) y6) (.slice d.a2 p.crosses.length d.c2))
      have HOs:=hidP (six_owns (ownsRow_setCell_below (owns_below HO.out hb6) (a:=⟨w.heap.size,4,none⟩) (by simp only [];omega) (.slice x6 (p.lies.length+1) y6)) (b:=w.heap.size+1+1+1) (by omega) (.int .i64 p.start) (.int .i64 p.stop) (.bool p.ended) (.slice x (p.steps.length+1) y) (.slice x6 (p.lies.length+1) y6) (.slice d.a2 p.crosses.length d.c2))
      have HOL:=hidP (six_owns (ownsRow_setCell_below HO6.out (a:=⟨w.heap.size,4,none⟩) (by simp only [];omega) (.slice x6 (p.lies.length+1) y6)) (b:=w.heap.size+1+1+1) (by omega) (.int .i64 p.start) (.int .i64 p.stop) (.bool p.ended) (.slice x (p.steps.length+1) y) (.slice x6 (p.lies.length+1) y6) (.slice d.a2 p.crosses.length d.c2))
      have HBF:=hidP (six_below ((HBC.out.trans (hb6.mono HBC.out.size)).setCell (p:=⟨w.heap.size,4,none⟩) (Nat.le_refl _) (.slice x6 (p.lies.length+1) y6)) (b:=w.heap.size+1+1+1) (by omega) (.int .i64 p.start) (.int .i64 p.stop) (.bool p.ended) (.slice x (p.steps.length+1) y) (.slice x6 (p.lies.length+1) y6) (.slice d.a2 p.crosses.length d.c2))
      clear r0 r1 r3 hS1 hne hr6 hR6 z0 z1 c4
      go_wp2_with fail
      obtain ⟨k0,k1,k2,k3,k4,k5⟩:=HW6.out
      unfold six at k0 k1 k2 k3 k4 k5
      exact bodyPost_ret (v:=.tuple #[.agg #[.int .i64 p.start,.int .i64 p.stop,.bool p.ended,.slice x (p.steps.length+1) y,.slice x6 (p.lies.length+1) y6,.slice d.a2 p.crosses.length d.c2],.bool true]) (by simp [results,Tryz.results168,go_sem,k0,k1,k2,k3,k4,k5]) rfl ⟨⟨x,y,x6,y6,d.a2,d.c2⟩,by rw [HE.out];simp,by rw [HE.out];exact PSound.grow2 (by have h2:=HBC.out.size;omega) (by have h2:=HBC.out.size;omega) HOs.out HOL.out,HBF.out⟩
     ·intro K hK
      go_wp2_with fail
      generalize hV:World.drew (World.alloc w3 _)=V
      have hb4:Below w3.heap.size w3 V:=by rw [← hV];exact ((Below.refl _ _).alloc (Nat.le_refl _) _).drew
      have HC0:Hid (V.cell? ⟨w3.heap.size,0,none⟩=some (.int .i64 (j:Int))∧V.cell? ⟨w3.heap.size,1,none⟩=some (.int .i64 (mx:Int))):=by
       unfold Hid
       rw [← hV]
       constructor <;> simp [go_sem]
      refine hK _ _ (held_some ((HS0.out _).2 hb4)) ?_
      clear hK K hV
      refine wpT_loud 2 (by rfl) (by kernel_rfl) (by kernel_rfl) ?_
      intro K hK
      go_wp2_with (at_builtin;refine wpList_copy0 rfl (.tmp 49) 39 rfl 52 _ 2 16 Tryz.underlying39 Tryz.infoLie rfl (by decide) d.a1 p.lies.length d.c1 (flatE p.lies) rfl h.out.nil1 (flatE_len _) (newsE ((h.out.lies.below HBC.out).below hb4)) (flatE_one _) h.out.lies.1 (by omega) ?_;intro x2 y2 w2 ho2 hb2')
      have hb2:Below w3.heap.size w3 w2:=hb4.trans (hb2'.mono hb4.size)
      have HOl:=hidP (owns_base ho2 hb4.size)
      have HCl:Hid (w2.cell? ⟨w3.heap.size,0,none⟩=some (.int .i64 (j:Int))∧w2.cell? ⟨w3.heap.size,1,none⟩=some (.int .i64 (mx:Int))):=⟨cell_later hb2' HC0.out.1,cell_later hb2' HC0.out.2⟩
      refine hK _ _ (held_some ((HS0.out _).2 hb2)) ?_
      clear hK K hb2' ho2 HC0 hb4
      have hz2:=hb2.size
      refine wpT_loud 5 (by rfl) (by kernel_rfl) (by kernel_rfl) ?_
      intro K hK
      go_wp2_with (at_builtin;refine wpList_onto rfl (.tmp 50) (.tmp 52) 39 rfl w3.heap.size 52 _ 2 16 Tryz.underlying39 Tryz.infoLie rfl (by decide) (.slice x2 p.lies.length y2) p.lies.length (flatE p.lies) rfl HOl.out ⟨w3.heap.size,0,none⟩ 1 1 [.int .i64 (j:Int),.int .i64 (mx:Int)] rfl rfl (news1 HCl.out.1 HCl.out.2) (by simp [Value.oneCell']) (by unfold maxLen;omega) (by omega) (by omega) ?_;intro x6 y6 w6 ho6 hb6';rw [flatE_push p.lies ⟨(j:Int),(mx:Int)⟩] at ho6;have HO6:=hidP ho6;have hb6:Below w3.heap.size w3 w6:=hb2.trans hb6';clear ho6 hb6')
      refine hK _ _ (held_some ((HS0.out _).2 hb6)) ?_
      clear hK K
      (refine wpT_sea 6 ?_;intro K hK;go_big_quiet_op;go_big_quiet_on)
      refine wpT_done (by kernel_rfl) ?_
      have hr6:=HRc.out.of_block (hb6.block _ HRc.out.lt)
      have hR6:=HRr.out.of_block (hb6.block _ HRr.out.lt)
      have s4:=hr6.cell (i:=4) (by omega)
      have f44:=hr6.frozen 4
      have hz6:=hr6.lt
      have hz7:=hR6.lt
      replace c0:=cell_later hb6 c0
      replace c1:=cell_later hb6 c1
      replace c2:=cell_later hb6 c2
      replace c3:=cell_later hb6 c3
      replace c5:=cell_later hb6 c5
      have g0:=hR6.cell (i:=0) (by omega)
      have g1:=hR6.cell (i:=1) (by omega)
      have g2:=hR6.cell (i:=2) (by omega)
      have g3:=hR6.cell (i:=3) (by omega)
      have g4:=hR6.cell (i:=4) (by omega)
      have g5:=hR6.cell (i:=5) (by omega)
      have f0:=hR6.frozen 0
      have f1:=hR6.frozen 1
      have f2:=hR6.frozen 2
      have f3:=hR6.frozen 3
      have f4:=hR6.frozen 4
      have f5:=hR6.frozen 5
      have HW6:=hidP (six_cells (hR6.setOther (a:=⟨w.heap.size,4,none⟩) (by simp only [ne_eq];omega) (.slice x6 (p.lies.length+1) y6)) (.int .i64 p.start) (.int .i64 p.stop) (.bool p.ended) (.slice x (p.steps.length+1) y) (.slice x6 (p.lies.length+1) y6) (.slice d.a2 p.crosses.length d.c2))
      have HOs:=hidP (six_owns (ownsRow_setCell_below (owns_below HO.out hb6) (a:=⟨w.heap.size,4,none⟩) (by simp only [];omega) (.slice x6 (p.lies.length+1) y6)) (b:=w.heap.size+1+1+1) (by omega) (.int .i64 p.start) (.int .i64 p.stop) (.bool p.ended) (.slice x (p.steps.length+1) y) (.slice x6 (p.lies.length+1) y6) (.slice d.a2 p.crosses.length d.c2))
      have HOL:=hidP (six_owns (ownsRow_setCell_below HO6.out (a:=⟨w.heap.size,4,none⟩) (by simp only [];omega) (.slice x6 (p.lies.length+1) y6)) (b:=w.heap.size+1+1+1) (by omega) (.int .i64 p.start) (.int .i64 p.stop) (.bool p.ended) (.slice x (p.steps.length+1) y) (.slice x6 (p.lies.length+1) y6) (.slice d.a2 p.crosses.length d.c2))
      have HBF:=hidP (six_below ((HBC.out.trans (hb6.mono HBC.out.size)).setCell (p:=⟨w.heap.size,4,none⟩) (Nat.le_refl _) (.slice x6 (p.lies.length+1) y6)) (b:=w.heap.size+1+1+1) (by omega) (.int .i64 p.start) (.int .i64 p.stop) (.bool p.ended) (.slice x (p.steps.length+1) y) (.slice x6 (p.lies.length+1) y6) (.slice d.a2 p.crosses.length d.c2))
      clear r0 r1 r3 hS1 hne hr6 hR6 z0 z1 c4
      go_wp2_with fail
      obtain ⟨k0,k1,k2,k3,k4,k5⟩:=HW6.out
      unfold six at k0 k1 k2 k3 k4 k5
      exact bodyPost_ret (v:=.tuple #[.agg #[.int .i64 p.start,.int .i64 p.stop,.bool p.ended,.slice x (p.steps.length+1) y,.slice x6 (p.lies.length+1) y6,.slice d.a2 p.crosses.length d.c2],.bool true]) (by simp [results,Tryz.results168,go_sem,k0,k1,k2,k3,k4,k5]) rfl ⟨⟨x,y,x6,y6,d.a2,d.c2⟩,by rw [HE.out];simp,by rw [HE.out];exact PSound.grow2 (by have h2:=HBC.out.size;omega) (by have h2:=HBC.out.size;omega) HOs.out HOL.out,HBF.out⟩
    ·have HE:Hid (overI p j k t kd en=({ p with steps:=p.steps++[se] },decide (lf=(mx:Int)))):=by unfold Hid;rw [HX.out,if_pos hl0]
     have hlb:(lf != 0)=true:=by simpa using hl0
     have g0:=HRr.out.cell (i:=0) (by omega)
     have g1:=HRr.out.cell (i:=1) (by omega)
     have g2:=HRr.out.cell (i:=2) (by omega)
     have g3:=HRr.out.cell (i:=3) (by omega)
     have g4:=HRr.out.cell (i:=4) (by omega)
     have g5:=HRr.out.cell (i:=5) (by omega)
     have f0:=HRr.out.frozen 0
     have f1:=HRr.out.frozen 1
     have f2:=HRr.out.frozen 2
     have f3:=HRr.out.frozen 3
     have f4:=HRr.out.frozen 4
     have f5:=HRr.out.frozen 5
     have HK6:=hidP (six_cells HRr.out (.int .i64 p.start) (.int .i64 p.stop) (.bool p.ended) (.slice x (p.steps.length+1) y) (.slice d.a1 p.lies.length d.c1) (.slice d.a2 p.crosses.length d.c2))
     have hoU:=hidP (six_owns HO.out (b:=w.heap.size+1+1+1) (by omega) (.int .i64 p.start) (.int .i64 p.stop) (.bool p.ended) (.slice x (p.steps.length+1) y) (.slice d.a1 p.lies.length d.c1) (.slice d.a2 p.crosses.length d.c2))
     have hbU:=hidP (six_below HBC.out (b:=w.heap.size+1+1+1) (by omega) (.int .i64 p.start) (.int .i64 p.stop) (.bool p.ended) (.slice x (p.steps.length+1) y) (.slice d.a1 p.lies.length d.c1) (.slice d.a2 p.crosses.length d.c2))
     clear HX hl0
     go_upto_region 9 with fail
     obtain ⟨S9,hS9⟩:∃ S:World→Prop,∀ u,S u↔Only (fun k=>k=w.heap.size+1+1+1) w3 u:=⟨_,fun _=>Iff.rfl⟩
     have HS9:=hidP hS9
     have r6:∀ u:Held S9,World.cell? u.val ⟨Lb,1,none⟩=some (.int .i64 (mx:Int)):=fun u=>((hS9 u.val).1 u.2).cell z1 (by show ¬ Lb=w.heap.size+1+1+1;omega)
     have r0:∀ u:Held S9,World.cell? u.val ⟨w.heap.size,0,none⟩=some (.int .i64 p.start):=fun u=>((hS9 u.val).1 u.2).cell c0 (by show ¬ w.heap.size=w.heap.size+1+1+1;omega)
     have r1:∀ u:Held S9,World.cell? u.val ⟨w.heap.size,1,none⟩=some (.int .i64 p.stop):=fun u=>((hS9 u.val).1 u.2).cell c1 (by show ¬ w.heap.size=w.heap.size+1+1+1;omega)
     have r2:∀ u:Held S9,World.cell? u.val ⟨w.heap.size,2,none⟩=some (.bool p.ended):=fun u=>((hS9 u.val).1 u.2).cell c2 (by show ¬ w.heap.size=w.heap.size+1+1+1;omega)
     have r3:∀ u:Held S9,World.cell? u.val ⟨w.heap.size,3,none⟩=some (.slice x (p.steps.length+1) y):=fun u=>((hS9 u.val).1 u.2).cell c3 (by show ¬ w.heap.size=w.heap.size+1+1+1;omega)
     have r4:∀ u:Held S9,World.cell? u.val ⟨w.heap.size,4,none⟩=some (.slice d.a1 p.lies.length d.c1):=fun u=>((hS9 u.val).1 u.2).cell c4 (by show ¬ w.heap.size=w.heap.size+1+1+1;omega)
     have r5:∀ u:Held S9,World.cell? u.val ⟨w.heap.size,5,none⟩=some (.slice d.a2 p.crosses.length d.c2):=fun u=>((hS9 u.val).1 u.2).cell c5 (by show ¬ w.heap.size=w.heap.size+1+1+1;omega)
     have hS1:S9 w3.drew:=(hS9 _).2 (Only.refl _ _).drew
     have hne:=held_ne hS1
     clear hS9
     refine wp_region_tree (fun w' => ∃ u:Held S9,w'=u.val) 6 (by kernel_rfl) (by kernel_rfl) (held_some hS1) ?_
     (refine wpT_sea 0 ?_;intro K hK;go_big_quiet_op;go_big_quiet_on);(refine wpT_sea 1 ?_;intro K hK;go_big_quiet_op;go_big_quiet_on);(refine wpT_sea 2 ?_;intro K hK;go_big_quiet_op;go_big_quiet_on);(refine wpT_sea 3 ?_;intro K hK;go_big_quiet_op;go_big_quiet_on);(refine wpT_sea 4 ?_;intro K hK;go_big_quiet_op;go_big_quiet_on)
     refine wpT_loud 5 (by rfl) (by kernel_rfl) (by kernel_rfl) ?_
     intro K hK
     go_wp2_with fail
     have hS2:S9 (World.drew (six w3 (w.heap.size+1+1+1) (.int .i64 p.start) (.int .i64 p.stop) (.bool p.ended) (.slice x (p.steps.length+1) y) (.slice d.a1 p.lies.length d.c1) (.slice d.a2 p.crosses.length d.c2))):=(HS9.out _).2 (six_only _ _ _ _ _ _ _ _).drew
     unfold six at hS2
     refine hK _ _ (held_some hS2) ?_
     clear hK K r0 r1 r2 r3 r4 r5 r6 hS1 hS2 hne
     refine wpT_done (by kernel_rfl) ?_
     go_wp2_with fail
     obtain ⟨k0,k1,k2,k3,k4,k5⟩:=HK6.out
     unfold six at k0 k1 k2 k3 k4 k5
     have hkk:=beq_decide lf (mx:Int)
     rw [hkk]
     exact bodyPost_ret (v:=.tuple #[.agg #[.int .i64 p.start,.int .i64 p.stop,.bool p.ended,.slice x (p.steps.length+1) y,.slice d.a1 p.lies.length d.c1,.slice d.a2 p.crosses.length d.c2],.bool (decide (lf=(mx:Int)))]) (by simp [results,Tryz.results168,go_sem,k0,k1,k2,k3,k4,k5]) rfl ⟨⟨x,y,d.a1,d.c1,d.a2,d.c2⟩,by rw [HE.out];simp,by rw [HE.out];exact PSound.grow (by have h2:=HBC.out.size;omega) (owns_drew hoU.out),hbU.out.drew⟩
   ·have HX:Hid (overI p j k t kd en=({ p with steps:=p.steps++[se] },true)):=by
     unfold Hid overI
     rw [hse,if_neg hkd4,if_neg hkd3]
    rw [decide_eq_false hkd4] at hC
    rw [decide_eq_false hkd3] at hSw
    have g0:=HRr.out.cell (i:=0) (by omega)
    have g1:=HRr.out.cell (i:=1) (by omega)
    have g2:=HRr.out.cell (i:=2) (by omega)
    have g3:=HRr.out.cell (i:=3) (by omega)
    have g4:=HRr.out.cell (i:=4) (by omega)
    have g5:=HRr.out.cell (i:=5) (by omega)
    have f0:=HRr.out.frozen 0
    have f1:=HRr.out.frozen 1
    have f2:=HRr.out.frozen 2
    have f3:=HRr.out.frozen 3
    have f4:=HRr.out.frozen 4
    have f5:=HRr.out.frozen 5
    clear hkd4 hkd3
    have K6:=six_cells HRr.out (.int .i64 p.start) (.int .i64 p.stop) (.bool p.ended) (.slice x (p.steps.length+1) y) (.slice d.a1 p.lies.length d.c1) (.slice d.a2 p.crosses.length d.c2)
    have hoU:=hidP (six_owns HO.out (b:=w.heap.size+1+1+1) (by omega) (.int .i64 p.start) (.int .i64 p.stop) (.bool p.ended) (.slice x (p.steps.length+1) y) (.slice d.a1 p.lies.length d.c1) (.slice d.a2 p.crosses.length d.c2))
    have hbU:=hidP (six_below HBC.out (b:=w.heap.size+1+1+1) (by omega) (.int .i64 p.start) (.int .i64 p.stop) (.bool p.ended) (.slice x (p.steps.length+1) y) (.slice d.a1 p.lies.length d.c1) (.slice d.a2 p.crosses.length d.c2))
    have HK6:=hidP K6
    clear K6
    go_wp2_with fail
    obtain ⟨k0,k1,k2,k3,k4,k5⟩:=HK6.out
    unfold six at k0 k1 k2 k3 k4 k5
    exact bodyPost_ret (v:=.tuple #[.agg #[.int .i64 p.start,.int .i64 p.stop,.bool p.ended,.slice x (p.steps.length+1) y,.slice d.a1 p.lies.length d.c1,.slice d.a2 p.crosses.length d.c2],.bool true]) (by simp [results,Tryz.results168,go_sem,k0,k1,k2,k3,k4,k5]) rfl ⟨⟨x,y,d.a1,d.c1,d.a2,d.c2⟩,by rw [HX.out];simp,by rw [HX.out];exact PSound.grow (by have h2:=HBC.out.size;omega) hoU.out,hbU.out⟩
theorem overI_some {js:List MJoint}{p q:MPath}{j k t:Nat}(h:overP js p j k t=some q):overI p j k t (kindE js j) (endE js j t)=(q,true):=by
 unfold overP at h
 unfold overI
 dsimp only at h ⊢
 by_cases h4:kindE js j=4
 ·rw [if_pos h4] at h ⊢
  injection h with h
  rw [h]
 ·rw [if_neg h4] at h ⊢
  by_cases h3:kindE js j=3
  ·rw [if_pos h3] at h ⊢
   by_cases hl:lieF p.lies j≠0
   ·rw [if_pos hl] at h ⊢
    by_cases hm:lieF p.lies j=(max k t:Nat)
    ·rw [if_pos hm] at h
     injection h with h
     rw [h,decide_eq_true hm]
    ·rw [if_neg hm] at h
     exact absurd h (by simp)
   ·rw [if_neg hl] at h ⊢
    injection h with h
    rw [h]
  ·rw [if_neg h3] at h ⊢
   injection h with h
   rw [h]
theorem overI_none {js:List MJoint}{p:MPath}{j k t:Nat}(h:overP js p j k t=none):(overI p j k t (kindE js j) (endE js j t)).2=false:=by
 unfold overP at h
 unfold overI
 dsimp only at h ⊢
 by_cases h4:kindE js j=4
 ·rw [if_pos h4] at h
  exact absurd h (by simp)
 ·rw [if_neg h4] at h ⊢
  by_cases h3:kindE js j=3
  ·rw [if_pos h3] at h ⊢
   by_cases hl:lieF p.lies j≠0
   ·rw [if_pos hl] at h ⊢
    by_cases hm:lieF p.lies j=(max k t:Nat)
    ·rw [if_pos hm] at h
     exact absurd h (by simp)
    ·exact decide_eq_false hm
   ·rw [if_neg hl] at h
    exact absurd h (by simp)
  ·rw [if_neg h3] at h
   exact absurd h (by simp)
def beyondFn (k:Int):Nat:=if k=1 then 216 else if k=2 then 218 else if k=3 then 220 else 222
theorem meth_b1 (w : World) : (method 448 205 (.agg #[]) "loop.example/lockbar/impl.beyond").run Tryz.prog w = .ok (216, .agg #[]) w := by kernel_rfl
theorem meth_b2 (w : World) : (method 448 206 (.agg #[]) "loop.example/lockbar/impl.beyond").run Tryz.prog w = .ok (218, .agg #[]) w := by kernel_rfl
theorem meth_b3 (w : World) : (method 448 207 (.agg #[]) "loop.example/lockbar/impl.beyond").run Tryz.prog w = .ok (220, .agg #[]) w := by kernel_rfl
theorem meth_b4 (w : World) : (method 448 208 (.agg #[]) "loop.example/lockbar/impl.beyond").run Tryz.prog w = .ok (222, .agg #[]) w := by kernel_rfl
theorem meth_beyond (k : Int) (h1 : 1 ≤ k) (h4 : k ≤ 4) (w : World) : (method 448 (kindT k) (.agg #[]) "loop.example/lockbar/impl.beyond").run Tryz.prog w = .ok (beyondFn k, .agg #[]) w := by
 have:k=1∨k=2∨k=3∨k=4:=by omega
 rcases this with rfl | rfl | rfl | rfl
 ·exact meth_b1 w
 ·exact meth_b2 w
 ·exact meth_b3 w
 ·exact meth_b4 w
theorem xor_01:bits BinOp.xor IntKind.i64 0 1=1:=by kernel_rfl
theorem xor_11:bits BinOp.xor IntKind.i64 1 1=0:=by kernel_rfl
theorem xor_21:bits BinOp.xor IntKind.i64 2 1=3:=by kernel_rfl
theorem xor_31:bits BinOp.xor IntKind.i64 3 1=2:=by kernel_rfl
theorem call_beyond (k:Int)(args:Array Value)(w:World):(callFunc (beyondFn k) args).run Tryz.prog w = .ok (.enter (beyondFn k) args) w:=by
 unfold beyondFn
 split
 ·kernel_rfl
 ·split
  ·kernel_rfl
  ·split <;> kernel_rfl
def BeyondPost (w:World)(L:List Nat)(e:Ending)(w':World):Prop := ∃ a c,e = .returned (.slice a L.length c)∧NumsAt w' a (L.map Int.ofNat)∧(∀ x,a=some x→w.heap.size≤x.block)∧Below w.heap.size w w'
theorem nums_one {w:World}{b:Nat}{x:Nat}(h:w.cell? ⟨b,0,none⟩=some (.int .i64 (x:Int))):NumsAt w (some ⟨b,0,none⟩) ([x].map Int.ofNat):=
 ⟨by unfold maxLen;simp,Or.inr ⟨b,0,rfl,fun i hi=>by
  have:i=0:=by simpa using hi
  subst this
  exact h⟩⟩
theorem nums_two {w:World}{b:Nat}{x y:Nat}(h:w.cell? ⟨b,0,none⟩=some (.int .i64 (x:Int)))(h':w.cell? ⟨b,1,none⟩=some (.int .i64 (y:Int))):NumsAt w (some ⟨b,0,none⟩) ([x,y].map Int.ofNat):=
 ⟨by unfold maxLen;simp,Or.inr ⟨b,0,rfl,fun i hi=>by
  have:i=0∨i=1:=by simp at hi;omega
  rcases this with rfl | rfl
  ·exact h
  ·exact h'⟩⟩
theorem beyond_1 (pl:Nat)(w:World):Calls Tryz.prog 216 #[.agg #[],.int .i64 pl] w (BeyondPost w []):=by
 go_enter Tryz.func216,Tryz.ntmps216
 go_wp2_with fail
 exact bodyPost_ret (v:=.slice none 0 0) (by simp [results,Tryz.results216,go_sem]) rfl ⟨none,0,rfl,⟨by simp,Or.inl rfl⟩,by simp,blo⟩
theorem beyond_2 (pl:Nat)(hpl:pl≤1)(w:World):Calls Tryz.prog 218 #[.agg #[],.int .i64 pl] w (BeyondPost w [1-pl]):=by
 have hx:(1:Int)-pl=((1-pl:Nat):Int):=by omega
 go_enter Tryz.func218,Tryz.ntmps218
 go_wp2_with fail
 refine bodyPost_ret (v:=.slice (some ⟨w.heap.size+1,0,none⟩) 1 1) (by simp [results,Tryz.results218,go_sem]) rfl ⟨_,1,rfl,nums_one (by simp [go_sem]),(fun x hx=>by cases hx;simp),blo⟩
theorem beyond_3a (w:World):Calls Tryz.prog 220 #[.agg #[],.int .i64 0] w (BeyondPost w [1,2]):=by
 go_enter Tryz.func220,Tryz.ntmps220
 go_wp2_with fail
 refine bodyPost_ret (v:=.slice (some ⟨w.heap.size+1,0,none⟩) 2 2) (by simp [results,Tryz.results220,go_sem]) rfl ⟨_,2,rfl,nums_two (by simp [go_sem]) (by simp [go_sem]),(fun x hx=>by cases hx;simp),blo⟩
theorem beyond_3b (pl:Nat)(hpl:pl≠0)(w:World):Calls Tryz.prog 220 #[.agg #[],.int .i64 pl] w (BeyondPost w [0]):=by
 have hx:((pl:Int)==0)=false:=by simp;omega
 go_enter Tryz.func220,Tryz.ntmps220
 go_wp2_with fail
 refine bodyPost_ret (v:=.slice (some ⟨w.heap.size+1,0,none⟩) 1 1) (by simp [results,Tryz.results220,go_sem]) rfl ⟨_,1,rfl,nums_one (by simp [go_sem]),(fun x hx=>by cases hx;simp),blo⟩
theorem beyond_4 (pl x:Nat)(h:(pl=0∧x=1)∨(pl=1∧x=0)∨(pl=2∧x=3)∨(pl=3∧x=2))(w:World):Calls Tryz.prog 222 #[.agg #[],.int .i64 pl] w (BeyondPost w [x]):=by
 rcases h with ⟨rfl,rfl⟩ | ⟨rfl,rfl⟩ | ⟨rfl,rfl⟩ | ⟨rfl,rfl⟩
 all_goals
  go_enter Tryz.func222,Tryz.ntmps222
  go_wp2_with fail
  refine bodyPost_ret (v:=.slice (some ⟨w.heap.size+1,0,none⟩) 1 1) (by simp [results,Tryz.results222,go_sem]) rfl ⟨_,1,rfl,nums_one (by simp [go_sem,xor_01,xor_11,xor_21,xor_31]),(fun x hx=>by cases hx;simp),blo⟩
theorem beyondM_any (k:Int)(pl:Nat)(h1:1≤k)(h4:k≤4)(hpl:(pl:Int)<k)(w:World):Calls Tryz.prog (beyondFn k) #[.agg #[],.int .i64 pl] w (BeyondPost w (beyondF k pl)):=by
 have:k=1∨k=2∨k=3∨k=4:=by omega
 rcases this with rfl | rfl | rfl | rfl
 ·exact beyond_1 pl w
 ·exact beyond_2 pl (by omega) w
 ·by_cases h0:pl=0
  ·subst h0
   exact beyond_3a w
  ·have:beyondF 3 pl=[0]:=by simp [beyondF,h0]
   rw [this]
   exact beyond_3b pl h0 w
 ·have hp:pl=0∨pl=1∨pl=2∨pl=3:=by omega
  rcases hp with rfl | rfl | rfl | rfl
  ·exact beyond_4 0 1 (by omega) w
  ·exact beyond_4 1 0 (by omega) w
  ·exact beyond_4 2 3 (by omega) w
  ·exact beyond_4 3 2 (by omega) w
def Grow (K K':Nat→Prop)(w:World):Prop := ∀ k,K' k→K k∨w.heap.size≤k
theorem Grow.refl (K:Nat→Prop)(w:World):Grow K K w:=fun _ h=>Or.inl h
theorem Grow.mono {K K':Nat→Prop}{w w':World}(h:Grow K K' w')(hs:w.heap.size≤w'.heap.size):Grow K K' w:=fun k hk=>(h k hk).imp id (fun h=>Nat.le_trans hs h)
theorem Grow.trans {K K' K'':Nat→Prop}{w w':World}(h:Grow K K' w)(h':Grow K' K'' w')(hs:w.heap.size≤w'.heap.size):Grow K K'' w:=fun k hk=>by
 rcases h' k hk with h1 | h1
 ·exact h k h1
 ·exact Or.inr (Nat.le_trans hs h1)
theorem Only.thru {K K':Nat→Prop}{w u v:World}(h:Only K w u)(hg:Grow K K' w)(h':Only K' u v):Only K w v:=
 ⟨h'.os.trans h.os,h'.tape.trans h.tape,h'.output.trans h.output,Nat.le_trans h.size h'.size,fun k hk hn=>(h'.block k (Nat.lt_of_lt_of_le hk h.size) (fun e=>(hg k e).elim hn (fun e2=>by omega))).trans (h.block k hk hn)⟩
def Visited (J:(Nat→Prop)→World→Prop)(Sx:World→Prop)(K:Nat→Prop)(u:World)(e:Ending)(u':World):Prop:=
 ∃ b:Bool,e = .returned (.bool b)∧Only K u u'∧(b=true→∃ K',J K' u'∧Grow K K' u)∧(b=false→Sx u')
theorem passages_any (KT M:Nat)(pa ja sa:Option Addr)(pc jc sc:Nat)(ps:List MPiece)(js:List MJoint)(ss:List MPiece)(R:Hid (Right ps js ss))(e:MEnd)(g:Nat)(rv:Value)(J:Nat→(Nat→Prop)→World→Prop)(Sx:World→Prop)(K0:Nat→Prop)(w:World)
  (hT:Hid (TTrack w KT M pa ja sa pc jc sc ps js ss)) (hv:Hid (ValidE ps e)) (hg:∀ args u,(callFunc g args).run Tryz.prog u = .ok (.enter g args) u) (j k:Nat) (hsp:Hid (spotE js e=(j,k)))
  (hJ0:Hid (J 0 K0 w)) (hJl:Hid (∀ m K u,J m K u→∀ k,K k→k<u.heap.size)) (hJk:Hid (∀ m K u u',J m K u→Below u.heap.size u u'→J m K u'))
  (hV:Hid (∀ m t K u,(beyondF (kindE js j) k)[m]? = some t→J m K u→Calls Tryz.prog g #[rv,passV j k t (kindE js j)] u (Visited (J (m+1)) Sx K u))) :
  Calls Tryz.prog 133 #[.pointer (some ⟨KT,0,none⟩),endV e,.func (.func g) #[rv] #[]] w (Visited (J (beyondF (kindE js j) k).length) Sx K0 w):=by
 have HLK:Hid (∀ u:World,Below w.heap.size w u→(Instr.lookup 145 (.map (some M)) (endV e) false).run Tryz.prog u = .ok (spotV j k (kindE js j)) u):=fun u hu=>by
  have h:=(hT.out.below hu).lookup R.out hv.out
  rw [hsp.out] at h
  exact h
 obtain ⟨hj,hk⟩:∃ hj:j<js.length,k<js[j].ends.length:=by
  obtain ⟨j',k',g1,g2⟩:=R.out.spot hv.out
  obtain ⟨_,hj,hk,g3,_⟩:=spotF_some g1
  rw [hsp.out] at g2
  injection g2 with e1 e2
  subst e1 e2
  simp only [Nat.sub_zero] at hj hk
  exact ⟨hj,hk⟩
 obtain ⟨kd,hkd⟩:∃ kd,kindE js j=kd:=⟨_,rfl⟩
 have hkk:=R.out.kind j hj
 have h1:1≤kd:=by rw [← hkd,kindE_at hj];exact hkk.1
 have h4:kd≤4:=by rw [← hkd,kindE_at hj];exact hkk.2.1
 have hkl:(k:Int)<kd:=by rw [← hkd,kindE_at hj,← hkk.2.2];omega
 rw [hkd] at HLK hV ⊢
 have HBY:Hid (∀ u:World,Calls Tryz.prog (beyondFn kd) #[.agg #[],.int .i64 k] u (BeyondPost u (beyondF kd k))):=fun u=>beyondM_any kd k h1 h4 hkl u
 obtain ⟨L,hL⟩:∃ L,beyondF kd k=L:=⟨_,rfl⟩
 have hL2:L.length≤2:=by rw [← hL];exact beyondF_few _ _
 rw [hL] at hV HBY ⊢
 have hm:=meth_beyond kd h1 h4
 have hcb:=call_beyond kd
 have c3:=hT.out.c3
 have hK:=cellLt c3
 dsimp only at hK
 have HJL0:=hidP (hJl.out _ _ _ hJ0.out)
 clear hL hkd hkk hkl
 unfold endV
 go_enter Tryz.func133,Tryz.ntmps133
 go_upto_region 1 with fail
 generalize hW:World.alloc w _=W
 have hbW:Below w.heap.size w W:=by rw [← hW];exact blo
 have x0:W.cell? ⟨w.heap.size,0,none⟩=some (.int .i64 e.piece):=by rw [← hW];simp [go_sem]
 have x1:W.cell? ⟨w.heap.size,1,none⟩=some (.int .i64 e.side):=by rw [← hW];simp [go_sem]
 have y3:=cell_later hbW c3
 have HBW:=hidP hbW
 have hzW:w.heap.size<W.heap.size:=by rw [← hW];simp
 obtain ⟨S,hS⟩:∃ S:World→Prop,∀ u,S u↔Below W.heap.size W u:=⟨_,fun _=>Iff.rfl⟩
 have HS0:=hidP hS
 have r0:∀ u:Held S,World.cell? u.val ⟨w.heap.size,0,none⟩=some (.int .i64 e.piece):=fun u=>cell_later ((hS u.val).1 u.2) x0
 have r1:∀ u:Held S,World.cell? u.val ⟨w.heap.size,1,none⟩=some (.int .i64 e.side):=fun u=>cell_later ((hS u.val).1 u.2) x1
 have r3:∀ u:Held S,World.cell? u.val ⟨KT,3,none⟩=some (.map (some M)):=fun u=>cell_later ((hS u.val).1 u.2) y3
 have r4:∀ u:Held S,(Instr.lookup 145 (.map (some M)) (.agg #[.int .i64 e.piece,.int .i64 e.side]) false).run Tryz.prog u.val = .ok (spotV j k kd) u.val:=fun u=>HLK.out u.val (HBW.out.trans (((hS u.val).1 u.2).mono HBW.out.size))
 have hS1:S W.drew:=(hS _).2 ((Below.refl _ _).drew)
 have hne:=held_ne hS1
 clear hS hW hbW
 go_cut [7] (fun v wx => ∃ b,v = .pointer (some ⟨b,0,none⟩)∧W.heap.size≤b∧wx.cell? ⟨b,0,none⟩=some (.int .i64 (j:Int))∧wx.cell? ⟨b,1,none⟩=some (.int .i64 (k:Int))∧wx.cell? ⟨b,2,none⟩=some (.iface (kindT kd) (.agg #[]))∧Below W.heap.size W wx)
 case first =>
  refine wp_region_tree (fun w' => ∃ u:Held S,w'=u.val) 7 (by kernel_rfl) (by kernel_rfl) (held_some hS1) ?_
  (refine wpT_sea 0 ?_;intro K hK;go_big_quiet_op;go_big_quiet_on);(refine wpT_sea 1 ?_;intro K hK;go_big_quiet_op;go_big_quiet_on);(refine wpT_sea 2 ?_;intro K hK;go_big_quiet_op;go_big_quiet_on);(refine wpT_sea 3 ?_;intro K hK;go_big_quiet_op;go_big_quiet_on);(refine wpT_sea 4 ?_;intro K hK;go_big_quiet_op;go_big_quiet_on);(refine wpT_sea 5 ?_;intro K hK;go_big_quiet_op;go_big_quiet_on)
  refine wpT_loud 6 (by rfl) (by kernel_rfl) (by kernel_rfl) ?_
  intro K hK
  go_wp2_with fail
  have hb3:Below W.heap.size W (W.alloc (Obj.cells #[Value.int IntKind.i64 0,Value.int IntKind.i64 0,Value.nilIface] 153)).drew:=((Below.refl _ _).alloc (Nat.le_refl _) _).drew
  refine hK _ _ (held_some ((HS0.out _).2 hb3)) ?_
  clear hK K
  refine wpT_done (by kernel_rfl) ?_
  unfold spotV
  clear r0 r1 r3 r4 hS1 hne hb3
  go_wp2_with fail
  go_meet
  exact ⟨_,rfl,Nat.le_refl _,by simp [go_sem],by simp [go_sem],by simp [go_sem],((Below.refl _ _).alloc (Nat.le_refl _) _).drew⟩
 case rest =>
  obtain ⟨b,rfl,hb,z0,z1,z2,hbc⟩:=hcut
  clear r0 r1 r3 r4 hS1 hne y3 x0 x1
  have hzb:=cellLt z0
  dsimp only at hzb
  go_wp2_with (refine Calls.mono (HBY.out _) ?_;rintro e w2 ⟨a,c,rfl,hna,hnew,hb2⟩)
  have hbV:Below w.heap.size w w2:=(HBW.out.trans (hbc.mono HBW.out.size)).trans (hb2.mono (by have h1:=HBW.out.size;have h2:=hbc.size;omega))
  replace z0:=cell_later hb2 z0
  replace z1:=cell_later hb2 z1
  replace z2:=cell_later hb2 z2
  have hsz:=hbc.size
  have HNB:Hid (¬ K0 b):=fun hk=>by have h1:=HJL0.out b hk;omega
  have HNA:Hid (∀ x,a=some x→¬ K0 x.block):=fun x hx hk=>by have h1:=HJL0.out _ hk;have h2:=hnew x hx;omega
  have HNM:=hidP hna
  have HBV:=hidP hbV
  have HJV:=hidP (hJk.out _ _ _ _ hJ0.out hbV)
  have Z0:=hidP z0
  have Z1:=hidP z1
  have Z2:=hidP z2
  clear hna hnew hb2 hbV z0 z1 z2 hm hcb hbc
  go_loopw [22] (fun c wr => ∃ (m:Nat) (K:Nat→Prop),m≤L.length∧c = .int .i64 m∧Hid (J m K wr)∧Hid (Only K0 w2 wr)∧Hid (Grow K0 K w2)) (fun c _=>L.length-(intOf c).toNat)
  case atStart=>exact ⟨0,K0,Nat.zero_le _,rfl,HJV,Only.refl _ _,Grow.refl _ _⟩
  case round =>
   obtain ⟨m,K,hm,rfl,HJ,HO,HG⟩:=hrel
   clear HJV
   have hos:=HO.out.size
   by_cases hm':m<L.length
   ·have hmi:(m:Int)<L.length:=by omega
    obtain ⟨b2,off2,rfl,hpc⟩:=HNM.out.2.resolve_left (fun h=>by rw [List.map_eq_nil_iff] at h;rw [h] at hm';exact absurd hm' (Nat.not_lt_zero _))
    have q0:=HO.out.cell Z0.out HNB.out
    have q1:=HO.out.cell Z1.out HNB.out
    have q2:=HO.out.cell Z2.out HNB.out
    have q3:=HO.out.cell (hpc m (by simpa using hm')) (HNA.out ⟨b2,off2,none⟩ rfl)
    obtain ⟨t,ht⟩:∃ t,L[m]=t:=⟨_,rfl⟩
    have ht2:L[m]? = some t:=by rw [List.getElem?_eq_getElem hm',ht]
    have e3:(L.map Int.ofNat)[m]'(by simpa using hm')=(t:Int):=by rw [List.getElem_map,ht];rfl
    rw [e3] at q3
    have HVm:=hidP (hV.out m t K wr ht2 HJ.out)
    unfold Hid passV at HVm
    have HVH:=hidP HVm
    have hzq:=cellLt q3
    have hzq0:=cellLt q0
    dsimp only at hzq hzq0
    clear hpc ht ht2 e3 HVm
    go_upto_if 36 with (refine Calls.mono HVH.out ?_;rintro e w3 ⟨bb,rfl,ho3,hJ3,hS3⟩)
    have HO3:=hidP (HO.out.thru HG.out ho3)
    cases bb
    ·have HS3:=hidP (hS3 rfl)
     clear hJ3 hS3 ho3
     go_wp2_with fail
     go_ret
     exact ⟨false,rfl,(Only.of_below HBV.out).trans HO3.out,(fun h=>by cases h),fun _=>HS3.out⟩
    ·obtain ⟨K',hJ4,hG4⟩:=hJ3 rfl
     have HJ4:=hidP hJ4
     have HG4:=hidP (HG.out.trans hG4 hos)
     clear hJ3 hS3 ho3 hJ4 hG4
     go_wp2_with fail
     go_roundw
     case rel=>exact ⟨m+1,K',by omega,by go_num,HJ4,HO3,HG4⟩
     case measure=>simp [intOf];omega
   ·have hme:m=L.length:=by omega
    have hmi:¬ (m:Int)<L.length:=by omega
    subst hme
    go_wp2_with fail
    go_ret
    exact ⟨true,rfl,(Only.of_below HBV.out).trans HO.out,fun _=>⟨K,HJ.out,HG.out.mono HBV.out.size⟩,fun h=>by cases h⟩
end Go.Proofs.YtmkdgnmmebldgaaGreatDoor
