import Derived.Test.YtmkdgnmmebldgaaGreatDoorPk37
import Derived.Deep.DeepCutAuto
set_option maxRecDepth 100000
set_option maxHeartbeats 8000000
open Go.Proofs.Tryz
namespace Go.Proofs.YtmkdgnmmebldgaaGreatDoor
open Go.RowKit Go.Deep
variable {J N b g kd n q ye:Nat}{es:List am}{nm:ByteArray}{w w' w2 wi:World}{xe:Option Addr}
theorem tD {P:Program}{Wp:World}{ops:Array Oper}{rest:List Oper}{o:Oper}{a:Act}{Q:Exit->Act->World->Prop}(hgd:o.guard=none)(s x:Operand)(t:TypeId)
  (ho:o.op = .call { callee:=.builtin .append,args:=#[s,x],argTypes:=#[t,t] })
  (B:Nat) (e:TypeId) (z:Value) (size bytes:Nat) (ht:P.underlying t=some (.slice e)) (hi:(P.info? e).map (fun i=>(i.zero,i.size,i.bytes))=some (some z,size,bytes)) (hzs:z.cells.size=size) (hsz:0<size)
  (v:Value) (n m:Nat) (xs:List Value) (hs:a.eval s=v) (hown:Wp.ownsRow B e size v n xs)
  (g:Nat) (hgs:g=Wp.heap.size) (news:List Value) (hx:a.eval x = .slice (some ⟨g,0,none⟩) m m) (hl:news.length=m*size) (h1:∀ u ∈ news,u.oneCell'=true)
  (h63:n+m<=maxLen) (hbytes:(n+m)*bytes<=140737488355328) (hB:B<=Wp.heap.size)
  (h:∀ x' y' w',w'.ownsRow B e size (.slice x' (n+m) y') (n+m) (xs++news)->Wp.grownBy w' v.ownBlock->wpList P ops Q rest (a.put o.dst (.slice x' (n+m) y')) w'):wpList P ops Q (o::rest) a (Wp.alloc (.cells news.toArray e)):=by
 subst hgs;obtain ⟨i,d,f,l,p⟩:=info_parts hi;refine wpList_append_own _ hgd s x t ho B e i z size bytes ht d f l p hzs hsz v n xs hs (hown.alloc _) ⟨Wp.heap.size,0,none⟩ m m news hx hl ?_ h1 h63 hbytes CN ?_
 ·intro j u hu;rw [bH,Nat.zero_add];have:=cell_of_row (Wp.alloc (.cells news.toArray e)) Wp.heap.size j news.toArray e (0,0) (heap_alloc_new Wp _);rw [this];simpa using hu
 ·intro v' w' c b _;obtain ⟨x',y',rfl,_⟩:=ba c;refine h x' y' w' c ⟨b.os,b.tape,b.output,Nat.le_trans CI b.size,fun k hk hne=>?_⟩
  exact (b.block k CN hne).trans (Below.heap_alloc _ _ _ hk)
theorem IsT.set {t:Nat}(h:IsT w t b)(p:Addr)(u:Value):IsT (w.setCell p u) t b:=by
 obtain ⟨a,h⟩:=h
 by_cases e:b=p.block
 ·subst e;refine ⟨if p.spot.isSome then a else a.setIfInBounds p.off u,?_⟩
  simp [World.setCell,Array.getElem?_modify,h]
 ·exact ⟨a,(Below.heap_setCell _ _ _ _ e).trans h⟩
theorem pq {B e s:Nat}{v:Value}{xs:List Value}(h:w.ownsRow B e s v n xs)(hb:v.ownBlock=some b):IsT w e b:=by
 rcases h.2 with ⟨rfl,_⟩ | ⟨g,c,a,rfl,_,hg,_⟩
 ·cases hb
 ·cases hb;exact ⟨a,hg⟩
def jw (w:World)(g n:Nat):Prop := ∀ j,j<n->(∃ x:Int,w.cell? ⟨g,j,none⟩=some (.int .i64 x))/\w.frozen? ⟨g,j,none⟩=false
theorem jw.kept (h:jw w g n)(e:w'.heap[g]? = w.heap[g]?):jw w' g n:=fun j hj=>by
 obtain ⟨⟨x,h1⟩,h2⟩:=h j hj;exact ⟨⟨x,(World.cell?_of_block (w:=w) e).trans h1⟩,(World.frozen?_of_block (w:=w) e).trans h2⟩
theorem jw.set (h:jw w g n)(o:Nat)(y:Int):jw (w.setCell ⟨g,o,none⟩ (.int .i64 y)) g n:=fun j hj=>by
 obtain ⟨⟨x,h1⟩,h2⟩:=h j hj;refine ⟨?_,by rw [World.frozen?_setCell];exact h2⟩
 by_cases e:j=o
 ·subst e;exact ⟨y,World.cell?_setCell_same _ _ _ h1⟩
 ·exact ⟨x,by rw [World.cell?_setCell_other _ _ _ _ CP];exact h1⟩
theorem By {B:Nat}{y:Nat}(h:w.ownsRow B 114 2 (.slice (some ⟨g,0,none⟩) n y) n (aG es)):jw w g (2*n)/\IsT w 114 g/\B<=g/\n<=y/\y<=maxLen:=by
 rcases h.2 with ⟨h1,_⟩ | ⟨g',b,a,h1,h2,h3,h4,h5,h6,h7⟩
 ·cases h1
 ·cases h1;refine ⟨fun j hj=>⟨?_,by simp [World.frozen?,h3]⟩,⟨a,h3⟩,h2,h4,h5⟩
  have hl:es.length*2=n*2:=by have:=h.1;rw [eL] at this;exact this
  have hi:j / 2<es.length:=CG
  have hc:=h.cells (g:=g) rfl;have hr:j % 2=0\/j % 2=1:=CG
  rcases hr with hr | hr
  ·have:=hc (j / 2*2+0) _ ((aZ gn 2 (fun _=>rfl) es (j / 2) 0 hi CG).trans rfl)
   rw [bH,show 0+(j / 2*2+0)=j by omega] at this
   exact ⟨_,this⟩
  ·have:=hc (j / 2*2+1) _ ((aZ gn 2 (fun _=>rfl) es (j / 2) 1 hi CG).trans rfl)
   rw [bH,show 0+(j / 2*2+1)=j by omega] at this
   exact ⟨_,this⟩
theorem dv.keptE {C:Nat}{xp xj:Option Addr}{yp yj:Nat}{ps:List af}(h:dv w C N xp yp xj yj ps [])(hk:∀ b,N<=b->b<w.heap.size->¬ IsT w 114 b->w'.heap[b]? = w.heap[b]?)(hN:¬ IsT w 114 N):dv w' C N xp yp xj yj ps []:=by
 have hN:=hk N CW h.lt hN;refine ⟨h.cn,(World.cell?_of_block (w:=w) hN).trans h.c0,(World.cell?_of_block (w:=w) hN).trans h.c1,fun o=>(World.frozen?_of_block (w:=w) hN).trans (h.z o),ax h.op (fun b hb=>hk b (by have:=(h.op.lt b hb).1;omega) (h.op.lt b hb).2 (fun hT=>hT.ne h.op CJ hb)),ax h.oj (fun b hb=>hk b (by have:=(h.oj.lt b hb).1;omega) (h.oj.lt b hb).2 (fun hT=>hT.ne h.oj CJ hb)),fun x hx=>(by cases hx),h.pn,h.jn⟩
theorem dv.rowP {C:Nat}{xp xj:Option Addr}{yp yj:Nat}{ps:List af}{js:List MJ}(h:dv w C N xp yp xj yj ps js)(hg:w.grownBy w' (Value.slice xp ps.length yp).ownBlock):w'.cell? ⟨N,0,none⟩=some (.slice xp ps.length yp)/\w'.frozen? ⟨N,0,none⟩=false:=by
 have hN:w'.heap[N]? = w.heap[N]? := hg.block N h.lt (fun e=>by have:=(h.op.lt N e.symm).1;omega)
 exact ⟨(World.cell?_of_block (w:=w) hN).trans h.c0,(World.frozen?_of_block (w:=w) hN).trans (h.z 0)⟩
def Nt1 (W wr:World)(C N:Nat)(ca:Option Addr)(cc:Nat)(bs:List Int)(at_ i:Nat)(ve:Value):Prop:=
 ∃ xp yp ps at' es,dv wr C N xp yp none 0 ps []/\Cur wr C ca cc bs at'/\ps.length=i/\es.length=2*i/\wr.ownsRow (N+1) 114 2 ve (2*i) (aG es)/\at'<=at_+2+8*i/\IsT wr 26 N/\ag (fun k=>k=C\/N<=k) W wr
def Nt2 (W wr:World)(C N g m:Nat)(ca:Option Addr)(cc:Nat)(bs:List Int)(top j:Nat):Prop:=
 ∃ xp yp ps at',dv wr C N xp yp none 0 ps []/\Cur wr C ca cc bs at'/\(1<=ps.length/\ps.length<=10)/\jw wr g (2*m)/\IsT wr 114 g/\at'+4*j<=top/\IsT wr 26 N/\ag (fun k=>k=C\/N<=k) W wr
theorem vP {t t':Nat}(h:IsT w t b)(h':IsT w t' b):t=t':=by
 obtain ⟨c,h⟩:=h;obtain ⟨c',h'⟩:=h';rw [h] at h';simp only [Option.some.injEq,Obj.cells.injEq] at h';exact h'.2.1
section
variable {W w w':World} {C N g m:Nat} {ca:Option Addr} {cc:Nat} {bs:List Int} {top j:Nat}
theorem Nt2.set (h:Hid (Nt2 W w C N g m ca cc bs top j))(hgN:N<g)(hl:eQ C ca bs)(o:Nat)(x:Int):Hid (Nt2 W (w.setCell ⟨g,o,none⟩ (.int .i64 x)) C N g m ca cc bs top j):=by
 obtain ⟨xp,yp,ps,a,h1,h2,h3,h4,h5,h6,h7,h8⟩:=h.out;have c:=h1.cn;have hk:∀ b,b≠g->(w.setCell ⟨g,o,none⟩ (.int .i64 x)).heap[b]? = w.heap[b]? := fun b hb=>Below.heap_setCell _ _ _ _ hb
 exact ⟨xp,yp,ps,a,h1.keptE (fun b _ _ hb=>hk b (fun e=>hb (e ▸ h5))) (fun h=>absurd (vP h h7) CJ),h2.above hl (fun k d=>hk k CG),h3,h4.set o x,h5.set _ _,h6,h7.set _ _,h8.setCell (p:=⟨g,o,none⟩) (Or.inl (Or.inr (Nat.le_of_lt hgN))) _⟩
theorem Nt2.below (h:Nt2 W w C N g m ca cc bs top j)(hb:Cx w w'):Nt2 W w' C N g m ca cc bs top j:=by
 obtain ⟨xp,yp,ps,a,h1,h2,h3,h4,h5,h6,h7,h8⟩:=h;exact ⟨xp,yp,ps,a,h1.below hb,h2.below hb,h3,h4.kept (hb.block g h5.lt),h5.kept (hb.block g h5.lt),h6,h7.kept (hb.block N h7.lt),h8.trans (ag.of_below hb)⟩
theorem Nt2.more (h:Hid (Nt2 W w C N g m ca cc bs top j))(o:Obj):Hid (Nt2 W (w.alloc o) C N g m ca cc bs top j):=h.out.below CU
end
def lenOf:Value->Nat | .slice _ n _=>n | _=>0
def Nt3 (W wr:World)(C N g m:Nat)(ca:Option Addr)(cc:Nat)(bs:List Int)(top left:Nat):Prop:=
 ∃ xp yp xj yj ps js at',dv wr C N xp yp xj yj ps js/\Cur wr C ca cc bs at'/\(1<=ps.length/\ps.length<=10)/\jw wr g (2*m)/\IsT wr 114 g/\at'+2*left<=top/\js.length+left<=m/\ag (fun k=>k=C\/N<=k) W wr
structure InJ (w2 wi:World)(J kd q:Nat)(nm:ByteArray)(xe:Option Addr)(ye:Nat)(es:List am):Prop where
 c0:wi.cell? ⟨J,0,none⟩=some (.int .i64 kd)
 c1:wi.cell? ⟨J,1,none⟩=some (.string nm)
 c2:wi.cell? ⟨J,2,none⟩=some (.slice xe q ye)
 z:∀ o,wi.frozen? ⟨J,o,none⟩=false
 len:es.length=q
 own:wi.ownsRow (J+1) 114 2 (.slice xe q ye) q (aG es)
 base:Below J w2 wi
theorem InJ.lt (h:InJ w2 wi J kd q nm xe ye es):J<wi.heap.size:=ai h.c0
theorem InJ.below {wi':World}(h:InJ w2 wi J kd q nm xe ye es)(hb:Cx wi wi'):InJ w2 wi' J kd q nm xe ye es:=
 ⟨cell_later hb h.c0,cell_later hb h.c1,cell_later hb h.c2,fun o=>(hb.frozen (p:=⟨J,o,none⟩) h.lt).trans (h.z o),h.len,aq h.own hb,h.base.trans (hb.mono (Nat.le_of_lt h.lt))⟩
theorem InJ.push {x':Option Addr}{y':Nat}(h:InJ w2 wi J kd q nm xe ye es){e:am}(hg:wi.grownBy w' (Value.slice xe q ye).ownBlock)(ho:w'.ownsRow (J+1) 114 2 (.slice x' (q+1) y') (q+1) (aG (es++[e]))):
  InJ w2 (w'.setCell ⟨J,2,none⟩ (.slice x' (q+1) y')) J kd (q+1) nm x' y' (es++[e]):=by
 have hJ:w'.heap[J]? = wi.heap[J]? := hg.block J h.lt (fun e=>by have:=(h.own.lt J e.symm).1;omega)
 refine ⟨?_,?_,World.cell?_setCell_same _ _ _ ((World.cell?_of_block (w:=wi) hJ).trans h.c2),fun o=>?_,by simp [h.len],ownsRow_setCell_below ho (Nat.lt_succ_self J) _,?_⟩
 ·rw [World.cell?_setCell_other _ _ _ _ CI]
  exact (World.cell?_of_block (w:=wi) hJ).trans h.c0
 ·rw [World.cell?_setCell_other _ _ _ _ CI]
  exact (World.cell?_of_block (w:=wi) hJ).trans h.c1
 ·rw [World.frozen?_setCell];exact (World.frozen?_of_block (w:=wi) hJ).trans (h.z o)
 ·refine (h.base.trans ⟨hg.os,hg.tape,hg.output,hg.size,fun k hk=>hg.block k (by have:=h.lt;omega) (fun e=>by have:=(h.own.lt k e.symm).1;omega)⟩).trans ⟨rfl,rfl,rfl,CI,fun k hk=>Below.heap_setCell _ _ _ _ (show k≠J by omega)⟩
theorem InJ.name (h:InJ w2 wi J kd q nm xe ye es)(nm':ByteArray):InJ w2 (wi.setCell ⟨J,1,none⟩ (.string nm')) J kd q nm' xe ye es:=by
 refine ⟨?_,World.cell?_setCell_same _ _ _ h.c1,?_,fun o=>?_,h.len,ownsRow_setCell_below h.own (Nat.lt_succ_self J) _,h.base.trans ⟨rfl,rfl,rfl,CI,fun k hk=>Below.heap_setCell _ _ _ _ (show k≠J by omega)⟩⟩
 ·rw [World.cell?_setCell_other _ _ _ _ CI];exact h.c0
 ·rw [World.cell?_setCell_other _ _ _ _ CI];exact h.c2
 ·rw [World.frozen?_setCell];exact h.z o
theorem InJ.ends (h:InJ w2 wi J kd q nm xe ye es)(hN:N<J)(hq:q<=4)(kk:Int):gR wi N (xe,ye,⟨kk,nm,es⟩):=by
 have hl:=h.len;obtain ⟨a,c,e1,e2,_,_⟩:=kj (es:=es) (by rw [hl];exact h.own) (by rw [hl];unfold maxLen;omega)
 injection e1 with e1 _ _;subst e1;refine ⟨e2,Or.inr (fun b off e=>?_),by show es.length<=4;omega⟩
 subst e;have hT:=pq h.own (b:=b) rfl;exact ⟨by have:=(h.own.lt b rfl).1;omega,hT⟩
theorem Bv (C:Nat)(ca:Option Addr)(cc:Nat)(bs:List Int)(at_:Nat)(w:World)(hc:Hid (Cur w C ca cc bs at_))(hlow:Hid (eQ C ca bs))(ha:at_<=700000000):
  Calls prog 72 #[.pointer (some ⟨C,0,none⟩)] w (ni C ca cc bs at_ 400 w):=by
 have cS:=hc.out.lt
 go_enter func72,ntmps72
 go_wp2_with fail
 generalize hW:World.alloc (World.alloc w _) _=W;have a6:Cx w W:=by rw [<-hW];exact blo
 have a7:Hid (dv W C (w.heap.size+1) none 0 none 0 [] []):=by
  rw [<-hW];exact ⟨CG,CO,CO,fun o=>CO,World.ownsRow_nil _ _ _ _,World.ownsRow_nil _ _ _ _,fun x hx=>(by cases hx),fun x hx=>(by cases hx),fun x hx=>(by cases hx)⟩
 have R0:W.cell? ⟨w.heap.size,0,none⟩=some (.slice none 0 0):=by rw [<-hW];simp [go_sem]
 have R1:W.cell? ⟨w.heap.size,1,none⟩=some (.slice none 0 0):=by rw [<-hW];simp [go_sem]
 have a8:Hid (∀ o,W.frozen? ⟨w.heap.size,o,none⟩=false):=fun o=>by rw [<-hW];simp [go_sem]
 have D:Hid (IsT W 26 (w.heap.size+1)):=by
  rw [<-hW];have:=heap_alloc_new (World.alloc w (.cells #[.slice none 0 0,.slice none 0 0] 26)) (.cells #[.slice none 0 0,.slice none 0 0] 26);have e:(World.alloc w (.cells #[.slice none 0 0,.slice none 0 0] 26)).heap.size=w.heap.size+1:=CI
  rw [e] at this;exact ⟨_,this⟩
 have bt:w.heap.size+1<W.heap.size:=by rw [<-hW];simp
 have ap:=aa a6;have cT:=a6.size;clear hW a6;obtain ⟨N,hN⟩:∃ N,w.heap.size+1=N:=⟨_,rfl⟩;obtain ⟨R,hR⟩:∃ R,w.heap.size=R:=⟨_,rfl⟩;rw [hN] at a7 bt D ⊢;rw [hR] at R0 R1 a8 ⊢;have cU:R<N:=CG
 have cV:C<R:=CG
 have b5:Hid (w.heap.size<=R):=by unfold Hid;omega
 clear hN hR;refine (aJ C ca cc bs at_ 9 W (hc.out.below ap.out) CG CG).mono ?_
 rintro e w1 ⟨x,aA,hx,rfl,aB,bu,aW⟩;have cW:x<9:=CG
 clear hx;have bv:Hid (Nt1 W w1 C N ca cc bs at_ 0 (.slice none 0 0)):=⟨none,0,[],aA,[],a7.out.only aW,bu,rfl,rfl,World.ownsRow_nil _ _ _ _,CG,D.out.kept (aW.block N bt CG),aW.mono (fun k hk=>Or.inl hk)⟩
 clear bu aW a7 D
 go_wp2_with fail
 have cX:Hid ((1:Int)+x=((1+x:Nat):Int)):=by unfold Hid;omega
 go_loopw [4,5] (fun ve ii wr => ∃ (i:Nat) (xe:Option Addr) (ye:Nat),ve = .slice xe (2*i) ye/\ii = .int .i64 i/\i<=1+x/\Hid (Nt1 W wr C N ca cc bs at_ i ve)) (fun _ ii _=>1+x-(intOf ii).toNat)
 case atStart=>exact ⟨0,none,0,rfl,rfl,CG,bv⟩
 case round =>
  clear bv;obtain ⟨i,xe,ye,rfl,rfl,cY,HI⟩:=hrel;obtain ⟨xp,yp,ps,L,es,n,A,G,b6,aC,aD,aE,f⟩:=HI.out;have HN:=aa n;have HC:=aa A;have HE:=aa aC;have D:=aa aE;have HB:=aa f;have cZ:=f.size;clear HI n A aC aE f
  by_cases hi:i<1+x
  ·have c3:(i:Int)<1+x:=CG
   have n0:=HN.out.c0;have ab:=HN.out.lt;have b7:=HN.out.cn;rw [G] at n0
   go_upto_region 6 with fail
   go_cut [] (fun wx => ∃ ba bb aX aY,aY<=L+8/\aX.length=i+1/\Hid (dv wx C N ba bb none 0 aX [])/\Hid (Cur wx C ca cc bs aY)/\Hid (wx.ownsRow (N+1) 114 2 (.slice xe (2*i) ye) (2*i) (aG es))/\Hid (IsT wx 26 N)/\Hid (ag (fun k=>k=C\/N<=k) W wx))
   case first =>
    obtain ⟨S,hS⟩:∃ S:World->Prop,∀ u,S u↔u.cell? ⟨N,0,none⟩=some (.slice xp i yp):=⟨_,fun _=>Iff.rfl⟩
    have U:=aa hS;have r0:∀ u:an S,World.cell? u.val ⟨N,0,none⟩=some (.slice xp i yp):=fun u=>(hS u.val).1 u.2
    have aF:S wr.drew:=(hS _).2 n0;have hne:=aQ aF;clear hS;refine bW 16 aF ?_
    (refine ae 0 ?_;intro K hK;go_big_quiet_op;go_big_quiet_on);(refine ae 1 ?_;intro K hK;go_big_quiet_op;go_big_quiet_on);(refine ae 2 ?_;intro K hK;go_big_quiet_op;go_big_quiet_on);(refine ae 3 ?_;intro K hK;go_big_quiet_op;go_big_quiet_on)
    (refine ae 5 ?_;intro K hK;go_big_quiet_op;go_big_quiet_on)
    (refine ae 8 ?_;intro K hK;go_big_quiet_op;go_big_quiet_on)
    (refine ae 11 ?_;intro K hK;go_big_quiet_op;go_big_quiet_on)
    refine az 4 ?_;intro K hK
    go_wp2_with (go_at_call 73;refine (gQ _ i _ CG).mono ?_;rintro e w2 ⟨⟨s,rfl,bc⟩,aH⟩)
    have aZ:Cx wr w2:=CV.drew.trans aH;have b8:S w2:=(U.out _).2 (cell_later aZ n0);have V:=aa (HC.out.below aZ);have H:Hid (ag (fun k=>k=C) wr w2):=ag.of_below aZ
    clear aH aZ;refine hK _ _ (ak b8) ?_;clear hK K;refine az 6 ?_;intro K hK
    go_wp2_with (go_at_call 31;refine (iu C ca cc bs L 300 w2 V CG CG).mono ?_;rintro e w3 ⟨y1,be,c4,rfl,bf,aI,aK⟩)
    have M:=aa (H.out.trans aK);have a2:=aa aI;have b9:S w3:=(U.out _).2 (M.out.cell n0 (by show ¬ N=C;omega))
    clear aI aK;refine hK _ _ (ak b9) ?_;clear hK K
    (refine ae 7 ?_;intro K hK;go_big_quiet_op;go_big_quiet_on)
    refine az 9 ?_;intro K hK
    go_wp2_with (go_at_call 32;refine (aJ C ca cc bs be 200 w3 a2 CG CG).mono ?_;rintro e w4 ⟨y2,cb,cd,rfl,ce,bw,bx⟩)
    have bz:=aa (M.out.trans bx);have cf:=aa bw;have cg:S w4:=(U.out _).2 (bz.out.cell n0 (by show ¬ N=C;omega))
    have ch:y2<200:=CG
    clear bw bx cd;refine hK _ _ (ak cg) ?_;clear hK K
    (refine ae 10 ?_;intro K hK;go_big_quiet_op;go_big_quiet_on)
    refine az 12 ?_;intro K hK
    go_wp2_with (go_at_call 32;refine (aJ C ca cc bs cb 90 w4 cf CG CG).mono ?_;rintro e w5 ⟨y3,bA,ci,rfl,cj,bB,bC⟩)
    have aq:=aa (bz.out.trans bC);have ck:=aa bB;have bD:S w5:=(U.out _).2 (aq.out.cell n0 (by show ¬ N=C;omega))
    have cl:y3<90:=CG
    clear bB bC ci;refine hK _ _ (ak bD) ?_;clear hK K
    (refine ae 13 ?_;intro K hK;go_big_quiet_op;go_big_quiet_on);(refine ae 14 ?_;intro K hK;go_big_quiet_op;go_big_quiet_on)
    refine az 15 ?_;intro K hK
    go_wp2_with fail
    have aL:∀ o,S (World.alloc w5 o):=fun o=>(U.out _).2 (cell_later ((Below.refl w5.heap.size w5).alloc CW o) ((U.out _).1 bD))
    refine hK _ _ (ak (aL _)) ?_;clear hK K aL r0 hne;refine a9 ?_;simp only [List.drop_succ_cons,List.drop_zero];have ar:=aa (HN.out.only aq.out);have c5:=aq.out.size;have cm:=ar.out.lt;have bE:=ar.out.op;rw [G] at bE;refine aU rfl (.tmp 23) (.tmp 37) 23 rfl (N+1) 133 _ 4 40 underlying23 Tryz.infoPiece rfl CJ (.slice xp i yp) i (bd ps) rfl bE w5.heap.size rfl [.string s,.int .i64 (1+(y1:Int)),.int .i64 (1+(y2:Int)),.int .i64 (1+(y3:Int))] rfl rfl CL CK CG CG ?_
    intro au av w6 X B;rw [eK _ ⟨s,1+(y1:Int),1+(y2:Int),1+(y3:Int)⟩] at X;rw [<-G] at B X;obtain ⟨m1,m2⟩:=ar.out.rowP B;have bF:=aa (ar.out.pushP B X ⟨bc,by show (1:Int)<=1+y1;omega,by show (1:Int)+y1<=400;omega⟩)
    have d:∀ k,k<=N->(Value.slice xp ps.length yp).ownBlock≠some k:=fun k hk e=>by have:=(ar.out.op.lt k e).1;omega
    have E:∀ k,k<N->(w6.setCell ⟨N,0,none⟩ (.slice au (ps.length+1) av)).heap[k]? = w5.heap[k]? := fun k hk=>(Below.heap_setCell _ _ _ _ (show k≠N by omega)).trans (B.block k CG (fun e=>d k CG e.symm))
    have bG:Hid (Cur (w6.setCell ⟨N,0,none⟩ (.slice au (ps.length+1) av)) C ca cc bs bA):=ck.out.above hlow.out (fun k hk=>E k CG)
    have bH:Hid ((w6.setCell ⟨N,0,none⟩ (.slice au (ps.length+1) av)).ownsRow (N+1) 114 2 (.slice xe (2*i) ye) (2*i) (aG es)):=by
     have h5:=ax HE.out (fun b hb=>aq.out.block b (HE.out.lt b hb).2 (by have:=(HE.out.lt b hb).1;omega))
     refine ownsRow_setCell_below (ax h5 (fun b hb=>B.block b (h5.lt b hb).2 (fun e=>?_))) (Nat.lt_succ_self N) _
     rcases aV (e:=114) (e':=133) CJ h5 ar.out.op with h1 | h1
     ·rw [h1] at hb;cases hb
     ·exact h1 (hb.trans e)
    have bI:Hid (IsT (w6.setCell ⟨N,0,none⟩ (.slice au (ps.length+1) av)) 26 N):=(((D.out.kept (aq.out.block N ab CG)).kept (B.block N cm (fun e=>d N CW e.symm))).set _ _)
    have bJ:Hid (ag (fun k=>k=C\/N<=k) W (w6.setCell ⟨N,0,none⟩ (.slice au (ps.length+1) av))):=(HB.out.trans (aq.out.mono (fun k hk=>Or.inl hk))).trans ⟨B.os,B.tape,B.output,(by have:=B.size;simpa using this),fun k _ hn=>E k (Nat.lt_of_not_le (fun h=>hn (Or.inr h)))⟩
    rw [G] at m1 bF bG bH bI bJ;clear B X d E
    go_wp2_with fail
    go_meet
    exact ⟨au,av,_,bA,CG,by simp [G],bF,bG,bH,bI,bJ⟩
   case rest =>
    obtain ⟨ba,bb,aX,aY,co,bg,bh,bK,aM,bi,bL⟩:=hcut;clear HN HC HE D HB n0 ab;have ab:=bh.out.lt
    go_wp2_with (at_builtin;refine tD rfl (.tmp 40) (.tmp 45) 83 rfl (N+1) 114 _ 2 16 underlying83 Tryz.infoEnd rfl CJ (.slice xe (2*i) ye) (2*i) 2 (aG es) rfl aM.out wc.heap.size rfl [.int .i64 i,.int .i64 0,.int .i64 i,.int .i64 1] rfl rfl CL CK CG CG ?_;intro a3 a4 w7 bM Y)
    have hT:∀ b,¬ IsT wc 114 b->b<wc.heap.size->w7.heap[b]? = wc.heap[b]? := fun b hb hz=>Y.block b hz (fun e=>hb (pq aM.out e.symm))
    have bj:¬ IsT wc 114 N:=fun h=>absurd (vP h bi.out) CJ
    have d:∀ k,k<=N->(Value.slice xe (2*i) ye).ownBlock≠some k:=fun k hk e=>by have:=(aM.out.lt k e).1;omega
    have bk:Hid (Nt1 W w7 C N ca cc bs at_ (i+1) (.slice a3 (2*(i+1)) a4)):=by
     refine ⟨ba,bb,aX,aY,es++[⟨i,0⟩,⟨i,1⟩],bh.out.keptE (fun b _ hz hb=>hT b hb hz) bj,bK.out.above hlow.out (fun k hk=>Y.block k CG (fun e=>d k CG e.symm)),bg,by simp [b6];omega,?_,CG,bi.out.kept (hT N bj ab),bL.out.trans ⟨Y.os,Y.tape,Y.output,Y.size,fun k hk hn=>Y.block k hk (fun e=>?_)⟩⟩
     ·have e1:aG (es++[⟨(i:Int),0⟩,⟨(i:Int),1⟩])=aG es++[.int .i64 i,.int .i64 0,.int .i64 i,.int .i64 1]:=by simp [aG,gn]
      rw [e1,show 2*(i+1)=2*i+2 by omega]
      exact bM
     ·have:=(aM.out.lt k e.symm).1;exact hn (Or.inr CG)
    clear Y bM hT bj d bh bK aM bi bL;have cp:(Value.slice a3 (2*i+2) a4) = .slice a3 (2*(i+1)) a4:=rfl
    go_wp2_with fail
    go_roundw
    case rel=>exact ⟨i+1,a3,a4,cp,by go_num,CG,bk⟩
    case measure=>simp [intOf];omega
  ·have c6:1<=i/\i<=9:=CG
   have c7:¬ (i:Int)<1+x:=CG
   obtain ⟨g,cr⟩:∃ g,xe=some ⟨g,0,none⟩:=by
    rcases HE.out.2 with ⟨_,h2⟩ | ⟨g,c8,c9,h1,_⟩
    ·omega
    ·injection h1 with h1 _ _;exact ⟨g,h1⟩
   subst cr;obtain ⟨m,hm⟩:∃ m,2*i=m:=⟨_,rfl⟩;rw [hm] at HE ⊢;obtain ⟨d,Z,hBg,cs,bl⟩:=By HE.out;have da:2<=m/\m<=18:=CG
   have bN:Hid (Nt2 W wr C N g m ca cc bs (at_+160) (m-1)):=⟨xp,yp,ps,L,HN.out,HC.out,CG,d,Z,CG,D.out,HB.out⟩
   have bO:N<g:=CG
   clear HN HC HE D HB d Z hBg
   go_wp2_with fail
   go_loopw [7] (fun ii wq => ∃ j:Nat,ii = .int .i64 j/\j<m/\Hid (Nt2 W wq C N g m ca cc bs (at_+160) j)) (fun ii _=>(intOf ii).toNat)
   case atStart=>exact ⟨m-1,by rw [Int.natCast_sub CG];rfl,CG,bN⟩
   case round =>
    clear bN;obtain ⟨j,rfl,db,HI⟩:=hrel;obtain ⟨xp,yp,ps,L,n,A,G,d,Z,aD,aE,f⟩:=HI.out;have HN:=aa n;have HC:=aa A;have ac:=aa d;have I:=aa Z;have D:=aa aE;have HB:=aa f;clear HI n A d Z aE f;cases j with
    | zero =>
     have bP:Hid (Nt3 W wr C N g m ca cc bs (at_+200) m):=⟨xp,yp,none,0,ps,[],L,HN.out,HC.out,G,ac.out,I.out,CG,CI,HB.out⟩
     clear HN HC ac I D HB
     go_wp2_with fail
     go_loopw [4] (fun ve wq => ∃ (l off c:Nat),ve = .slice (some ⟨g,off,none⟩) l c/\off+2*l<=2*m/\l<=c/\c<=maxLen/\Hid (Nt3 W wq C N g m ca cc bs (at_+200) l)) (fun ve _=>lenOf ve)
     case atStart=>exact ⟨m,0,ye,rfl,CG,cs,bl,bP⟩
     case round =>
      clear bP;obtain ⟨l,off,c,rfl,ct,dc,dd,HI⟩:=hrel;obtain ⟨xp,yp,xj,yj,ps,js,L,n,A,G,d,Z,aD,de,f⟩:=HI.out;have HN:=aa n;have HC:=aa A;have ac:=aa d;have I:=aa Z;have HB:=aa f;have b7:=n.cn;clear HI n A d Z f
      by_cases df:l=0
      ·have cu:¬ (0:Int)<l:=CG
       have n0:=HN.out.c0;have n1:=HN.out.c1;have dg:=HN.out.lt;have aN:wr.heap[R]? = W.heap[R]? := HB.out.block R CG CG
       have q0:=(World.cell?_of_block (w:=W) (a:=⟨R,0,none⟩) aN).trans R0;have q1:=(World.cell?_of_block (w:=W) (a:=⟨R,1,none⟩) aN).trans R1;have u0:=(World.frozen?_of_block (w:=W) (a:=⟨R,0,none⟩) aN).trans (a8.out 0);have u1:=(World.frozen?_of_block (w:=W) (a:=⟨R,1,none⟩) aN).trans (a8.out 1);clear R0 R1 aN;have dh:N≠R:=CG
       go_wp2_with fail
       refine bodyPost_ret (v:=.agg #[.slice xp ps.length yp,.slice xj js.length yj]) (by simp [results,results72,go_sem,q0,q1]) rfl ?_
       have hk:∀ b,b≠R->((wr.setCell ⟨R,0,none⟩ (.slice xp ps.length yp)).setCell ⟨R,1,none⟩ (.slice xj js.length yj)).heap[b]? = wr.heap[b]? := fun b hb=>(Below.heap_setCell _ _ _ _ hb).trans (Below.heap_setCell _ _ _ _ hb)
       have n:=HN.out.kept (w':=(wr.setCell ⟨R,0,none⟩ (.slice xp ps.length yp)).setCell ⟨R,1,none⟩ (.slice xj js.length yj)) (fun b h1 _=>hk b CG)
       have hw:=b5.out;refine ⟨xp,yp,xj,yj,ps,js.map (fun z:MJ=>z.2.2),L,CI,fun u hu=>(by have h:=n.kept (w':=u) (fun b h1 hz=>hu b CG hz);exact ⟨oD h.op (fun p hp=>(h.pn p hp).1),ot h.oj h.jn h.je⟩),⟨CG,CG,fun p hp=>(n.pn p hp).2,CN,fun j hj=>by obtain ⟨z,hz,rfl⟩:=List.mem_map.1 hj;exact (n.je z hz).2.2⟩,HC.out.above hlow.out (fun k di=>hk k CG),CG,?_⟩
       have h1:ag (fun k=>k=C) w wr:=⟨HB.out.os.trans ap.out.os,HB.out.tape.trans ap.out.tape,HB.out.output.trans ap.out.output,Nat.le_trans ap.out.size HB.out.size,fun k cv cw=>(HB.out.block k CG CG).trans (ap.out.block k cv)⟩
       exact (h1.setCell (p:=⟨R,0,none⟩) (Or.inr hw) _).setCell (p:=⟨R,1,none⟩) (Or.inr hw) _
      ·have cu:(0:Int)<l:=CG
       have aw:=I.out.lt
       go_wp2_with fail
       generalize bm:World.alloc wr _=Wk;have bQ:Cx wr Wk:=by rw [<-bm];exact CV.alloc CW _
       have bR:Hid (∀ y:Nat,y<7->∃ kv:Nat,Wk.cell? ⟨wr.heap.size,y,none⟩=some (.int .i64 kv)/\1<=kv/\kv<=4):=by
        intro y hy;rw [<-bm];have h7:y=0\/y=1\/y=2\/y=3\/y=4\/y=5\/y=6:=CG
        rcases h7 with rfl | rfl | rfl | rfl | rfl | rfl | rfl
        ·exact ⟨1,CO,CG,CG⟩
        ·exact ⟨2,CO,CG,CG⟩
        ·exact ⟨2,CO,CG,CG⟩
        ·exact ⟨3,CO,CG,CG⟩
        ·exact ⟨3,CO,CG,CG⟩
        ·exact ⟨3,CO,CG,CG⟩
        ·exact ⟨4,CO,CG,CG⟩
       have bn:=aa bQ;clear bm bQ;refine (aJ C ca cc bs L 7 Wk (HC.out.below bn.out) CG CG).mono ?_
       rintro e w2 ⟨y,aA,hy,rfl,aB,aO,ay⟩;have cx:y<7:=CG
       obtain ⟨kv,bS,cy,cz⟩:=bR.out y cx;have dj:=HC.out.lt;have kc:=ay.cell bS (by show ¬ wr.heap.size=C;omega)
       have V:=aa aO;have H:Hid (ag (fun k=>k=C) wr w2):=(ag.of_below bn.out).trans ay
       clear bS aO ay bR bn hy
       go_upto_if 91 with fail
       go_cut [11] (fun v wx => ∃ kd:Nat,v = .int .i64 kd/\1<=kd/\kd<=4/\kd<=l/\wx=w2)
       case first =>
        by_cases dk:(l:Int)<kv
        ·go_wp2_with fail
         go_meet
         exact ⟨1,rfl,CG,CG,CG,rfl⟩
        ·go_wp2_with fail
         go_meet
         exact ⟨kv,rfl,CG,CG,CG,rfl⟩
       case rest =>
        obtain ⟨kd,rfl,cA,cB,cC,bT⟩:=hcut;have bo:w2=wc:=bT.symm;clear bT;subst bo;have a5:=aa (HN.out.only H.out);have O:Hid (jw w2 g (2*m)):=ac.out.kept (H.out.block g aw CG)
        have ad:Hid (IsT w2 114 g):=I.out.kept (H.out.block g aw CG)
        have bU:Hid (ag (fun k=>k=C\/N<=k) W w2):=HB.out.trans (H.out.mono (fun k hk=>Or.inl hk))
        clear HN HC ac I HB H kc;clear aw;have aw:=ad.out.lt;have ab:=a5.out.lt
        go_wp2_with fail
        generalize bV:World.alloc w2 _=WJ;obtain ⟨J,hJ⟩:∃ J,w2.heap.size=J:=⟨_,rfl⟩;have r:Hid (InJ w2 WJ w2.heap.size kd 0 ⟨#[]⟩ none 0 []):=by
         rw [<-bV];exact ⟨CO,CO,CO,fun o=>CO,rfl,World.ownsRow_nil _ _ _ _,CV.alloc CW _⟩
        rw [hJ] at r aw ab ⊢;have aP:Hid (w2.heap.size=J):=hJ;clear bV hJ
        go_loopw [13] (fun qq wi => ∃ (q:Nat) (xe:Option Addr) (ye:Nat) (es:List am),qq = .int .i64 q/\q<=kd/\Hid (InJ w2 wi J kd q ⟨#[]⟩ xe ye es)) (fun qq _=>kd-(intOf qq).toNat)
        case atStart=>exact ⟨0,none,0,[],rfl,CG,r⟩
        case round =>
         clear r;obtain ⟨q,xe,ye,es,rfl,dl,r⟩:=hrel
         by_cases hq:q<kd
         ·have dm:(q:Int)<kd:=CG
          have cD:(q:Int)<l:=CG
          have c2:=r.out.c2;have aR:=r.out.lt;have bX:wr.heap[g]? = w2.heap[g]? := r.out.base.block g CG
          obtain ⟨⟨e0,E0⟩,_⟩:=(O.out.kept bX) (off+q*2) CG
          obtain ⟨⟨e1,E1⟩,_⟩:=(O.out.kept bX) (off+q*2+1) CG
          go_upto_region 24 with fail
          obtain ⟨S,hS⟩:∃ S:World->Prop,∀ u,S u↔(u.cell? ⟨J,2,none⟩=some (.slice xe q ye)/\u.cell? ⟨g,off+q*2,none⟩=some (.int .i64 e0)/\u.cell? ⟨g,off+q*2+1,none⟩=some (.int .i64 e1)):=⟨_,fun _=>Iff.rfl⟩
          have U:=aa hS;have r0:∀ u:an S,World.cell? u.val ⟨J,2,none⟩=some (.slice xe q ye):=fun u=>((hS u.val).1 u.2).1
          have r1:∀ u:an S,World.cell? u.val ⟨g,off+q*2,none⟩=some (.int .i64 e0):=fun u=>((hS u.val).1 u.2).2.1
          have r2:∀ u:an S,World.cell? u.val ⟨g,off+q*2+1,none⟩=some (.int .i64 e1):=fun u=>((hS u.val).1 u.2).2.2
          have aF:S wr.drew:=(hS _).2 ⟨c2,E0,E1⟩;have hne:=aQ aF;clear hS;refine bW 7 aF ?_
          (refine ae 0 ?_;intro K hK;go_big_quiet_op;go_big_quiet_on);(refine ae 1 ?_;intro K hK;go_big_quiet_op;go_big_quiet_on);(refine ae 2 ?_;intro K hK;go_big_quiet_op;go_big_quiet_on);(refine ae 3 ?_;intro K hK;go_big_quiet_op;go_big_quiet_on);(refine ae 4 ?_;intro K hK;go_big_quiet_op;go_big_quiet_on);(refine ae 5 ?_;intro K hK;go_big_quiet_op;go_big_quiet_on)
          refine az 6 ?_;intro K hK
          go_wp2_with fail
          have aL:∀ o,S (World.alloc wr o).drew:=fun o=>by
           have hb:Cx wr (World.alloc wr o).drew:=(CV.alloc CW o).drew;exact (U.out _).2 ⟨cell_later hb c2,cell_later hb E0,cell_later hb E1⟩
          refine hK _ _ (ak (aL _)) ?_;clear hK K aL r0 r1 r2 hne;refine a9 ?_;simp only [List.drop_succ_cons,List.drop_zero];have af:=aa (r.out.below (wi':=wr.drew) (CV.drew));refine aU (Wp:=wr.drew) rfl (.tmp 100) (.tmp 105) 83 rfl (J+1) 114 _ 2 16 underlying83 Tryz.infoEnd rfl CJ (.slice xe q ye) q (aG es) rfl af.out.own wr.heap.size rfl [.int .i64 e0,.int .i64 e1] rfl rfl CL CK CG (by show J+1<=wr.heap.size;omega) ?_
          intro cE cF w6 X B;rw [eE _ ⟨e0,e1⟩] at X;have bp:=aa (af.out.push B X);have bq:w6.heap[J]? = wr.heap[J]? := B.block J aR (fun e=>by have:=(r.out.own.lt J e.symm).1;omega)
          have m1:=(World.cell?_of_block (w:=wr) (a:=⟨J,2,none⟩) bq).trans c2;have m2:=(World.frozen?_of_block (w:=wr) (a:=⟨J,2,none⟩) bq).trans (r.out.z 2);clear X B bq r af
          go_wp2_with fail
          go_roundw
          case rel=>exact ⟨q+1,cE,cF,_,by go_num,CG,bp⟩
          case measure=>simp [intOf];omega
         ·have cG:q=kd:=CG
          subst cG;have dn:¬ (q:Int)<q:=CG
          have bY:=aa (a5.out.below (aP.out ▸ r.out.base));have cH:=aa (V.out.below (aP.out ▸ r.out.base));have c0:=r.out.c0;have c1:=r.out.c1;have c2:=r.out.c2;have n1:=bY.out.c1;have aR:=r.out.lt;have bZ:Hid (∀ (c:Value) (u:World),Calls prog 73 #[c,.int .i64 (100+(js.length:Int))] u fun e w'=>(∃ s:ByteArray,e = .returned (.string s)/\s.size<=1000002)/\Cx u w'):=fun c u=>by
           have h:=gQ c (100+js.length) u CG
           rw [Int.natCast_add] at h;exact h
          go_upto_if 109 with fail
          go_cut [] (fun wx => ∃ nm:ByteArray,nm.size<=1000002/\Hid (InJ w2 wx J q q nm xe ye es))
          case first =>
           by_cases dp:(3:Int)<=q
           ·go_wp2_with fail
            refine (bZ.out _ _).mono ?_;rintro e w7 ⟨⟨s,rfl,bc⟩,F⟩;have d1:=cell_later F c1;have z1:=(F.frozen (p:=⟨J,1,none⟩) aR).trans (r.out.z 1);have cI:=aa ((r.out.below F).name s);clear F
            go_wp2_with fail
            go_meet
            exact ⟨s,bc,cI⟩
           ·go_wp2_with fail
            go_meet
            exact ⟨⟨#[]⟩,Nat.zero_le _,r⟩
          case rest =>
           obtain ⟨nm,cJ,HJ⟩:=hcut;clear r bY cH c0 c1 c2 n1 aR bZ;have F:Below w2.heap.size w2 wc:=aP.out ▸ HJ.out.base;have ah:=aa (a5.out.below F);have cK:=aa (V.out.below F);have br:Hid (jw wc g (2*m)):=O.out.kept (F.block g (by have:=aP.out;omega))
           have aj:Hid (IsT wc 114 g):=ad.out.kept (F.block g (by have:=aP.out;omega))
           have cL:Hid (ag (fun k=>k=C\/N<=k) W wc):=bU.out.trans (ag.of_below F)
           have c0:=HJ.out.c0;have c1:=HJ.out.c1;have c2:=HJ.out.c2;have n1:=ah.out.c1;have aR:=HJ.out.lt;have dq:=ah.out.lt;have cM:=aa (HJ.out.ends (N:=N) ab CG (q:Int))
           have cN:=aa HJ.out.len;have cD:(q:Int)<=l:=CG
           clear F a5 V O ad bU HJ
           go_wp2_with (at_builtin;refine aU (Wp:=wc) rfl (.tmp 118) (.tmp 120) 24 rfl (N+1) 109 _ 3 48 underlying24 Tryz.infoJoint rfl CJ (.slice xj js.length yj) js.length (cq js) rfl ah.out.oj wc.heap.size rfl [.int .i64 (q:Int),.string nm,.slice xe q ye] rfl rfl CL CK CG CG ?_;intro al ao w8 b2 T;obtain ⟨m1,m2⟩:=ah.out.rowJ T;have cO:Hid (w8.heap[g]? = wc.heap[g]?):=T.block g aj.out.lt (fun e=>aj.out.ne ah.out.oj CJ e.symm);have cP:Hid (dv (w8.setCell ⟨N,1,none⟩ (.slice al (js.length+1) ao)) C N xp yp al ao ps (js++[(xe,ye,⟨(q:Int),nm,es⟩)])):=ah.out.pushJ T (by rw [<-fw];dsimp only;rw [cN.out];exact b2) cJ cM.out;have b3:Hid (∀ k,k<N->(w8.setCell ⟨N,1,none⟩ (.slice al (js.length+1) ao)).heap[k]? = wc.heap[k]?):=(fun k hk=>(Below.heap_setCell _ _ _ _ (show k≠N by omega)).trans (T.block k CG (fun e=>(by have:=(ah.out.oj.lt k e.symm).1;omega))));have cQ:Hid (ag (fun k=>k=C\/N<=k) wc (w8.setCell ⟨N,1,none⟩ (.slice al (js.length+1) ao))):=⟨T.os,T.tape,T.output,(by have:=T.size;simpa using this),fun k _ hn=>b3.out k (Nat.lt_of_not_le (fun h=>hn (Or.inr h)))⟩;clear b2 T)
           all_goals
            have aS:(w8.setCell ⟨N,1,none⟩ (.slice al (js.length+1) ao)).heap[g]? = wc.heap[g]? := (Below.heap_setCell _ _ _ _ (show g≠N by omega)).trans cO.out
            have bk:Hid (Nt3 W (w8.setCell ⟨N,1,none⟩ (.slice al (js.length+1) ao)) C N g m ca cc bs (at_+200) (l-q)):=⟨xp,yp,al,ao,ps,_,aA,cP.out,cK.out.above hlow.out (fun k hk=>b3.out k CG),G,br.out.kept aS,aj.out.kept aS,CG,CN,cL.out.trans cQ.out⟩
            refine ⟨⟨_,_,_,⟨rfl,rfl,rfl⟩,CG,CG,CG,bk⟩,by simp only [lenOf];omega⟩
    | succ j =>
     have dr:(0:Int)<((j+1:Nat):Int):=CG
     go_wp2_with fail
     refine (aJ C ca cc bs L _ _ HC.out CG CG).mono ?_
     rintro e w2 ⟨y,aA,hy,rfl,aB,aO,ay⟩;have V:=aa aO;have H:=aa ay;have ds:y<j+2:=CG
     clear aO ay hy
     go_wp2_with fail
     refine (aJ C ca cc bs aA 3 w2 V.out CG CG).mono ?_
     rintro e w3 ⟨z,be,hz,rfl,bf,aI,aK⟩;have a2:=aa aI;have M:=aa (H.out.trans aK);have dt:z<3:=CG
     clear aI aK hz V H
     go_upto_region 12 with fail
     obtain ⟨k,hk,du⟩:∃ k:Nat,wrap64 ((j:Int)+1-wrap64 ((y:Int) / (1+(z:Int))))=(k:Int)/\k<=j+1:=by
      have h1:0<=(y:Int) / (1+(z:Int)):=Int.ediv_nonneg CG CG
      have h2:(y:Int) / (1+(z:Int))<=y:=Int.ediv_le_self _ CG
      generalize (y:Int) / (1+(z:Int))=q at h1 h2 ⊢;refine ⟨(j+1-q.toNat:Nat),?_,CG⟩
      unfold wrap64;omega
     rw [hk];clear hk;have t:jw w3 g (2*m):=ac.out.kept (M.out.block g I.out.lt (by have:=HN.out.cn;omega))
     obtain ⟨⟨a0,A0⟩,Z0⟩:=t ((j+1)*2) CG
     obtain ⟨⟨a1,A1⟩,Z1⟩:=t ((j+1)*2+1) CG
     obtain ⟨⟨b0,B0⟩,Y0⟩:=t (k*2) CG
     obtain ⟨⟨b1,B1⟩,Y1⟩:=t (k*2+1) CG
     have aw:g<w3.heap.size:=ai A0;have dw:(j:Int)+1<m:=CG
     have cw:(k:Int)<m:=CG
     have aT:=aa t;clear t;have b4:Hid (Nt2 W w3 C N g m ca cc bs (at_+160) j):=⟨xp,yp,ps,be,HN.out.only M.out,a2.out,G,aT.out,I.out.kept (M.out.block g I.out.lt (by have:=HN.out.cn;omega)),CG,D.out.kept (M.out.block N D.out.lt (by have:=HN.out.cn;omega)),HB.out.trans (M.out.mono (fun k hk=>Or.inl hk))⟩
     clear HN HC ac I D HB a2 M aT
     by_cases cR:k=j+1
     ·subst cR
      go_wp2_with fail
      refine ⟨⟨j,rfl,CG,?_⟩,by simp [intOf]⟩
      repeat (first | exact b4 | refine Nt2.more ?_ _ | refine Nt2.set ?_ bO hlow.out _ _)
     ·have e1:(j+1)*2≠k*2:=CG
      have e2:(j+1)*2+1≠k*2:=CG
      have e3:(j+1)*2≠k*2+1:=CG
      have e4:(j+1)*2+1≠k*2+1:=CG
      go_wp2_with fail
      refine ⟨⟨j,rfl,CG,?_⟩,by simp [intOf]⟩
      repeat (first | exact b4 | refine Nt2.more ?_ _ | refine Nt2.set ?_ bO hlow.out _ _)
end Go.Proofs.YtmkdgnmmebldgaaGreatDoor
