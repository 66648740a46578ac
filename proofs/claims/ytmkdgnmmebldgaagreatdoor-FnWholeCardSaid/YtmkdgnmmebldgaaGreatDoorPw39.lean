import Derived.Test.YtmkdgnmmebldgaaGreatDoorPw44
import Derived.Test.YtmkdgnmmebldgaaGreatDoorPw38
import Derived.Deep.DeepCutAuto
set_option maxRecDepth 100000
set_option maxHeartbeats 8000000
namespace Go.Proofs.YtmkdgnmmebldgaaGreatDoor
open Go.RowKit Go.Deep
theorem wpList_pushN {P:Program}{Wp:World}{ops:Array Oper}{rest:List Oper}{o:Oper}{a:Act}{Q:Exit->Act->World->Prop}(hgd:o.guard=none)(s x:Operand)(t:TypeId)
  (ho:o.op = .call { callee:=.builtin .append,args:=#[s,x],argTypes:=#[t,t] })
  (B:Nat) (e:TypeId) (z:Value) (size bytes:Nat) (ht:P.underlying t=some (.slice e)) (hi:(P.info? e).map (fun i=>(i.zero,i.size,i.bytes))=some (some z,size,bytes)) (hzs:z.cells.size=size) (hsz:0<size)
  (v:Value) (n m:Nat) (xs:List Value) (hs:a.eval s=v) (hown:Wp.ownsRow B e size v n xs)
  (g:Nat) (hgs:g=Wp.heap.size) (news:List Value) (hx:a.eval x = .slice (some ⟨g,0,none⟩) m m) (hl:news.length=m*size) (h1:∀ u ∈ news,u.oneCell'=true)
  (h63:n+m<=maxLen) (hbytes:(n+m)*bytes<=140737488355328) (hB:B<=Wp.heap.size)
  (h:∀ x' y' w',w'.ownsRow B e size (.slice x' (n+m) y') (n+m) (xs++news)->Wp.grownBy w' v.ownBlock->wpList P ops Q rest (a.put o.dst (.slice x' (n+m) y')) w'):wpList P ops Q (o::rest) a (Wp.alloc (.cells news.toArray e)):=by
 subst hgs;obtain ⟨i,hi1,hi2,hi3,hi4⟩:=info_parts hi;refine wpList_append_own _ hgd s x t ho B e i z size bytes ht hi1 hi2 hi3 hi4 hzs hsz v n xs hs (hown.alloc _) ⟨Wp.heap.size,0,none⟩ m m news hx hl ?_ h1 h63 hbytes (by simp;omega) ?_
 ·intro j u hu;rw [addr_at,Nat.zero_add];have:=cell_of_row (Wp.alloc (.cells news.toArray e)) Wp.heap.size j news.toArray e (0,0) (heap_alloc_new Wp _);rw [this];simpa using hu
 ·intro v' w' ho' hg' _;obtain ⟨x',y',rfl,_⟩:=owns_shape ho';refine h x' y' w' ho' ⟨hg'.os,hg'.tape,hg'.output,Nat.le_trans (by simp) hg'.size,fun k hk hne=>?_⟩
  exact (hg'.block k (by simp;omega) hne).trans (Below.heap_alloc _ _ _ hk)
theorem IsT.set {w:World}{t b:Nat}(h:IsT w t b)(p:Addr)(u:Value):IsT (w.setCell p u) t b:=by
 obtain ⟨cur,h⟩:=h
 by_cases e:b=p.block
 ·subst e;refine ⟨if p.spot.isSome then cur else cur.setIfInBounds p.off u,?_⟩
  simp [World.setCell,Array.getElem?_modify,h]
 ·exact ⟨cur,(Below.heap_setCell _ _ _ _ e).trans h⟩
theorem owns_isT {w:World}{B e s n b:Nat}{v:Value}{xs:List Value}(h:w.ownsRow B e s v n xs)(hb:v.ownBlock=some b):IsT w e b:=by
 rcases h.2 with ⟨rfl,_⟩ | ⟨g,cap,cur,rfl,_,hg,_⟩
 ·cases hb
 ·cases hb;exact ⟨cur,hg⟩
def RowI (w:World)(g n:Nat):Prop := ∀ j,j<n->(∃ x:Int,w.cell? ⟨g,j,none⟩=some (.int .i64 x))/\w.frozen? ⟨g,j,none⟩=false
theorem rowI_of {w:World}{B n:Nat}{g y:Nat}{es:List MEnd}(h:w.ownsRow B 114 2 (.slice (some ⟨g,0,none⟩) n y) n (flatE es)):RowI w g (2*n)/\IsT w 114 g/\B<=g/\n<=y/\y<=maxLen:=by
 rcases h.2 with ⟨h1,_⟩ | ⟨g',cap,cur,h1,h2,h3,h4,h5,h6,h7⟩
 ·cases h1
 ·cases h1;refine ⟨fun j hj=>⟨?_,by simp [World.frozen?,h3]⟩,⟨cur,h3⟩,h2,h4,h5⟩
  have hl:es.length*2=n*2:=by have:=h.1;rw [flatE_len] at this;exact this
  have hi:j / 2<es.length:=by omega
  have hc:=h.cells (g:=g) rfl;have hr:j % 2=0\/j % 2=1:=by omega
  rcases hr with hr | hr
  ·have:=hc (j / 2*2+0) _ ((flat_get encE 2 (fun _=>rfl) es (j / 2) 0 hi (by omega)).trans rfl)
   rw [addr_at,show 0+(j / 2*2+0)=j by omega] at this
   exact ⟨_,this⟩
  ·have:=hc (j / 2*2+1) _ ((flat_get encE 2 (fun _=>rfl) es (j / 2) 1 hi (by omega)).trans rfl)
   rw [addr_at,show 0+(j / 2*2+1)=j by omega] at this
   exact ⟨_,this⟩
theorem NetS.keptE {w w':World}{C N:Nat}{xp xj:Option Addr}{yp yj:Nat}{ps:List MPiece}(h:NetS w C N xp yp xj yj ps [])(hk:∀ b,N<=b->b<w.heap.size->¬ IsT w 114 b->w'.heap[b]? = w.heap[b]?)(hN:¬ IsT w 114 N):NetS w' C N xp yp xj yj ps []:=by
 have hN:=hk N (Nat.le_refl _) h.lt hN;refine ⟨h.cn,(World.cell?_of_block (w:=w) hN).trans h.c0,(World.cell?_of_block (w:=w) hN).trans h.c1,fun o=>(World.frozen?_of_block (w:=w) hN).trans (h.z o),owns_kept2 h.op (fun b hb=>hk b (by have:=(h.op.lt b hb).1;omega) (h.op.lt b hb).2 (fun hT=>hT.ne h.op (by decide) hb)),owns_kept2 h.oj (fun b hb=>hk b (by have:=(h.oj.lt b hb).1;omega) (h.oj.lt b hb).2 (fun hT=>hT.ne h.oj (by decide) hb)),fun x hx=>(by cases hx),h.pn,h.jn⟩
theorem NetS.rowP {w w':World}{C N:Nat}{xp xj:Option Addr}{yp yj:Nat}{ps:List MPiece}{js:List MJ}(h:NetS w C N xp yp xj yj ps js)(hg:w.grownBy w' (Value.slice xp ps.length yp).ownBlock):w'.cell? ⟨N,0,none⟩=some (.slice xp ps.length yp)/\w'.frozen? ⟨N,0,none⟩=false:=by
 have hN:w'.heap[N]? = w.heap[N]? := hg.block N h.lt (fun e=>by have:=(h.op.lt N e.symm).1;omega)
 exact ⟨(World.cell?_of_block (w:=w) hN).trans h.c0,(World.frozen?_of_block (w:=w) hN).trans (h.z 0)⟩
theorem isT_two {w:World}{t t' b:Nat}(h:IsT w t b)(h':IsT w t' b):t=t':=by
 obtain ⟨c,h⟩:=h;obtain ⟨c',h'⟩:=h';rw [h] at h';simp only [Option.some.injEq,Obj.cells.injEq] at h';exact h'.2.1
section
variable {W w w':World} {C N g m:Nat} {ca:Option Addr} {cc:Nat} {bs:List Int} {top j:Nat}
end
def lenOf:Value->Nat | .slice _ n _=>n | _=>0
structure InJ (w2 wi:World)(J kd q:Nat)(nm:ByteArray)(xe:Option Addr)(ye:Nat)(es:List MEnd):Prop where
 c0:wi.cell? ⟨J,0,none⟩=some (.int .i64 kd)
 c1:wi.cell? ⟨J,1,none⟩=some (.string nm)
 c2:wi.cell? ⟨J,2,none⟩=some (.slice xe q ye)
 z:∀ o,wi.frozen? ⟨J,o,none⟩=false
 len:es.length=q
 own:wi.ownsRow (J+1) 114 2 (.slice xe q ye) q (flatE es)
 base:Below J w2 wi
theorem InJ.lt {w2 wi:World}{J kd q:Nat}{nm:ByteArray}{xe:Option Addr}{ye:Nat}{es:List MEnd}(h:InJ w2 wi J kd q nm xe ye es):J<wi.heap.size:=cellLt h.c0
theorem InJ.below {w2 wi wi':World}{J kd q:Nat}{nm:ByteArray}{xe:Option Addr}{ye:Nat}{es:List MEnd}(h:InJ w2 wi J kd q nm xe ye es)(hb:Below wi.heap.size wi wi'):InJ w2 wi' J kd q nm xe ye es:=
 ⟨cell_later hb h.c0,cell_later hb h.c1,cell_later hb h.c2,fun o=>(hb.frozen (p:=⟨J,o,none⟩) h.lt).trans (h.z o),h.len,owns_below h.own hb,h.base.trans (hb.mono (Nat.le_of_lt h.lt))⟩
theorem InJ.push {w2 wi w':World}{J kd q:Nat}{nm:ByteArray}{xe x':Option Addr}{ye y':Nat}{es:List MEnd}(h:InJ w2 wi J kd q nm xe ye es){e:MEnd}(hg:wi.grownBy w' (Value.slice xe q ye).ownBlock)(ho:w'.ownsRow (J+1) 114 2 (.slice x' (q+1) y') (q+1) (flatE (es++[e]))):
  InJ w2 (w'.setCell ⟨J,2,none⟩ (.slice x' (q+1) y')) J kd (q+1) nm x' y' (es++[e]):=by
 have hJ:w'.heap[J]? = wi.heap[J]? := hg.block J h.lt (fun e=>by have:=(h.own.lt J e.symm).1;omega)
 refine ⟨?_,?_,World.cell?_setCell_same _ _ _ ((World.cell?_of_block (w:=wi) hJ).trans h.c2),fun o=>?_,by simp [h.len],ownsRow_setCell_below ho (Nat.lt_succ_self J) _,?_⟩
 ·rw [World.cell?_setCell_other _ _ _ _ (by simp)]
  exact (World.cell?_of_block (w:=wi) hJ).trans h.c0
 ·rw [World.cell?_setCell_other _ _ _ _ (by simp)]
  exact (World.cell?_of_block (w:=wi) hJ).trans h.c1
 ·rw [World.frozen?_setCell];exact (World.frozen?_of_block (w:=wi) hJ).trans (h.z o)
 ·refine (h.base.trans ⟨hg.os,hg.tape,hg.output,hg.size,fun k hk=>hg.block k (by have:=h.lt;omega) (fun e=>by have:=(h.own.lt k e.symm).1;omega)⟩).trans ⟨rfl,rfl,rfl,by simp,fun k hk=>Below.heap_setCell _ _ _ _ (show k≠J by omega)⟩
theorem InJ.name {w2 wi:World}{J kd q:Nat}{nm:ByteArray}{xe:Option Addr}{ye:Nat}{es:List MEnd}(h:InJ w2 wi J kd q nm xe ye es)(nm':ByteArray):InJ w2 (wi.setCell ⟨J,1,none⟩ (.string nm')) J kd q nm' xe ye es:=by
 refine ⟨?_,World.cell?_setCell_same _ _ _ h.c1,?_,fun o=>?_,h.len,ownsRow_setCell_below h.own (Nat.lt_succ_self J) _,h.base.trans ⟨rfl,rfl,rfl,by simp,fun k hk=>Below.heap_setCell _ _ _ _ (show k≠J by omega)⟩⟩
 ·rw [World.cell?_setCell_other _ _ _ _ (by simp)];exact h.c0
 ·rw [World.cell?_setCell_other _ _ _ _ (by simp)];exact h.c2
 ·rw [World.frozen?_setCell];exact h.z o
theorem InJ.ends {w2 wi:World}{J N kd q:Nat}{nm:ByteArray}{xe:Option Addr}{ye:Nat}{es:List MEnd}(h:InJ w2 wi J kd q nm xe ye es)(hN:N<J)(hq:q<=4)(kk:Int):EndsIn wi N (xe,ye,⟨kk,nm,es⟩):=by
 have hl:=h.len;obtain ⟨a,cap,e1,e2,_,_⟩:=ownE (es:=es) (by rw [hl];exact h.own) (by rw [hl];unfold maxLen;omega)
 injection e1 with e1 _ _;subst e1;refine ⟨e2,Or.inr (fun b off e=>?_),by show es.length<=4;omega⟩
 subst e;have hT:=owns_isT h.own (b:=b) rfl;exact ⟨by have:=(h.own.lt b rfl).1;omega,hT⟩
def valE (es:List MEnd)(o:Nat):Int:=if o % 2=0 then ((es[o / 2]?).map (fun e=>e.piece)).getD 0 else ((es[o / 2]?).map (fun e=>e.side)).getD 0
def setE (es:List MEnd)(o:Nat)(x:Int):List MEnd:=if o % 2=0 then es.set (o / 2) ⟨x,valE es (o+1)⟩ else es.set (o / 2) ⟨valE es (o-1),x⟩
theorem setE_len (es:List MEnd)(o:Nat)(x:Int):(setE es o x).length=es.length:=by
 unfold setE
 split <;> simp
theorem valE_0 {es:List MEnd}{i:Nat}(h:i<es.length):valE es (i*2)=es[i].piece:=by
 unfold valE;rw [if_pos (by omega),show i*2 / 2=i by omega]
 simp [h]
theorem valE_1 {es:List MEnd}{i:Nat}(h:i<es.length):valE es (i*2+1)=es[i].side:=by
 unfold valE;rw [if_neg (by omega),show (i*2+1) / 2=i by omega]
 simp [h]
theorem valE_set (es:List MEnd)(o o':Nat)(x:Int)(h:o<2*es.length)(h':o'<2*es.length):valE (setE es o x) o'=if o'=o then x else valE es o':=by
 have hi:o / 2<es.length:=by omega
 have hi':o' / 2<es.length:=by omega
 by_cases e:o'=o
 ·subst e;rw [if_pos rfl];unfold setE
  by_cases e2:o' % 2=0
  ·rw [if_pos e2];unfold valE;rw [if_pos e2];simp [hi]
  ·rw [if_neg e2];unfold valE;rw [if_neg e2];simp [hi]
 ·rw [if_neg e]
  by_cases ed:o' / 2=o / 2
  ·unfold setE
   by_cases e2:o % 2=0
   ·rw [if_pos e2];have e3:o'=o / 2*2+1:=by omega
    have e4:o+1=o / 2*2+1:=by omega
    rw [e4,e3,valE_1 (by simpa using hi),valE_1 hi]
    simp
   ·rw [if_neg e2];have e3:o'=o / 2*2:=by omega
    have e4:o-1=o / 2*2:=by omega
    rw [e4,e3,valE_0 (by simpa using hi),valE_0 hi]
    simp
  ·unfold setE;have hne:o / 2≠o' / 2:=fun h=>ed h.symm
   split <;> (unfold valE;rw [List.getElem?_set_ne hne])
theorem set2 (es:List MEnd)(i:Nat)(h:i<es.length)(b:MEnd):setE (setE es (i*2) b.piece) (i*2+1) b.side=es.set i b:=by
 have h1:valE (setE es (i*2) b.piece) (i*2)=b.piece:=by rw [valE_set _ _ _ _ (by omega) (by omega),if_pos rfl]
 have e1:setE (setE es (i*2) b.piece) (i*2+1) b.side=(setE es (i*2) b.piece).set i ⟨b.piece,b.side⟩:=by
  conv=>lhs;unfold setE
  rw [if_neg (by omega),show (i*2+1) / 2=i by omega,show i*2+1-1=i*2 by omega]
  rw [show valE (if i*2 % 2=0 then es.set (i*2 / 2) ⟨b.piece,valE es (i*2+1)⟩ else es.set (i*2 / 2) ⟨valE es (i*2-1),b.piece⟩) (i*2)=b.piece from h1]
  rfl
 rw [e1];unfold setE;rw [if_pos (by omega),show i*2 / 2=i by omega,List.set_set]
theorem swap4 (es:List MEnd)(i k:Nat)(hi:i<es.length)(hk:k<es.length):(setE (setE (setE (setE es (i*2) (valE es (k*2))) (i*2+1) (valE es (k*2+1))) (k*2) (valE es (i*2))) (k*2+1) (valE es (i*2+1))).Perm es:=by
 rw [valE_0 hi,valE_1 hi,valE_0 hk,valE_1 hk,set2 es i hi es[k],set2 _ k (by simpa using hk) es[i]]
 exact List.set_set_perm hi hk
def RowE (w:World)(g m:Nat)(es:List MEnd):Prop:=es.length=m/\∀ o,o<2*m->w.cell? ⟨g,o,none⟩=some (.int .i64 (valE es o))/\w.frozen? ⟨g,o,none⟩=false
theorem RowE.kept {w w':World}{g m:Nat}{es:List MEnd}(h:RowE w g m es)(e:w'.heap[g]? = w.heap[g]?):RowE w' g m es:=⟨h.1,fun o ho =>
 ⟨(World.cell?_of_block (w:=w) e).trans (h.2 o ho).1,(World.frozen?_of_block (w:=w) e).trans (h.2 o ho).2⟩⟩
theorem RowE.set {w:World}{g m:Nat}{es:List MEnd}(h:RowE w g m es)(o:Nat)(ho:o<2*m)(y:Int):RowE (w.setCell ⟨g,o,none⟩ (.int .i64 y)) g m (setE es o y):=by
 refine ⟨by rw [setE_len];exact h.1,fun j hj=>?_⟩
 obtain ⟨h1,h2⟩:=h.2 j hj;refine ⟨?_,by rw [World.frozen?_setCell];exact h2⟩
 rw [valE_set _ _ _ _ (by rw [h.1];exact ho) (by rw [h.1];exact hj)]
 by_cases e:j=o
 ·subst e;rw [if_pos rfl];exact World.cell?_setCell_same _ _ _ h1
 ·rw [if_neg e,World.cell?_setCell_other _ _ _ _ (by first | (simp;done) | (simp;omega))]
  exact h1
theorem rowE_of {w:World}{B n:Nat}{g y:Nat}{es:List MEnd}(hl:es.length=n)(h:w.ownsRow B 114 2 (.slice (some ⟨g,0,none⟩) n y) n (flatE es)):RowE w g n es/\IsT w 114 g/\B<=g/\n<=y/\y<=maxLen:=by
 obtain ⟨_,h2,h3,h4,h5⟩:=rowI_of h;refine ⟨⟨hl,fun o ho=>⟨?_,?_⟩⟩,h2,h3,h4,h5⟩
 ·have hi:o / 2<es.length:=by omega
  have hc:=h.cells (g:=g) rfl;have hr:o % 2=0\/o % 2=1:=by omega
  rcases hr with hr | hr
  ·have:=hc (o / 2*2+0) _ ((flat_get encE 2 (fun _=>rfl) es (o / 2) 0 hi (by omega)).trans rfl)
   rw [addr_at,show 0+(o / 2*2+0)=o by omega] at this
   have e:valE es o=es[o / 2].piece:=by have:=valE_0 hi;rw [show o / 2*2=o by omega] at this;exact this
   rw [e];exact this
  ·have:=hc (o / 2*2+1) _ ((flat_get encE 2 (fun _=>rfl) es (o / 2) 1 hi (by omega)).trans rfl)
   rw [addr_at,show 0+(o / 2*2+1)=o by omega] at this
   have e:valE es o=es[o / 2].side:=by have:=valE_1 hi;rw [show o / 2*2+1=o by omega] at this;exact this
   rw [e];exact this
 ·exact ((rowI_of h).1 o ho).2
def Nt1V (W wr:World)(C N:Nat)(ca:Option Addr)(cc:Nat)(bs:List Int)(at_ i:Nat)(ve:Value):Prop:=
 ∃ xp yp ps at' es,NetS wr C N xp yp none 0 ps []/\Cur wr C ca cc bs at'/\ps.length=i/\es.length=2*i/\wr.ownsRow (N+1) 114 2 ve (2*i) (flatE es)/\at'<=at_+2+8*i/\IsT wr 26 N/\Only (fun k=>k=C\/N<=k) W wr/\PsOk ps/\JInv i [] es
def Nt2V (W wr:World)(C N g m np:Nat)(ca:Option Addr)(cc:Nat)(bs:List Int)(top j:Nat)(es:List MEnd):Prop:=
 ∃ xp yp ps at',NetS wr C N xp yp none 0 ps []/\Cur wr C ca cc bs at'/\(1<=ps.length/\ps.length<=10)/\RowE wr g m es/\IsT wr 114 g/\at'+4*j<=top/\IsT wr 26 N/\Only (fun k=>k=C\/N<=k) W wr/\PsOk ps/\ps.length=np
section
variable {W w w':World} {C N g m np:Nat} {ca:Option Addr} {cc:Nat} {bs:List Int} {top j:Nat} {es:List MEnd}
theorem Nt2V.set (h:Hid (Nt2V W w C N g m np ca cc bs top j es))(hgN:N<g)(hl:LowB C ca bs)(o:Nat)(ho:o<2*m)(x:Int):Hid (Nt2V W (w.setCell ⟨g,o,none⟩ (.int .i64 x)) C N g m np ca cc bs top j (setE es o x)):=by
 obtain ⟨xp,yp,ps,at',h1,h2,h3,h4,h5,h6,h7,h8,h9,h10⟩:=h.out;have hcn:=h1.cn;have hk:∀ b,b≠g->(w.setCell ⟨g,o,none⟩ (.int .i64 x)).heap[b]? = w.heap[b]? := fun b hb=>Below.heap_setCell _ _ _ _ hb
 exact ⟨xp,yp,ps,at',h1.keptE (fun b _ _ hb=>hk b (fun e=>hb (e ▸ h5))) (fun h=>absurd (isT_two h h7) (by decide)),h2.above hl (fun k hk'=>hk k (by omega)),h3,h4.set o ho x,h5.set _ _,h6,h7.set _ _,h8.setCell (p:=⟨g,o,none⟩) (Or.inl (Or.inr (Nat.le_of_lt hgN))) _,h9,h10⟩
theorem Nt2V.below (h:Nt2V W w C N g m np ca cc bs top j es)(hb:Below w.heap.size w w'):Nt2V W w' C N g m np ca cc bs top j es:=by
 obtain ⟨xp,yp,ps,at',h1,h2,h3,h4,h5,h6,h7,h8,h9,h10⟩:=h;exact ⟨xp,yp,ps,at',h1.below hb,h2.below hb,h3,h4.kept (hb.block g h5.lt),h5.kept (hb.block g h5.lt),h6,h7.kept (hb.block N h7.lt),h8.trans (Only.of_below hb),h9,h10⟩
theorem Nt2V.more (h:Hid (Nt2V W w C N g m np ca cc bs top j es))(o:Obj):Hid (Nt2V W (w.alloc o) C N g m np ca cc bs top j es):=h.out.below ((Below.refl _ _).alloc (Nat.le_refl _) _)
end
def Nt3V (W wr:World)(C N g m np:Nat)(es:List MEnd)(ca:Option Addr)(cc:Nat)(bs:List Int)(top left:Nat):Prop:=
 ∃ xp yp xj yj ps js at',NetS wr C N xp yp xj yj ps js/\Cur wr C ca cc bs at'/\(1<=ps.length/\ps.length<=10)/\RowE wr g m es/\IsT wr 114 g/\at'+2*left<=top/\js.length+left<=m/\Only (fun k=>k=C\/N<=k) W wr/\PsOk ps/\ps.length=np/\JsOk (js.map (fun z:MJ=>z.2.2))/\JInv np (js.map (fun z:MJ=>z.2.2)) (es.drop (m-left))
theorem take_on {es:List MEnd}{d q:Nat}(h:d+q<es.length):(es.drop d).take q++[es[d+q]]=(es.drop d).take (q+1):=by
 rw [List.take_succ_eq_append_getElem (by simp;omega)]
 simp
theorem jn_net {js:List MJoint}{np l m q:Nat}{es:List MEnd}{nm:ByteArray}(hJ:JsOk js)(hI:JInv np js (es.drop (m-l)))(hq1:1<=q)(hq4:q<=4)(hql:q<=l)(hlm:l<=m)(hm:es.length=m)(h3:¬ 3<=q->nm=⟨#[]⟩)(h4:3<=q->NmOk (100+js.length) nm):JsOk (js++[⟨(q:Int),nm,(es.drop (m-l)).take q⟩])/\JInv np (js++[⟨(q:Int),nm,(es.drop (m-l)).take q⟩]) (es.drop (m-(l-q))):=by
 refine ⟨hJ.push ⟨by show (1:Int)<=q;omega,by show (q:Int)<=4;omega,?_,fun h=>h3 (by have:(q:Int)<3:=h;omega),fun h=>h4 (by have:(3:Int)<=q:=h;omega)⟩,?_⟩
 ·show (((es.drop (m-l)).take q).length:Int)=q
  rw [List.length_take,List.length_drop];omega
 ·have:=hI.take q q nm;rw [List.drop_drop] at this;rw [show m-(l-q)=m-l+q by omega]
  exact this
theorem netV_any (C:Nat)(ca:Option Addr)(cc:Nat)(bs:List Int)(at_:Nat)(w:World)(hc:Hid (Cur w C ca cc bs at_))(hlow:Hid (LowB C ca bs))(ha:at_<=700000000):
  Calls Tryz.prog 72 #[.pointer (some ⟨C,0,none⟩)] w (NetOutV C ca cc bs at_ 400 w):=by
 have hCz:=hc.out.lt
 go_enter Tryz.func72,Tryz.ntmps72
 go_wp2_with fail
 generalize hW:World.alloc (World.alloc w _) _=W;have hbW:Below w.heap.size w W:=by rw [<-hW];exact blo
 have HN0:Hid (NetS W C (w.heap.size+1) none 0 none 0 [] []):=by
  rw [<-hW];exact ⟨by omega,by simp [go_sem],by simp [go_sem],fun o=>by simp [go_sem],World.ownsRow_nil _ _ _ _,World.ownsRow_nil _ _ _ _,fun x hx=>(by cases hx),fun x hx=>(by cases hx),fun x hx=>(by cases hx)⟩
 have R0:W.cell? ⟨w.heap.size,0,none⟩=some (.slice none 0 0):=by rw [<-hW];simp [go_sem]
 have R1:W.cell? ⟨w.heap.size,1,none⟩=some (.slice none 0 0):=by rw [<-hW];simp [go_sem]
 have HRZ:Hid (∀ o,W.frozen? ⟨w.heap.size,o,none⟩=false):=fun o=>by rw [<-hW];simp [go_sem]
 have HNT:Hid (IsT W 26 (w.heap.size+1)):=by
  rw [<-hW];have:=heap_alloc_new (World.alloc w (.cells #[.slice none 0 0,.slice none 0 0] 26)) (.cells #[.slice none 0 0,.slice none 0 0] 26);have e:(World.alloc w (.cells #[.slice none 0 0,.slice none 0 0] 26)).heap.size=w.heap.size+1:=by simp
  rw [e] at this;exact ⟨_,this⟩
 have hzW:w.heap.size+1<W.heap.size:=by rw [<-hW];simp
 have HBW:=hidP hbW;have hwz:=hbW.size;clear hW hbW;obtain ⟨N,hN⟩:∃ N,w.heap.size+1=N:=⟨_,rfl⟩;obtain ⟨R,hR⟩:∃ R,w.heap.size=R:=⟨_,rfl⟩;rw [hN] at HN0 hzW HNT ⊢;rw [hR] at R0 R1 HRZ ⊢;have hRN:R<N:=by omega
 have hRC:C<R:=by omega
 have HRw:Hid (w.heap.size<=R):=by unfold Hid;omega
 clear hN hR;refine (pick_any C ca cc bs at_ 9 W (hc.out.below HBW.out) (by omega) (by omega)).mono ?_
 rintro e w1 ⟨x,at1,hx,rfl,hat1,hc1,ho1⟩;have hx9:x<9:=by omega
 clear hx;have HI0:Hid (Nt1V W w1 C N ca cc bs at_ 0 (.slice none 0 0)):=⟨none,0,[],at1,[],HN0.out.only ho1,hc1,rfl,rfl,World.ownsRow_nil _ _ _ _,by omega,HNT.out.kept (ho1.block N hzW (by omega)),ho1.mono (fun k hk=>Or.inl hk),PsOk.nil,JInv.zero⟩
 clear hc1 ho1 HN0 HNT
 go_wp2_with fail
 have hkx:Hid ((1:Int)+x=((1+x:Nat):Int)):=by unfold Hid;omega
 go_loopw [4,5] (fun ve ii wr => ∃ (i:Nat) (xe:Option Addr) (ye:Nat),ve = .slice xe (2*i) ye/\ii = .int .i64 i/\i<=1+x/\Hid (Nt1V W wr C N ca cc bs at_ i ve)) (fun _ ii _=>1+x-(intOf ii).toNat)
 case atStart=>exact ⟨0,none,0,rfl,rfl,by omega,HI0⟩
 case round =>
  clear HI0;obtain ⟨i,xe,ye,rfl,rfl,hik,HI⟩:=hrel;obtain ⟨xp,yp,ps,at0,es,hnet,hcur,hpl,hel,hown,hat0,hNT,hbase,hpo,hji⟩:=HI.out;have HPO:=hidP hpo;have HJI:=hidP hji;clear hpo hji;have HN:=hidP hnet;have HC:=hidP hcur;have HE:=hidP hown;have HNT:=hidP hNT;have HB:=hidP hbase;have hBz:=hbase.size;clear HI hnet hcur hown hNT hbase
  by_cases hi:i<1+x
  ·have hii:(i:Int)<1+x:=by omega
   have n0:=HN.out.c0;have hNz:=HN.out.lt;have hcn:=HN.out.cn;rw [hpl] at n0
   go_upto_region 6 with fail
   go_cut [] (fun wx => ∃ xp' yp' ps' at',at'<=at0+8/\ps'.length=i+1/\Hid (NetS wx C N xp' yp' none 0 ps' [])/\Hid (Cur wx C ca cc bs at')/\Hid (wx.ownsRow (N+1) 114 2 (.slice xe (2*i) ye) (2*i) (flatE es))/\Hid (IsT wx 26 N)/\Hid (Only (fun k=>k=C\/N<=k) W wx)/\Hid (PsOk ps'))
   case first =>
    obtain ⟨S,hS⟩:∃ S:World->Prop,∀ u,S u↔u.cell? ⟨N,0,none⟩=some (.slice xp i yp):=⟨_,fun _=>Iff.rfl⟩
    have HS0:=hidP hS;have r0:∀ u:Held S,World.cell? u.val ⟨N,0,none⟩=some (.slice xp i yp):=fun u=>(hS u.val).1 u.2
    have hS1:S wr.drew:=(hS _).2 n0;have hne:=held_ne hS1;clear hS;refine wp_region_tree (fun w' => ∃ u:Held S,w'=u.val) 16 (by kernel_rfl) (by kernel_rfl) (held_some hS1) ?_
    (refine wpT_sea 0 ?_;intro K hK;go_big_quiet_op;go_big_quiet_on);(refine wpT_sea 1 ?_;intro K hK;go_big_quiet_op;go_big_quiet_on);(refine wpT_sea 2 ?_;intro K hK;go_big_quiet_op;go_big_quiet_on);(refine wpT_sea 3 ?_;intro K hK;go_big_quiet_op;go_big_quiet_on)
    (refine wpT_sea 5 ?_;intro K hK;go_big_quiet_op;go_big_quiet_on)
    (refine wpT_sea 8 ?_;intro K hK;go_big_quiet_op;go_big_quiet_on)
    (refine wpT_sea 11 ?_;intro K hK;go_big_quiet_op;go_big_quiet_on)
    refine wpT_loud 4 (by rfl) (by kernel_rfl) (by kernel_rfl) ?_
    intro K hK
    go_wp2_with (go_at_call 73;refine (nameV_any _ i _ (by omega)).mono ?_;rintro e w2 ⟨⟨s,rfl,hsz0⟩,hb2'⟩)
    have HNM:=hidP hsz0;have hsz:=hsz0.size;clear hsz0;have hb2:Below wr.heap.size wr w2:=(Below.refl _ _).drew.trans hb2';have hS2:S w2:=(HS0.out _).2 (cell_later hb2 n0);have HC2:=hidP (HC.out.below hb2);have HO2:Hid (Only (fun k=>k=C) wr w2):=Only.of_below hb2
    clear hb2' hb2;refine hK _ _ (held_some hS2) ?_;clear hK K;refine wpT_loud 6 (by rfl) (by kernel_rfl) (by kernel_rfl) ?_
    intro K hK
    go_wp2_with (go_at_call 31;refine (wide_any C ca cc bs at0 300 w2 HC2 (by omega) (by omega)).mono ?_;rintro e w3 ⟨y1,at2,hy1,rfl,hat2,hc3,ho3⟩)
    have HO3:=hidP (HO2.out.trans ho3);have HC3:=hidP hc3;have hS3:S w3:=(HS0.out _).2 (HO3.out.cell n0 (by show ¬ N=C;omega))
    clear hc3 ho3;refine hK _ _ (held_some hS3) ?_;clear hK K
    (refine wpT_sea 7 ?_;intro K hK;go_big_quiet_op;go_big_quiet_on)
    refine wpT_loud 9 (by rfl) (by kernel_rfl) (by kernel_rfl) ?_
    intro K hK
    go_wp2_with (go_at_call 32;refine (pick_any C ca cc bs at2 200 w3 HC3 (by omega) (by omega)).mono ?_;rintro e w4 ⟨y2,at3,hy2,rfl,hat3,hc4,ho4⟩)
    have HO4:=hidP (HO3.out.trans ho4);have HC4:=hidP hc4;have hS4:S w4:=(HS0.out _).2 (HO4.out.cell n0 (by show ¬ N=C;omega))
    have hy2':y2<200:=by omega
    clear hc4 ho4 hy2;refine hK _ _ (held_some hS4) ?_;clear hK K
    (refine wpT_sea 10 ?_;intro K hK;go_big_quiet_op;go_big_quiet_on)
    refine wpT_loud 12 (by rfl) (by kernel_rfl) (by kernel_rfl) ?_
    intro K hK
    go_wp2_with (go_at_call 32;refine (pick_any C ca cc bs at3 90 w4 HC4 (by omega) (by omega)).mono ?_;rintro e w5 ⟨y3,at4,hy3,rfl,hat4,hc5,ho5⟩)
    have HO5:=hidP (HO4.out.trans ho5);have HC5:=hidP hc5;have hS5:S w5:=(HS0.out _).2 (HO5.out.cell n0 (by show ¬ N=C;omega))
    have hy3':y3<90:=by omega
    clear hc5 ho5 hy3;refine hK _ _ (held_some hS5) ?_;clear hK K
    (refine wpT_sea 13 ?_;intro K hK;go_big_quiet_op;go_big_quiet_on);(refine wpT_sea 14 ?_;intro K hK;go_big_quiet_op;go_big_quiet_on)
    refine wpT_loud 15 (by rfl) (by kernel_rfl) (by kernel_rfl) ?_
    intro K hK
    go_wp2_with fail
    have hS6:∀ o,S (World.alloc w5 o):=fun o=>(HS0.out _).2 (cell_later ((Below.refl w5.heap.size w5).alloc (Nat.le_refl _) o) ((HS0.out _).1 hS5))
    refine hK _ _ (held_some (hS6 _)) ?_;clear hK K hS6 r0 hne;refine wpT_done (by kernel_rfl) ?_
    simp only [List.drop_succ_cons,List.drop_zero];have HN5:=hidP (HN.out.only HO5.out);have hz5:=HO5.out.size;have hNl:=HN5.out.lt;have hop:=HN5.out.op;rw [hpl] at hop;refine wpList_push rfl (.tmp 23) (.tmp 37) 23 rfl (N+1) 133 _ 4 40 Tryz.underlying23 Tryz.infoPiece rfl (by decide) (.slice xp i yp) i (flatPc ps) rfl hop w5.heap.size rfl [.string s,.int .i64 (1+(y1:Int)),.int .i64 (1+(y2:Int)),.int .i64 (1+(y3:Int))] rfl rfl (by simp [Value.oneCell']) (by unfold maxLen;omega) (by omega) (by omega) ?_
    intro xp6 yp6 w6 ho6 hg6;rw [flatPc_push _ ⟨s,1+(y1:Int),1+(y2:Int),1+(y3:Int)⟩] at ho6;rw [<-hpl] at hg6 ho6;obtain ⟨m1,m2⟩:=HN5.out.rowP hg6;have HN6:=hidP (HN5.out.pushP hg6 ho6 ⟨hsz,by show (1:Int)<=1+y1;omega,by show (1:Int)+y1<=400;omega⟩)
    have hrow:∀ k,k<=N->(Value.slice xp ps.length yp).ownBlock≠some k:=fun k hk e=>by have:=(HN5.out.op.lt k e).1;omega
    have hlowk:∀ k,k<N->(w6.setCell ⟨N,0,none⟩ (.slice xp6 (ps.length+1) yp6)).heap[k]? = w5.heap[k]? := fun k hk=>(Below.heap_setCell _ _ _ _ (show k≠N by omega)).trans (hg6.block k (by omega) (fun e=>hrow k (by omega) e.symm))
    have HC6:Hid (Cur (w6.setCell ⟨N,0,none⟩ (.slice xp6 (ps.length+1) yp6)) C ca cc bs at4):=HC5.out.above hlow.out (fun k hk=>hlowk k (by omega))
    have HE6:Hid ((w6.setCell ⟨N,0,none⟩ (.slice xp6 (ps.length+1) yp6)).ownsRow (N+1) 114 2 (.slice xe (2*i) ye) (2*i) (flatE es)):=by
     have h5:=owns_kept2 HE.out (fun b hb=>HO5.out.block b (HE.out.lt b hb).2 (by have:=(HE.out.lt b hb).1;omega))
     refine ownsRow_setCell_below (owns_kept2 h5 (fun b hb=>hg6.block b (h5.lt b hb).2 (fun e=>?_))) (Nat.lt_succ_self N) _
     rcases owns_ne (e:=114) (e':=133) (by decide) h5 HN5.out.op with h1 | h1
     ·rw [h1] at hb;cases hb
     ·exact h1 (hb.trans e)
    have HT6:Hid (IsT (w6.setCell ⟨N,0,none⟩ (.slice xp6 (ps.length+1) yp6)) 26 N):=(((HNT.out.kept (HO5.out.block N hNz (by omega))).kept (hg6.block N hNl (fun e=>hrow N (Nat.le_refl _) e.symm))).set _ _)
    have HB6:Hid (Only (fun k=>k=C\/N<=k) W (w6.setCell ⟨N,0,none⟩ (.slice xp6 (ps.length+1) yp6))):=(HB.out.trans (HO5.out.mono (fun k hk=>Or.inl hk))).trans ⟨hg6.os,hg6.tape,hg6.output,(by have:=hg6.size;simpa using this),fun k _ hn=>hlowk k (Nat.lt_of_not_le (fun h=>hn (Or.inr h)))⟩
    have HPO6:Hid (PsOk (ps++[⟨s,1+(y1:Int),1+(y2:Int),1+(y3:Int)⟩])):=HPO.out.push ⟨by rw [hpl];exact HNM.out,by show (1:Int)<=1+y1;omega,by show (1:Int)+y1<=400;omega,by show (1:Int)<=1+y2;omega,by show (1:Int)+y2<=200;omega,by show (1:Int)<=1+y3;omega,by show (1:Int)+y3<=90;omega⟩
    rw [hpl] at m1 HN6 HC6 HE6 HT6 HB6;clear hg6 ho6 hrow hlowk
    go_wp2_with fail
    go_meet
    exact ⟨xp6,yp6,_,at4,by omega,by simp [hpl],HN6,HC6,HE6,HT6,HB6,HPO6⟩
   case rest =>
    obtain ⟨xp',yp',ps',at',hat',hpl',HN',HC',HE',HT',HB',HPO'⟩:=hcut;clear HN HC HE HNT HB n0 hNz;have hNz:=HN'.out.lt
    go_wp2_with (at_builtin;refine wpList_pushN rfl (.tmp 40) (.tmp 45) 83 rfl (N+1) 114 _ 2 16 Tryz.underlying83 Tryz.infoEnd rfl (by decide) (.slice xe (2*i) ye) (2*i) 2 (flatE es) rfl HE'.out wc.heap.size rfl [.int .i64 i,.int .i64 0,.int .i64 i,.int .i64 1] rfl rfl (by simp [Value.oneCell']) (by unfold maxLen;omega) (by omega) (by omega) ?_;intro xe7 ye7 w7 ho7 hg7)
    have hT:∀ b,¬ IsT wc 114 b->b<wc.heap.size->w7.heap[b]? = wc.heap[b]? := fun b hb hz=>hg7.block b hz (fun e=>hb (owns_isT HE'.out e.symm))
    have hNE:¬ IsT wc 114 N:=fun h=>absurd (isT_two h HT'.out) (by decide)
    have hrow:∀ k,k<=N->(Value.slice xe (2*i) ye).ownBlock≠some k:=fun k hk e=>by have:=(HE'.out.lt k e).1;omega
    have HIN:Hid (Nt1V W w7 C N ca cc bs at_ (i+1) (.slice xe7 (2*(i+1)) ye7)):=by
     refine ⟨xp',yp',ps',at',es++[⟨i,0⟩,⟨i,1⟩],HN'.out.keptE (fun b _ hz hb=>hT b hb hz) hNE,HC'.out.above hlow.out (fun k hk=>hg7.block k (by omega) (fun e=>hrow k (by omega) e.symm)),hpl',by simp [hel];omega,?_,by omega,HT'.out.kept (hT N hNE hNz),HB'.out.trans ⟨hg7.os,hg7.tape,hg7.output,hg7.size,fun k hk hn=>hg7.block k hk (fun e=>?_)⟩,HPO'.out,HJI.out.more⟩
     ·have e1:flatE (es++[⟨(i:Int),0⟩,⟨(i:Int),1⟩])=flatE es++[.int .i64 i,.int .i64 0,.int .i64 i,.int .i64 1]:=by simp [flatE,encE]
      rw [e1,show 2*(i+1)=2*i+2 by omega]
      exact ho7
     ·have:=(HE'.out.lt k e.symm).1;exact hn (Or.inr (by omega))
    clear hg7 ho7 hT hNE hrow HN' HC' HE' HT' HB' HPO' HPO HJI;have he2:(Value.slice xe7 (2*i+2) ye7) = .slice xe7 (2*(i+1)) ye7:=rfl
    go_wp2_with fail
    go_roundw
    case rel=>exact ⟨i+1,xe7,ye7,he2,by go_num,by omega,HIN⟩
    case measure=>simp [intOf];omega
  ·have hi1:1<=i/\i<=9:=by omega
   have hin:¬ (i:Int)<1+x:=by omega
   obtain ⟨g,hxe⟩:∃ g,xe=some ⟨g,0,none⟩:=by
    rcases HE.out.2 with ⟨_,h2⟩ | ⟨g,cap,cur,h1,_⟩
    ·omega
    ·injection h1 with h1 _ _;exact ⟨g,h1⟩
   subst hxe;obtain ⟨m,hm⟩:∃ m,2*i=m:=⟨_,rfl⟩;rw [hm] at HE ⊢;have hem:es.length=m:=by omega
   obtain ⟨hrow,hTg,hBg,hye,hye2⟩:=rowE_of hem HE.out;clear hem;have hm2:2<=m/\m<=18:=by omega
   have HI2:Hid (Nt2V W wr C N g m i ca cc bs (at_+160) (m-1) es):=⟨xp,yp,ps,at0,HN.out,HC.out,by omega,hrow,hTg,by omega,HNT.out,HB.out,HPO.out,hpl⟩
   have hmi:Hid (2*i=m):=hm;have hgN:N<g:=by omega
   clear HN HC HE HNT HB hrow hTg hBg HPO
   go_wp2_with fail
   go_loopw [7] (fun ii wq => ∃ (j:Nat) (es:List MEnd),ii = .int .i64 j/\j<m/\Hid (Nt2V W wq C N g m i ca cc bs (at_+160) j es)/\Hid (JInv i [] es)) (fun ii _=>(intOf ii).toNat)
   case atStart=>exact ⟨m-1,es,by rw [Int.natCast_sub (by omega)];rfl,by omega,HI2,HJI⟩
   case round =>
    clear HI2 HJI;obtain ⟨j,es,rfl,hjm,HI,HJI⟩:=hrel;obtain ⟨xp,yp,ps,at0,hnet,hcur,hpl,hrow,hTg,hat0,hNT,hbase,hpo,hpi⟩:=HI.out;have HPO:=hidP hpo;have HPI:=hidP hpi;clear hpo hpi;have HN:=hidP hnet;have HC:=hidP hcur;have HRW:=hidP hrow;have HTG:=hidP hTg;have HNT:=hidP hNT;have HB:=hidP hbase;clear HI hnet hcur hrow hTg hNT hbase;cases j with
    | zero =>
     have HI3:Hid (Nt3V W wr C N g m i es ca cc bs (at_+200) m):=⟨xp,yp,none,0,ps,[],at0,HN.out,HC.out,hpl,HRW.out,HTG.out,by omega,by simp,HB.out,HPO.out,HPI.out,JsOk.nil,by rw [Nat.sub_self];exact HJI.out⟩
     clear HN HC HRW HTG HNT HB HPO HPI HJI
     go_wp2_with fail
     go_loopw [4] (fun ve wq => ∃ (l off c:Nat),ve = .slice (some ⟨g,off,none⟩) l c/\Hid (l=0\/off+2*l=2*m)/\off+2*l<=2*m/\l<=c/\c<=maxLen/\Hid (Nt3V W wq C N g m i es ca cc bs (at_+200) l)) (fun ve _=>lenOf ve)
     case atStart=>exact ⟨m,0,ye,rfl,Or.inr (by omega),by omega,hye,hye2,HI3⟩
     case round =>
      clear HI3;obtain ⟨l,off,c,rfl,HOE,hoff,hlc,hcm,HI⟩:=hrel;obtain ⟨xp,yp,xj,yj,ps,js,at0,hnet,hcur,hpl,hrow,hTg,hat0,hjl,hbase,hpo,hpi,hjo,hji⟩:=HI.out;have HPO:=hidP hpo;have HPI:=hidP hpi;have HJO:=hidP hjo;have HJI:=hidP hji;clear hpo hpi hjo hji;have HN:=hidP hnet;have HC:=hidP hcur;have HRW:=hidP hrow;have HTG:=hidP hTg;have HB:=hidP hbase;have hcn:=hnet.cn;clear HI hnet hcur hrow hTg hbase
      by_cases hl0:l=0
      ·have hl1:¬ (0:Int)<l:=by omega
       have n0:=HN.out.c0;have n1:=HN.out.c1;have hNr:=HN.out.lt;have hRr:wr.heap[R]? = W.heap[R]? := HB.out.block R (by omega) (by omega)
       have q0:=(World.cell?_of_block (w:=W) (a:=⟨R,0,none⟩) hRr).trans R0;have q1:=(World.cell?_of_block (w:=W) (a:=⟨R,1,none⟩) hRr).trans R1;have u0:=(World.frozen?_of_block (w:=W) (a:=⟨R,0,none⟩) hRr).trans (HRZ.out 0);have u1:=(World.frozen?_of_block (w:=W) (a:=⟨R,1,none⟩) hRr).trans (HRZ.out 1);clear R0 R1 hRr;have hnR:N≠R:=by omega
       go_wp2_with fail
       refine bodyPost_ret (v:=.agg #[.slice xp ps.length yp,.slice xj js.length yj]) (by simp [results,Tryz.results72,go_sem,q0,q1]) rfl ?_
       have hk:∀ b,b≠R->((wr.setCell ⟨R,0,none⟩ (.slice xp ps.length yp)).setCell ⟨R,1,none⟩ (.slice xj js.length yj)).heap[b]? = wr.heap[b]? := fun b hb=>(Below.heap_setCell _ _ _ _ hb).trans (Below.heap_setCell _ _ _ _ hb)
       have hnet:=HN.out.kept (w':=(wr.setCell ⟨R,0,none⟩ (.slice xp ps.length yp)).setCell ⟨R,1,none⟩ (.slice xj js.length yj)) (fun b h1 _=>hk b (by omega))
       have hw:=HRw.out;refine ⟨xp,yp,xj,yj,ps,js.map (fun z:MJ=>z.2.2),at0,by simp,fun u hu=>(by have h:=hnet.kept (w':=u) (fun b h1 hz=>hu b (by omega) hz);exact ⟨piecesAt_of h.op (fun p hp=>(h.pn p hp).1),jointsAt_of h.oj h.jn h.je⟩),⟨by omega,by omega,fun p hp=>(hnet.pn p hp).2,by simp;omega,fun j hj=>by obtain ⟨z,hz,rfl⟩:=List.mem_map.1 hj;exact (hnet.je z hz).2.2⟩,HC.out.above hlow.out (fun k hk'=>hk k (by omega)),by omega,?_,?_⟩
       ·have h1:Only (fun k=>k=C) w wr:=⟨HB.out.os.trans HBW.out.os,HB.out.tape.trans HBW.out.tape,HB.out.output.trans HBW.out.output,Nat.le_trans HBW.out.size HB.out.size,fun k hk1 hk2=>(HB.out.block k (by omega) (by omega)).trans (HBW.out.block k hk1)⟩
        exact (h1.setCell (p:=⟨R,0,none⟩) (Or.inr hw) _).setCell (p:=⟨R,1,none⟩) (Or.inr hw) _
       ·have hji:=HJI.out;have hm9:=hmi.out;rw [hl0,Nat.sub_zero,List.drop_eq_nil_of_le (by rw [HRW.out.1];omega),<-HPI.out] at hji
        exact netF_drawn (by omega) (by omega) (by rw [List.length_map];omega) HPO.out HJO.out hji
      ·have hl1:(0:Int)<l:=by omega
       replace HOE:Hid (off+2*l=2*m):=HOE.out.resolve_left hl0;have hgz:=HTG.out.lt
       go_wp2_with fail
       generalize hWk:World.alloc wr _=Wk;have hbk:Below wr.heap.size wr Wk:=by rw [<-hWk];exact (Below.refl _ _).alloc (Nat.le_refl _) _
       have HKC:Hid (∀ y:Nat,y<7->∃ kv:Nat,Wk.cell? ⟨wr.heap.size,y,none⟩=some (.int .i64 kv)/\1<=kv/\kv<=4):=by
        intro y hy;rw [<-hWk];have h7:y=0\/y=1\/y=2\/y=3\/y=4\/y=5\/y=6:=by omega
        rcases h7 with rfl | rfl | rfl | rfl | rfl | rfl | rfl
        ·exact ⟨1,by simp [go_sem],by omega,by omega⟩
        ·exact ⟨2,by simp [go_sem],by omega,by omega⟩
        ·exact ⟨2,by simp [go_sem],by omega,by omega⟩
        ·exact ⟨3,by simp [go_sem],by omega,by omega⟩
        ·exact ⟨3,by simp [go_sem],by omega,by omega⟩
        ·exact ⟨3,by simp [go_sem],by omega,by omega⟩
        ·exact ⟨4,by simp [go_sem],by omega,by omega⟩
       have HBk:=hidP hbk;clear hWk hbk;refine (pick_any C ca cc bs at0 7 Wk (HC.out.below HBk.out) (by omega) (by omega)).mono ?_
       rintro e w2 ⟨y,at1,hy,rfl,hat1,hc2,ho2⟩;have hy7:y<7:=by omega
       obtain ⟨kv,hkv,hkv1,hkv4⟩:=HKC.out y hy7;have hCr:=HC.out.lt;have kc:=ho2.cell hkv (by show ¬ wr.heap.size=C;omega)
       have HC2:=hidP hc2;have HO2:Hid (Only (fun k=>k=C) wr w2):=(Only.of_below HBk.out).trans ho2
       clear hkv hc2 ho2 HKC HBk hy
       go_upto_if 91 with fail
       go_cut [11] (fun v wx => ∃ kd:Nat,v = .int .i64 kd/\1<=kd/\kd<=4/\kd<=l/\wx=w2)
       case first =>
        by_cases hkl:(l:Int)<kv
        ·go_wp2_with fail
         go_meet
         exact ⟨1,rfl,by omega,by omega,by omega,rfl⟩
        ·go_wp2_with fail
         go_meet
         exact ⟨kv,rfl,by omega,by omega,by omega,rfl⟩
       case rest =>
        obtain ⟨kd,rfl,hkd1,hkd4,hkdl,hwc⟩:=hcut;have hwc2:w2=wc:=hwc.symm;clear hwc;subst hwc2;have HN2:=hidP (HN.out.only HO2.out);have HRW2:Hid (RowE w2 g m es):=HRW.out.kept (HO2.out.block g hgz (by omega))
        have HTG2:Hid (IsT w2 114 g):=HTG.out.kept (HO2.out.block g hgz (by omega))
        have HB2:Hid (Only (fun k=>k=C\/N<=k) W w2):=HB.out.trans (HO2.out.mono (fun k hk=>Or.inl hk))
        clear HN HC HRW HTG HB HO2 kc;clear hgz;have hgz:=HTG2.out.lt;have hNz:=HN2.out.lt
        go_wp2_with fail
        generalize hWJ:World.alloc w2 _=WJ;obtain ⟨J,hJ⟩:∃ J,w2.heap.size=J:=⟨_,rfl⟩;have HIJ:Hid (InJ w2 WJ w2.heap.size kd 0 ⟨#[]⟩ none 0 []):=by
         rw [<-hWJ];exact ⟨by simp [go_sem],by simp [go_sem],by simp [go_sem],fun o=>by simp [go_sem],rfl,World.ownsRow_nil _ _ _ _,(Below.refl _ _).alloc (Nat.le_refl _) _⟩
        rw [hJ] at HIJ hgz hNz ⊢;have HJW:Hid (w2.heap.size=J):=hJ;clear hWJ hJ
        go_loopw [13] (fun qq wi => ∃ (q:Nat) (xe:Option Addr) (ye:Nat),qq = .int .i64 q/\q<=kd/\Hid (InJ w2 wi J kd q ⟨#[]⟩ xe ye ((es.drop (m-l)).take q))) (fun qq _=>kd-(intOf qq).toNat)
        case atStart=>exact ⟨0,none,0,rfl,by omega,HIJ⟩
        case round =>
         clear HIJ;obtain ⟨q,xe,ye,rfl,hqk,HIJ⟩:=hrel
         by_cases hq:q<kd
         ·have hqi:(q:Int)<kd:=by omega
          have hql:(q:Int)<l:=by omega
          have c2:=HIJ.out.c2;have hJi:=HIJ.out.lt;have hgi:wr.heap[g]? = w2.heap[g]? := HIJ.out.base.block g (by omega)
          obtain ⟨E0,_⟩:=(HRW2.out.kept hgi).2 (off+q*2) (by omega)
          obtain ⟨E1,_⟩:=(HRW2.out.kept hgi).2 (off+q*2+1) (by omega)
          have HDQ:Hid (m-l+q<es.length):=by have:=HRW2.out.1;have:=HOE.out;unfold Hid;omega
          have HTQ:=hidP (take_on HDQ.out);have HV0:Hid (valE es (off+q*2)=(es[m-l+q]'HDQ.out).piece):=by have h:=valE_0 HDQ.out;have:=HOE.out;rw [show (m-l+q)*2=off+q*2 by omega] at h;exact h
          have HV1:Hid (valE es (off+q*2+1)=(es[m-l+q]'HDQ.out).side):=by have h:=valE_1 HDQ.out;have:=HOE.out;rw [show (m-l+q)*2+1=off+q*2+1 by omega] at h;exact h
          generalize es[m-l+q]'HDQ.out=ev at HTQ HV0 HV1;rw [HV0.out] at E0;rw [HV1.out] at E1;obtain ⟨e0,e1⟩:=ev;dsimp only at E0 E1;clear HV0 HV1 HDQ
          go_upto_region 24 with fail
          obtain ⟨S,hS⟩:∃ S:World->Prop,∀ u,S u↔(u.cell? ⟨J,2,none⟩=some (.slice xe q ye)/\u.cell? ⟨g,off+q*2,none⟩=some (.int .i64 e0)/\u.cell? ⟨g,off+q*2+1,none⟩=some (.int .i64 e1)):=⟨_,fun _=>Iff.rfl⟩
          have HS0:=hidP hS;have r0:∀ u:Held S,World.cell? u.val ⟨J,2,none⟩=some (.slice xe q ye):=fun u=>((hS u.val).1 u.2).1
          have r1:∀ u:Held S,World.cell? u.val ⟨g,off+q*2,none⟩=some (.int .i64 e0):=fun u=>((hS u.val).1 u.2).2.1
          have r2:∀ u:Held S,World.cell? u.val ⟨g,off+q*2+1,none⟩=some (.int .i64 e1):=fun u=>((hS u.val).1 u.2).2.2
          have hS1:S wr.drew:=(hS _).2 ⟨c2,E0,E1⟩;have hne:=held_ne hS1;clear hS;refine wp_region_tree (fun w' => ∃ u:Held S,w'=u.val) 7 (by kernel_rfl) (by kernel_rfl) (held_some hS1) ?_
          (refine wpT_sea 0 ?_;intro K hK;go_big_quiet_op;go_big_quiet_on);(refine wpT_sea 1 ?_;intro K hK;go_big_quiet_op;go_big_quiet_on);(refine wpT_sea 2 ?_;intro K hK;go_big_quiet_op;go_big_quiet_on);(refine wpT_sea 3 ?_;intro K hK;go_big_quiet_op;go_big_quiet_on);(refine wpT_sea 4 ?_;intro K hK;go_big_quiet_op;go_big_quiet_on);(refine wpT_sea 5 ?_;intro K hK;go_big_quiet_op;go_big_quiet_on)
          refine wpT_loud 6 (by rfl) (by kernel_rfl) (by kernel_rfl) ?_
          intro K hK
          go_wp2_with fail
          have hS6:∀ o,S (World.alloc wr o).drew:=fun o=>by
           have hb:Below wr.heap.size wr (World.alloc wr o).drew:=((Below.refl _ _).alloc (Nat.le_refl _) o).drew;exact (HS0.out _).2 ⟨cell_later hb c2,cell_later hb E0,cell_later hb E1⟩
          refine hK _ _ (held_some (hS6 _)) ?_;clear hK K hS6 r0 r1 r2 hne;refine wpT_done (by kernel_rfl) ?_
          simp only [List.drop_succ_cons,List.drop_zero];have HIJd:=hidP (HIJ.out.below (wi':=wr.drew) ((Below.refl _ _).drew));refine wpList_push (Wp:=wr.drew) rfl (.tmp 100) (.tmp 105) 83 rfl (J+1) 114 _ 2 16 Tryz.underlying83 Tryz.infoEnd rfl (by decide) (.slice xe q ye) q (flatE ((es.drop (m-l)).take q)) rfl HIJd.out.own wr.heap.size rfl [.int .i64 e0,.int .i64 e1] rfl rfl (by simp [Value.oneCell']) (by unfold maxLen;omega) (by omega) (by show J+1<=wr.heap.size;omega) ?_
          intro xe6 ye6 w6 ho6 hg6;rw [flatE_push _ ⟨e0,e1⟩,HTQ.out] at ho6;have HIJ6:Hid (InJ w2 (w6.setCell ⟨J,2,none⟩ (.slice xe6 (q+1) ye6)) J kd (q+1) ⟨#[]⟩ xe6 ye6 ((es.drop (m-l)).take (q+1))):=by have h:=HIJd.out.push (e:=⟨e0,e1⟩) hg6 (by rw [HTQ.out];exact ho6);rw [HTQ.out] at h;exact h
          have hJ6:w6.heap[J]? = wr.heap[J]? := hg6.block J hJi (fun e=>by have:=(HIJ.out.own.lt J e.symm).1;omega)
          have m1:=(World.cell?_of_block (w:=wr) (a:=⟨J,2,none⟩) hJ6).trans c2;have m2:=(World.frozen?_of_block (w:=wr) (a:=⟨J,2,none⟩) hJ6).trans (HIJ.out.z 2);clear ho6 hg6 hJ6 HIJ HIJd
          go_wp2_with fail
          go_roundw
          case rel=>exact ⟨q+1,xe6,ye6,by go_num,by omega,HIJ6⟩
          case measure=>simp [intOf];omega
         ·have hqe:q=kd:=by omega
          subst hqe;have hqn:¬ (q:Int)<q:=by omega
          have HNi:=hidP (HN2.out.below (HJW.out ▸ HIJ.out.base));have HCi:=hidP (HC2.out.below (HJW.out ▸ HIJ.out.base));have c0:=HIJ.out.c0;have c1:=HIJ.out.c1;have c2:=HIJ.out.c2;have n1:=HNi.out.c1;have hJi:=HIJ.out.lt;have HNM:Hid (∀ (c:Value) (u:World),Calls Tryz.prog 73 #[c,.int .i64 (100+(js.length:Int))] u fun e w'=>(∃ s:ByteArray,e = .returned (.string s)/\NmOk (100+js.length) s)/\Below u.heap.size u w'):=fun c u=>by
           have h:=nameV_any c (100+js.length) u (by omega)
           rw [Int.natCast_add] at h;exact h
          go_upto_if 109 with fail
          go_cut [] (fun wx => ∃ nm:ByteArray,nm.size<=1000002/\Hid (InJ w2 wx J q q nm xe ye ((es.drop (m-l)).take q))/\Hid (¬ 3<=q->nm=⟨#[]⟩)/\Hid (3<=q->NmOk (100+js.length) nm))
          case first =>
           by_cases hk3:(3:Int)<=q
           ·go_wp2_with fail
            refine (HNM.out _ _).mono ?_;rintro e w7 ⟨⟨s,rfl,hsz0⟩,hb7⟩;have hsz:=hsz0.size;have HNS:=hidP hsz0;clear hsz0;have d1:=cell_later hb7 c1;have z1:=(hb7.frozen (p:=⟨J,1,none⟩) hJi).trans (HIJ.out.z 1);have HJ7:=hidP ((HIJ.out.below hb7).name s);clear hb7
            go_wp2_with fail
            go_meet
            exact ⟨s,hsz,HJ7,fun h=>absurd (show 3<=q by omega) h,fun _=>HNS.out⟩
           ·go_wp2_with fail
            go_meet
            exact ⟨⟨#[]⟩,Nat.zero_le _,HIJ,fun _=>rfl,fun h=>absurd h (by omega)⟩
          case rest =>
           obtain ⟨nm,hnm,HJ,HM3,HM4⟩:=hcut;clear HIJ HNi HCi c0 c1 c2 n1 hJi HNM;have hb7:Below w2.heap.size w2 wc:=HJW.out ▸ HJ.out.base;have HN7:=hidP (HN2.out.below hb7);have HC7:=hidP (HC2.out.below hb7);have HRW7:Hid (RowE wc g m es):=HRW2.out.kept (hb7.block g (by have:=HJW.out;omega))
           have HTG7:Hid (IsT wc 114 g):=HTG2.out.kept (hb7.block g (by have:=HJW.out;omega))
           have HB7:Hid (Only (fun k=>k=C\/N<=k) W wc):=HB2.out.trans (Only.of_below hb7)
           have c0:=HJ.out.c0;have c1:=HJ.out.c1;have c2:=HJ.out.c2;have n1:=HN7.out.c1;have hJi:=HJ.out.lt;have hNi:=HN7.out.lt;have HX7:=hidP (HJ.out.ends (N:=N) hNz (by omega) (q:Int))
           have HJL:=hidP HJ.out.len;have hql:(q:Int)<=l:=by omega
           clear hb7 HN2 HC2 HRW2 HTG2 HB2 HJ
           go_wp2_with (at_builtin;refine wpList_push (Wp:=wc) rfl (.tmp 118) (.tmp 120) 24 rfl (N+1) 109 _ 3 48 Tryz.underlying24 Tryz.infoJoint rfl (by decide) (.slice xj js.length yj) js.length (flatJ js) rfl HN7.out.oj wc.heap.size rfl [.int .i64 (q:Int),.string nm,.slice xe q ye] rfl rfl (by simp [Value.oneCell']) (by unfold maxLen;omega) (by omega) (by omega) ?_;intro xj8 yj8 w8 ho8 hg8;obtain ⟨m1,m2⟩:=HN7.out.rowJ hg8;have HT8:Hid (w8.heap[g]? = wc.heap[g]?):=hg8.block g HTG7.out.lt (fun e=>HTG7.out.ne HN7.out.oj (by decide) e.symm);have HN8:Hid (NetS (w8.setCell ⟨N,1,none⟩ (.slice xj8 (js.length+1) yj8)) C N xp yp xj8 yj8 ps (js++[(xe,ye,⟨(q:Int),nm,(es.drop (m-l)).take q⟩)])):=HN7.out.pushJ hg8 (by rw [<-flatJ_push];dsimp only;rw [HJL.out];exact ho8) hnm HX7.out;have HK8:Hid (∀ k,k<N->(w8.setCell ⟨N,1,none⟩ (.slice xj8 (js.length+1) yj8)).heap[k]? = wc.heap[k]?):=(fun k hk=>(Below.heap_setCell _ _ _ _ (show k≠N by omega)).trans (hg8.block k (by omega) (fun e=>(by have:=(HN7.out.oj.lt k e.symm).1;omega))));have HZ8:Hid (Only (fun k=>k=C\/N<=k) wc (w8.setCell ⟨N,1,none⟩ (.slice xj8 (js.length+1) yj8))):=⟨hg8.os,hg8.tape,hg8.output,(by have:=hg8.size;simpa using this),fun k _ hn=>HK8.out k (Nat.lt_of_not_le (fun h=>hn (Or.inr h)))⟩;clear ho8 hg8)
           all_goals
            have hset:(w8.setCell ⟨N,1,none⟩ (.slice xj8 (js.length+1) yj8)).heap[g]? = wc.heap[g]? := (Below.heap_setCell _ _ _ _ (show g≠N by omega)).trans HT8.out
            have HIN:Hid (Nt3V W (w8.setCell ⟨N,1,none⟩ (.slice xj8 (js.length+1) yj8)) C N g m i es ca cc bs (at_+200) (l-q)):=by
             have hlen:(js.map (fun z:MJ=>z.2.2)).length=js.length:=List.length_map _
             have hoe:=HOE.out;have hjn:=jn_net (nm:=nm) HJO.out HJI.out hkd1 hkd4 (by omega) (by omega) HRW7.out.1 HM3.out (by rw [hlen];exact HM4.out)
             refine ⟨xp,yp,xj8,yj8,ps,_,at1,HN8.out,HC7.out.above hlow.out (fun k hk=>HK8.out k (by omega)),hpl,HRW7.out.kept hset,HTG7.out.kept hset,by omega,by simp;omega,HB7.out.trans HZ8.out,HPO.out,HPI.out,?_,?_⟩
             ·rw [List.map_append];exact hjn.1
             ·rw [List.map_append];exact hjn.2
            refine ⟨⟨_,_,_,⟨rfl,rfl,rfl⟩,by have:=HOE.out;unfold Hid;omega,by omega,by omega,by omega,HIN⟩,by simp only [lenOf];omega⟩
    | succ j =>
     have hj1:(0:Int)<((j+1:Nat):Int):=by omega
     go_wp2_with fail
     refine (pick_any C ca cc bs at0 _ _ HC.out (by omega) (by omega)).mono ?_
     rintro e w2 ⟨y,at1,hy,rfl,hat1,hc2,ho2⟩;have HC2:=hidP hc2;have HO2:=hidP ho2;have hy':y<j+2:=by omega
     clear hc2 ho2 hy
     go_wp2_with fail
     refine (pick_any C ca cc bs at1 3 w2 HC2.out (by omega) (by omega)).mono ?_
     rintro e w3 ⟨z,at2,hz,rfl,hat2,hc3,ho3⟩;have HC3:=hidP hc3;have HO3:=hidP (HO2.out.trans ho3);have hz':z<3:=by omega
     clear hc3 ho3 hz HC2 HO2
     go_upto_region 12 with fail
     obtain ⟨k,hk,hkj⟩:∃ k:Nat,wrap64 ((j:Int)+1-wrap64 ((y:Int) / (1+(z:Int))))=(k:Int)/\k<=j+1:=by
      have h1:0<=(y:Int) / (1+(z:Int)):=Int.ediv_nonneg (by omega) (by omega)
      have h2:(y:Int) / (1+(z:Int))<=y:=Int.ediv_le_self _ (by omega)
      generalize (y:Int) / (1+(z:Int))=q at h1 h2 ⊢;refine ⟨(j+1-q.toNat:Nat),?_,by omega⟩
      unfold wrap64;omega
     rw [hk];clear hk;have hrow3:RowE w3 g m es:=HRW.out.kept (HO3.out.block g HTG.out.lt (by have:=HN.out.cn;omega))
     obtain ⟨A0,Z0⟩:=hrow3.2 ((j+1)*2) (by omega)
     obtain ⟨A1,Z1⟩:=hrow3.2 ((j+1)*2+1) (by omega)
     obtain ⟨B0,Y0⟩:=hrow3.2 (k*2) (by omega)
     obtain ⟨B1,Y1⟩:=hrow3.2 (k*2+1) (by omega)
     have hgz:g<w3.heap.size:=cellLt A0;have hj2:(j:Int)+1<m:=by omega
     have hk2:(k:Int)<m:=by omega
     have HRW3:=hidP hrow3;have HSW:=hidP (swap4 es (j+1) k (by rw [hrow3.1];omega) (by rw [hrow3.1];omega))
     have HSW1:=hidP (swap4 es (j+1) (j+1) (by rw [hrow3.1];omega) (by rw [hrow3.1];omega))
     obtain ⟨a0,ha0⟩:∃ a0,valE es ((j+1)*2)=a0:=⟨_,rfl⟩;obtain ⟨a1,ha1⟩:∃ a1,valE es ((j+1)*2+1)=a1:=⟨_,rfl⟩;obtain ⟨b0,hb0⟩:∃ b0,valE es (k*2)=b0:=⟨_,rfl⟩;obtain ⟨b1,hb1⟩:∃ b1,valE es (k*2+1)=b1:=⟨_,rfl⟩;rw [ha0] at A0 HSW HSW1;rw [ha1] at A1 HSW HSW1;rw [hb0] at B0 HSW;rw [hb1] at B1 HSW;clear ha0 ha1 hb0 hb1;have HN3:Hid (Nt2V W w3 C N g m i ca cc bs (at_+160) j es):=⟨xp,yp,ps,at2,HN.out.only HO3.out,HC3.out,hpl,HRW3.out,HTG.out.kept (HO3.out.block g HTG.out.lt (by have:=HN.out.cn;omega)),by omega,HNT.out.kept (HO3.out.block N HNT.out.lt (by have:=HN.out.cn;omega)),HB.out.trans (HO3.out.mono (fun k hk=>Or.inl hk)),HPO.out,HPI.out⟩
     clear hrow3 HN HC HRW HTG HNT HB HC3 HO3 HRW3 HPO HPI
     by_cases hkk:k=j+1
     ·subst hkk
      go_wp2_with fail
      refine ⟨⟨j,_,rfl,by omega,?_,HJI.out.perm HSW1.out.symm⟩,by simp [intOf]⟩
      repeat (first | exact HN3 | refine Nt2V.more ?_ _ | refine Nt2V.set ?_ hgN hlow.out _ (by omega) _)
     ·have e1:(j+1)*2≠k*2:=by omega
      have e2:(j+1)*2+1≠k*2:=by omega
      have e3:(j+1)*2≠k*2+1:=by omega
      have e4:(j+1)*2+1≠k*2+1:=by omega
      go_wp2_with fail
      refine ⟨⟨j,_,rfl,by omega,?_,HJI.out.perm HSW.out.symm⟩,by simp [intOf]⟩
      repeat (first | exact HN3 | refine Nt2V.more ?_ _ | refine Nt2V.set ?_ hgN hlow.out _ (by omega) _)
end Go.Proofs.YtmkdgnmmebldgaaGreatDoor
