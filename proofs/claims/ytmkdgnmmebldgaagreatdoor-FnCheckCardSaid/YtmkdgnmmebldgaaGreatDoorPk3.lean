import Derived.Test.YtmkdgnmmebldgaaGreatDoorPk2
import Derived.OwnWalk
import Derived.WalkKit
import Derived.Laws.AppendOwnNone
set_option maxRecDepth 100000
set_option maxHeartbeats 8000000
open Go.Proofs.Tryz
namespace Go.Proofs.YtmkdgnmmebldgaaGreatDoor
open Go.RowKit Go.Deep
variable {B b base e n off s t:Nat}{P:Program}{Wp w:World}{a:Option Addr}{es:List am}{rest:List Oper}{v:Value}{xs:List Value}
theorem iw {α:Type}(f:α->List Value)(k:Nat)(hk:∀ x,(f x).length=k):∀ (xs:List α),(xs.flatMap f).length=xs.length*k
 | []=>CI
 | x::r=>by rw [List.flatMap_cons,List.length_append,hk,iw f k hk r,List.length_cons,Nat.add_mul];omega
theorem aZ {α:Type}(f:α->List Value)(k:Nat)(hk:∀ x,(f x).length=k):∀ (xs:List α) (i j:Nat) (hi:i<xs.length),j<k->(xs.flatMap f)[i*k+j]? = (f xs[i])[j]?
 | [],_,_,hi,_=>absurd hi CI
 | x::r,0,j,_,hj=>by
  rw [List.flatMap_cons,List.getElem?_append_left (by rw [hk];omega)]
  simp
 | x::r,i+1,j,hi,hj=>by
  have ih:=aZ f k hk r i j (by simpa using hi) hj
  rw [List.flatMap_cons,List.getElem?_append_right (by rw [hk,Nat.add_mul];omega),hk,show (i+1)*k+j-k=i*k+j by rw [Nat.add_mul];omega,ih]
  simp
theorem bH (b off j:Nat):(⟨b,off,none⟩:Addr).add j=⟨b,off+j,none⟩:=by unfold Addr.add;split <;> simp_all
theorem ev {ops:Array Oper}{o:Oper}{a:Act}{Q:Exit->Act->World->Prop}(hgd:o.guard=none)(s x:Operand)(t:TypeId)
  (ho:o.op = .call { callee:=.builtin .append,args:=#[s,x],argTypes:=#[t,t] })
  (base:Nat) (e:TypeId) (z:Value) (size bytes:Nat) (ht:P.underlying t=some (.slice e)) (hi:(P.info? e).map (fun i=>(i.zero,i.size,i.bytes))=some (some z,size,bytes)) (hzs:z.cells.size=size) (hsz:0<size)
  (v:Value) (n:Nat) (xs:List Value) (hs:a.eval s=v) (hown:w.ownsRow base e size v n xs)
  (av:Option Addr) (m c:Nat) (news:List Value) (hx:a.eval x = .slice av m c) (hav:av=none->c=0) (hl:news.length=m*size) (hnews:∀ ad,av=some ad->∀ j u,news[j]? = some u->w.cell? (ad.add j)=some u) (hm:av=none->m=0) (h1:∀ u ∈ news,u.oneCell'=true)
  (h63:n+m<=maxLen) (hbytes:(n+m)*bytes<=140737488355328) (hbase:base<=w.heap.size)
  (h:∀ v' w',w'.ownsRow base e size v' (n+m) (xs++news)->w.grownBy w' v.ownBlock->wpList P ops Q rest (a.put o.dst v') w'):wpList P ops Q (o::rest) a w:=by
 obtain ⟨i,d,f,g,k⟩:=info_parts hi;cases av with
 | some ad=>exact wpList_append_own w hgd s x t ho base e i z size bytes ht d f g k hzs hsz v n xs hs hown ad m c news hx hl (hnews ad rfl) h1 h63 hbytes hbase (fun v' w' h2 h3 _=>h v' w' h2 h3)
 | none =>
  have l:=hm rfl;have p:=hav rfl;subst l p;have b:news=[]:=List.eq_nil_of_length_eq_zero CG
  subst b;exact wpList_append_own_none hgd s x t ho base e i size ht d v n xs hs hown hx (h v w (by simpa using hown) ⟨rfl,rfl,rfl,Nat.le_refl _,fun _ _ _=>rfl⟩)
def gn (x:am):List Value:=[.int .i64 x.CB,.int .i64 x.side]
def aG (xs:List am):List Value:=xs.flatMap gn
theorem eL (xs:List am):(aG xs).length=xs.length*2:=iw gn 2 (fun _=>rfl) xs
theorem fT (xs:List am):∀ u ∈ aG xs,u.oneCell'=true:=by
 intro u hu;obtain ⟨x,_,hx⟩:=List.mem_flatMap.1 hu;simp only [gn,List.mem_cons,List.not_mem_nil,or_false] at hx;rcases hx with rfl | rfl <;> rfl
theorem iR (xs:List am)(x:am):aG (xs++[x])=aG xs++gn x:=by simp [aG]
theorem oP (H:∀ j u,(aG es)[j]? = some u->w.cell? ((⟨b,off,none⟩:Addr).add j)=some u):fC w b off es:=by
 intro i hi;have h0:(aG es)[i*2+0]? = some (.int .i64 es[i].CB):=(aZ gn 2 (fun _=>rfl) es i 0 hi CG).trans rfl
 have h1:(aG es)[i*2+1]? = some (.int .i64 es[i].side):=(aZ gn 2 (fun _=>rfl) es i 1 hi CG).trans rfl
 exact ⟨by have:=H _ _ h0;rw [bH] at this;simpa [Nat.add_assoc] using this,by have:=H _ _ h1;rw [bH] at this;simpa [Nat.add_assoc] using this⟩
theorem kz (h:aT w a es):∀ ad,a=some ad->∀ j u,(aG es)[j]? = some u->w.cell? (ad.add j)=some u:=by
 intro ad d j u hu;have hj:j<es.length*2:=by
  have:=(List.getElem?_eq_some_iff.1 hu).1
  rwa [eL] at this
 obtain ⟨b,off,h3,hc⟩:=h.2.resolve_left (fun e=>by rw [e] at hj;simp at hj)
 rw [d] at h3;cases h3;rw [bH];have hi:j / 2<es.length:=CG
 have hr:j % 2=0\/j % 2=1:=CG
 rcases hr with hr | hr
 ·have hg:=aZ gn 2 (fun _=>rfl) es (j / 2) 0 hi CG
  rw [show j / 2*2+0=j by omega] at hg
  rw [show (aG es)[j]? = _ from hg] at hu
  have c:=(hc (j / 2) hi).1;cases hu;have e:off+j / 2*2=off+j:=CG
  rw [e] at c;exact c
 ·have hg:=aZ gn 2 (fun _=>rfl) es (j / 2) 1 hi CG
  rw [show j / 2*2+1=j by omega] at hg
  rw [show (aG es)[j]? = _ from hg] at hu
  have c:=(hc (j / 2) hi).2;cases hu;have e:off+j / 2*2+1=off+j:=CG
  rw [e] at c;exact c
theorem kj (h:w.ownsRow base t 2 v es.length (aG es))(hm:es.length<=maxLen):
  ∃ a cap,v = .slice a es.length cap/\aT w a es/\(a=none->es.length=0/\cap=0)/\∀ b,sJ a es.length b->v.ownBlock=some b:=by
 rcases h.2 with ⟨rfl,hn⟩ | ⟨g,cap,c,rfl,hb,hg,_⟩
 ·exact ⟨none,0,by rw [hn],⟨hm,Or.inl (List.eq_nil_of_length_eq_zero hn)⟩,fun _=>⟨hn,rfl⟩,fun b hb=>absurd hn hb.1⟩
 ·refine ⟨some ⟨g,0,none⟩,cap,rfl,⟨hm,Or.inr ⟨g,0,rfl,oP (h.cells rfl)⟩⟩,(fun e=>nomatch e),fun b hb=>?_⟩
  obtain ⟨_,_,_,hb⟩:=hb;cases hb;rfl
def lz (x:Int):List Value:=[.int .i64 x]
def bP (xs:List Int):List Value:=xs.flatMap lz
theorem gS (xs:List Int):(bP xs).length=xs.length*1:=iw lz 1 (fun _=>rfl) xs
theorem kD (xs:List Int):∀ u ∈ bP xs,u.oneCell'=true:=by
 intro u hu;obtain ⟨x,_,hx⟩:=List.mem_flatMap.1 hu;simp only [lz,List.mem_cons,List.not_mem_nil,or_false] at hx;subst hx;rfl
theorem pD (xs:List Int)(x:Int):bP (xs++[x])=bP xs++lz x:=by simp [bP]
theorem vn {es:List Int}(H:∀ j u,(bP es)[j]? = some u->w.cell? ((⟨b,off,none⟩:Addr).add j)=some u):kf w b off es:=by
 intro i hi;have h0:(bP es)[i*1+0]? = some (.int .i64 es[i]):=(aZ lz 1 (fun _=>rfl) es i 0 hi CG).trans rfl
 have:=H _ _ h0;rw [bH] at this;simpa using this
theorem sM {es:List Int}(h:bV w a es):∀ ad,a=some ad->∀ j u,(bP es)[j]? = some u->w.cell? (ad.add j)=some u:=by
 intro ad c j u hu;have hj:j<es.length:=by
  have:=(List.getElem?_eq_some_iff.1 hu).1;rw [gS] at this;omega
 obtain ⟨b,off,h3,hc⟩:=h.2.resolve_left (fun e=>by rw [e] at hj;simp at hj)
 rw [c] at h3;cases h3;rw [bH];have hg:=aZ lz 1 (fun _=>rfl) es j 0 hj CG
 rw [show j*1+0=j by omega] at hg
 rw [show (bP es)[j]? = _ from hg] at hu
 have d:=hc j hj;cases hu;exact d
theorem Ca {es:List Int}(h:w.ownsRow base t 1 v es.length (bP es))(hm:es.length<=maxLen):
  ∃ a cap,v = .slice a es.length cap/\bV w a es/\(a=none->es.length=0/\cap=0)/\∀ b,sJ a es.length b->v.ownBlock=some b:=by
 rcases h.2 with ⟨rfl,hn⟩ | ⟨g,cap,c,rfl,hb,hg,_⟩
 ·exact ⟨none,0,by rw [hn],⟨hm,Or.inl (List.eq_nil_of_length_eq_zero hn)⟩,fun _=>⟨hn,rfl⟩,fun b hb=>absurd hn hb.1⟩
 ·refine ⟨some ⟨g,0,none⟩,cap,rfl,⟨hm,Or.inr ⟨g,0,rfl,vn (h.cells rfl)⟩⟩,(fun e=>nomatch e),fun b hb=>?_⟩
  obtain ⟨_,_,_,hb⟩:=hb;cases hb;rfl
def jT (x:aI):List Value:=[.int .i64 x.CB,.int .i64 x.lo,.int .i64 x.hi]
def bG (xs:List aI):List Value:=xs.flatMap jT
theorem nh (xs:List aI):(bG xs).length=xs.length*3:=iw jT 3 (fun _=>rfl) xs
theorem rq (xs:List aI):∀ u ∈ bG xs,u.oneCell'=true:=by
 intro u hu;obtain ⟨x,_,hx⟩:=List.mem_flatMap.1 hu;simp only [jT,List.mem_cons,List.not_mem_nil,or_false] at hx;rcases hx with rfl | rfl | rfl <;> rfl
theorem wS (xs:List aI)(x:aI):bG (xs++[x])=bG xs++jT x:=by simp [bG]
theorem ti {es:List aI}(H:∀ j u,(bG es)[j]? = some u->w.cell? ((⟨b,off,none⟩:Addr).add j)=some u):jh w b off es:=by
 intro i hi;have h0:(bG es)[i*3+0]? = some (.int .i64 es[i].CB):=(aZ jT 3 (fun _=>rfl) es i 0 hi CG).trans rfl
 have h1:(bG es)[i*3+1]? = some (.int .i64 es[i].lo):=(aZ jT 3 (fun _=>rfl) es i 1 hi CG).trans rfl
 have h2:(bG es)[i*3+2]? = some (.int .i64 es[i].hi):=(aZ jT 3 (fun _=>rfl) es i 2 hi CG).trans rfl
 exact ⟨by have:=H _ _ h0;rw [bH] at this;simpa [Nat.add_assoc] using this,by have:=H _ _ h1;rw [bH] at this;simpa [Nat.add_assoc] using this,by have:=H _ _ h2;rw [bH] at this;simpa [Nat.add_assoc] using this⟩
theorem AX {es:List aI}(h:bw w a es):∀ ad,a=some ad->∀ j u,(bG es)[j]? = some u->w.cell? (ad.add j)=some u:=by
 intro ad d j u hu;have hj:j<es.length*3:=by
  have:=(List.getElem?_eq_some_iff.1 hu).1
  rwa [nh] at this
 obtain ⟨b,off,h3,hc⟩:=h.2.resolve_left (fun e=>by rw [e] at hj;simp at hj)
 rw [d] at h3;cases h3;rw [bH];have hi:j / 3<es.length:=CG
 have hr:j % 3=0\/j % 3=1\/j % 3=2:=CG
 rcases hr with hr | hr | hr
 ·have hg:=aZ jT 3 (fun _=>rfl) es (j / 3) 0 hi CG
  rw [show j / 3*3+0=j by omega] at hg
  rw [show (bG es)[j]? = _ from hg] at hu
  have c:=(hc (j / 3) hi).1;cases hu;have e:off+j / 3*3=off+j:=CG
  rw [e] at c;exact c
 ·have hg:=aZ jT 3 (fun _=>rfl) es (j / 3) 1 hi CG
  rw [show j / 3*3+1=j by omega] at hg
  rw [show (bG es)[j]? = _ from hg] at hu
  have c:=(hc (j / 3) hi).2.1;cases hu;have e:off+j / 3*3+1=off+j:=CG
  rw [e] at c;exact c
 ·have hg:=aZ jT 3 (fun _=>rfl) es (j / 3) 2 hi CG
  rw [show j / 3*3+2=j by omega] at hg
  rw [show (bG es)[j]? = _ from hg] at hu
  have c:=(hc (j / 3) hi).2.2;cases hu;have e:off+j / 3*3+2=off+j:=CG
  rw [e] at c;exact c
theorem Cw {es:List aI}(h:w.ownsRow base t 3 v es.length (bG es))(hm:es.length<=maxLen):
  ∃ a cap,v = .slice a es.length cap/\bw w a es/\(a=none->es.length=0/\cap=0)/\∀ b,sJ a es.length b->v.ownBlock=some b:=by
 rcases h.2 with ⟨rfl,hn⟩ | ⟨g,cap,c,rfl,hb,hg,_⟩
 ·exact ⟨none,0,by rw [hn],⟨hm,Or.inl (List.eq_nil_of_length_eq_zero hn)⟩,fun _=>⟨hn,rfl⟩,fun b hb=>absurd hn hb.1⟩
 ·refine ⟨some ⟨g,0,none⟩,cap,rfl,⟨hm,Or.inr ⟨g,0,rfl,ti (h.cells rfl)⟩⟩,(fun e=>nomatch e),fun b hb=>?_⟩
  obtain ⟨_,_,_,hb⟩:=hb;cases hb;rfl
def iZ (x:aN):List Value:=[.int .i64 x.place,.int .i64 x.kind,.int .i64 x.of,.int .i64 x.lie]
def bO (xs:List aN):List Value:=xs.flatMap iZ
theorem nu (xs:List aN):(bO xs).length=xs.length*4:=iw iZ 4 (fun _=>rfl) xs
theorem rg (xs:List aN):∀ u ∈ bO xs,u.oneCell'=true:=by
 intro u hu;obtain ⟨x,_,hx⟩:=List.mem_flatMap.1 hu;simp only [iZ,List.mem_cons,List.not_mem_nil,or_false] at hx;rcases hx with rfl | rfl | rfl | rfl <;> rfl
theorem xz (xs:List aN)(x:aN):bO (xs++[x])=bO xs++iZ x:=by simp [bO]
theorem rW {es:List aN}(H:∀ j u,(bO es)[j]? = some u->w.cell? ((⟨b,off,none⟩:Addr).add j)=some u):iS w b off es:=by
 intro i hi;have h0:(bO es)[i*4+0]? = some (.int .i64 es[i].place):=(aZ iZ 4 (fun _=>rfl) es i 0 hi CG).trans rfl
 have h1:(bO es)[i*4+1]? = some (.int .i64 es[i].kind):=(aZ iZ 4 (fun _=>rfl) es i 1 hi CG).trans rfl
 have h2:(bO es)[i*4+2]? = some (.int .i64 es[i].of):=(aZ iZ 4 (fun _=>rfl) es i 2 hi CG).trans rfl
 have h3:(bO es)[i*4+3]? = some (.int .i64 es[i].lie):=(aZ iZ 4 (fun _=>rfl) es i 3 hi CG).trans rfl
 exact ⟨by have:=H _ _ h0;rw [bH] at this;simpa [Nat.add_assoc] using this,by have:=H _ _ h1;rw [bH] at this;simpa [Nat.add_assoc] using this,by have:=H _ _ h2;rw [bH] at this;simpa [Nat.add_assoc] using this,by have:=H _ _ h3;rw [bH] at this;simpa [Nat.add_assoc] using this⟩
theorem Cq {es:List aN}(h:cw w a es):∀ ad,a=some ad->∀ j u,(bO es)[j]? = some u->w.cell? (ad.add j)=some u:=by
 intro ad d j u hu;have hj:j<es.length*4:=by
  have:=(List.getElem?_eq_some_iff.1 hu).1
  rwa [nu] at this
 obtain ⟨b,off,h3,hc⟩:=h.2.resolve_left (fun e=>by rw [e] at hj;simp at hj)
 rw [d] at h3;cases h3;rw [bH];have hi:j / 4<es.length:=CG
 have hr:j % 4=0\/j % 4=1\/j % 4=2\/j % 4=3:=CG
 rcases hr with hr | hr | hr | hr
 ·have hg:=aZ iZ 4 (fun _=>rfl) es (j / 4) 0 hi CG
  rw [show j / 4*4+0=j by omega] at hg
  rw [show (bO es)[j]? = _ from hg] at hu
  have c:=(hc (j / 4) hi).1;cases hu;have e:off+j / 4*4=off+j:=CG
  rw [e] at c;exact c
 ·have hg:=aZ iZ 4 (fun _=>rfl) es (j / 4) 1 hi CG
  rw [show j / 4*4+1=j by omega] at hg
  rw [show (bO es)[j]? = _ from hg] at hu
  have c:=(hc (j / 4) hi).2.1;cases hu;have e:off+j / 4*4+1=off+j:=CG
  rw [e] at c;exact c
 ·have hg:=aZ iZ 4 (fun _=>rfl) es (j / 4) 2 hi CG
  rw [show j / 4*4+2=j by omega] at hg
  rw [show (bO es)[j]? = _ from hg] at hu
  have c:=(hc (j / 4) hi).2.2.1;cases hu;have e:off+j / 4*4+2=off+j:=CG
  rw [e] at c;exact c
 ·have hg:=aZ iZ 4 (fun _=>rfl) es (j / 4) 3 hi CG
  rw [show j / 4*4+3=j by omega] at hg
  rw [show (bO es)[j]? = _ from hg] at hu
  have c:=(hc (j / 4) hi).2.2.2;cases hu;have e:off+j / 4*4+3=off+j:=CG
  rw [e] at c;exact c
theorem Cv {es:List aN}(h:w.ownsRow base t 4 v es.length (bO es))(hm:es.length<=maxLen):
  ∃ a cap,v = .slice a es.length cap/\cw w a es/\(a=none->es.length=0/\cap=0)/\∀ b,sJ a es.length b->v.ownBlock=some b:=by
 rcases h.2 with ⟨rfl,hn⟩ | ⟨g,cap,c,rfl,hb,hg,_⟩
 ·exact ⟨none,0,by rw [hn],⟨hm,Or.inl (List.eq_nil_of_length_eq_zero hn)⟩,fun _=>⟨hn,rfl⟩,fun b hb=>absurd hn hb.1⟩
 ·refine ⟨some ⟨g,0,none⟩,cap,rfl,⟨hm,Or.inr ⟨g,0,rfl,rW (h.cells rfl)⟩⟩,(fun e=>nomatch e),fun b hb=>?_⟩
  obtain ⟨_,_,_,hb⟩:=hb;cases hb;rfl
theorem Tryz.infoStep:(prog.info? 46).map (fun i=>(i.zero,i.size,i.bytes))=some (some (.agg #[.int .i64 0,.int .i64 0]),2,16):=CH
theorem Tryz.infoLie:(prog.info? 52).map (fun i=>(i.zero,i.size,i.bytes))=some (some (.agg #[.int .i64 0,.int .i64 0]),2,16):=CH
theorem Tryz.infoInt:(prog.info? 3).map (fun i=>(i.zero,i.size,i.bytes))=some (some (.int .i64 0),1,8):=CH
theorem Tryz.infoPart:(prog.info? 48).map (fun i=>(i.zero,i.size,i.bytes))=some (some (.agg #[.int .i64 0,.int .i64 0,.int .i64 0]),3,24):=CH
theorem Tryz.infoFlank:(prog.info? 50).map (fun i=>(i.zero,i.size,i.bytes))=some (some (.agg #[.int .i64 0,.int .i64 0,.int .i64 0,.int .i64 0]),4,32):=CH
theorem Tryz.infoRoute:(prog.info? 44).map (fun i=>(i.zero,i.size,i.bytes))=some (some (.agg #[.int .i64 0,.int .i64 0,.slice none 0 0,.slice none 0 0,.slice none 0 0,.slice none 0 0,.slice none 0 0,.slice none 0 0]),8,160):=CH
theorem aV {b' e' s' n':Nat}{v':Value}{xs':List Value}(he:e≠e')(h:w.ownsRow b e s v n xs)(h':w.ownsRow b' e' s' v' n' xs'):v.ownBlock=none\/v.ownBlock≠v'.ownBlock:=by
 rcases h.2 with ⟨rfl,_⟩ | ⟨g,f,i,rfl,_,hg,_⟩
 ·exact Or.inl rfl
 ·right;rcases h'.2 with ⟨rfl,_⟩ | ⟨g',c,d,rfl,_,a,_⟩
  ·simp [Value.ownBlock]
  ·simp only [Value.ownBlock,ne_eq,Option.some.injEq];intro e1;subst e1;rw [hg] at a;simp only [Option.some.injEq,Obj.cells.injEq] at a;exact he a.2.1
theorem aW {B':Nat}(h:w.ownsRow B e s v n xs)(hB:B'<=B):w.ownsRow B' e s v n xs:=by
 refine ⟨h.1,?_⟩;rcases h.2 with h2 | ⟨g,a,b,h1,h2,h3⟩
 ·exact Or.inl h2
 ·exact Or.inr ⟨g,a,b,h1,CG,h3⟩
theorem aq {w':World}(h:w.ownsRow B e s v n xs)(hb:Cx w w'):w'.ownsRow B e s v n xs:=by
 refine ⟨h.1,?_⟩;rcases h.2 with h2 | ⟨g,a,b,h1,h2,h3,h4⟩
 ·exact Or.inl h2
 ·exact Or.inr ⟨g,a,b,h1,h2,(hb.block g (Array.getElem?_eq_some_iff.1 h3).1).trans h3,h4⟩
theorem ba (h:w.ownsRow B e s v n xs):∃ x y,v = .slice x n y/\(x=none->n=0/\y=0):=by
 rcases h.2 with ⟨rfl,rfl⟩ | ⟨g,a,b,rfl,_⟩
 ·exact ⟨none,0,rfl,fun _=>⟨rfl,rfl⟩⟩
 ·exact ⟨_,_,rfl,fun e=>by cases e⟩
theorem us {ops:Array Oper}{o:Oper}{a:Act}{Q:Exit->Act->World->Prop}(hgd:o.guard=none)(s x:Operand)(t:TypeId)
  (ho:o.op = .call { callee:=.builtin .append,args:=#[s,x],argTypes:=#[t,t] })
  (e:TypeId) (z:Value) (size bytes:Nat) (ht:P.underlying t=some (.slice e)) (hi:(P.info? e).map (fun i=>(i.zero,i.size,i.bytes))=some (some z,size,bytes)) (hzs:z.cells.size=size) (hsz:0<size)
  (g:Nat) (hgs:g=Wp.heap.size) (hs:a.eval s = .slice (some ⟨g,0,none⟩) 0 0)
  (av:Option Addr) (m c:Nat) (news:List Value) (hx:a.eval x = .slice av m c) (hav:av=none->m=0/\c=0) (hl:news.length=m*size) (hnews:∀ ad,av=some ad->∀ j u,news[j]? = some u->Wp.cell? (ad.add j)=some u) (h1:∀ u ∈ news,u.oneCell'=true)
  (h63:m<=maxLen) (hbytes:m*bytes<=140737488355328)
  (h:∀ x' y' w',w'.ownsRow Wp.heap.size e size (.slice x' m y') m news->Cx Wp w'->wpList P ops Q rest (a.put o.dst (.slice x' m y')) w'):wpList P ops Q (o::rest) a (Wp.alloc (.cells #[] e)):=by
 subst hgs;refine ev hgd s x t ho Wp.heap.size e z size bytes ht hi hzs hsz _ 0 [] hs (World.ownsRow_made Wp #[] 0 CW (Nat.zero_le _) CI) av m c news hx (fun h=>(hav h).2) hl ?_ (fun h=>(hav h).1) h1 (by rw [Nat.zero_add];exact h63) (by rw [Nat.zero_add];exact hbytes) CI ?_
 ·intro ad f j u hu;have hc:=hnews ad f j u hu;exact (World.cell?_of_block (w:=Wp) (Below.heap_alloc _ _ _ (ai hc))).trans hc
 ·intro v' w' d b;rw [Nat.zero_add,List.nil_append] at d;obtain ⟨x',y',rfl,_⟩:=ba d;refine h x' y' w' d ⟨b.os,b.tape,b.output,Nat.le_trans CI b.size,fun k hk=>?_⟩
  exact (b.block k CN (by simp only [Value.ownBlock,ne_eq,Option.some.injEq];omega)).trans (Below.heap_alloc _ _ _ hk)
theorem aU {ops:Array Oper}{o:Oper}{a:Act}{Q:Exit->Act->World->Prop}(hgd:o.guard=none)(s x:Operand)(t:TypeId)
  (ho:o.op = .call { callee:=.builtin .append,args:=#[s,x],argTypes:=#[t,t] })
  (B:Nat) (e:TypeId) (z:Value) (size bytes:Nat) (ht:P.underlying t=some (.slice e)) (hi:(P.info? e).map (fun i=>(i.zero,i.size,i.bytes))=some (some z,size,bytes)) (hzs:z.cells.size=size) (hsz:0<size)
  (v:Value) (n:Nat) (xs:List Value) (hs:a.eval s=v) (hown:Wp.ownsRow B e size v n xs)
  (g:Nat) (hgs:g=Wp.heap.size) (news:List Value) (hx:a.eval x = .slice (some ⟨g,0,none⟩) 1 1) (hl:news.length=size) (h1:∀ u ∈ news,u.oneCell'=true)
  (h63:n+1<=maxLen) (hbytes:(n+1)*bytes<=140737488355328) (hB:B<=Wp.heap.size)
  (h:∀ x' y' w',w'.ownsRow B e size (.slice x' (n+1) y') (n+1) (xs++news)->Wp.grownBy w' v.ownBlock->wpList P ops Q rest (a.put o.dst (.slice x' (n+1) y')) w'):wpList P ops Q (o::rest) a (Wp.alloc (.cells news.toArray e)):=by
 subst hgs;obtain ⟨i,d,f,l,m⟩:=info_parts hi;refine wpList_append_own _ hgd s x t ho B e i z size bytes ht d f l m hzs hsz v n xs hs (hown.alloc _) ⟨Wp.heap.size,0,none⟩ 1 1 news hx CG ?_ h1 h63 hbytes CN ?_
 ·intro j u hu;rw [bH,Nat.zero_add];have:=cell_of_row (Wp.alloc (.cells news.toArray e)) Wp.heap.size j news.toArray e (0,0) (heap_alloc_new Wp _);rw [this];simpa using hu
 ·intro v' w' c b _;obtain ⟨x',y',rfl,_⟩:=ba c;refine h x' y' w' c ⟨b.os,b.tape,b.output,Nat.le_trans CI b.size,fun k hk hne=>?_⟩
  exact (b.block k CN hne).trans (Below.heap_alloc _ _ _ hk)
theorem dw {w0 w':World}(hb:Below B w0 Wp)(ho:Wp.ownsRow B e s v n xs)(hg:Wp.grownBy w' v.ownBlock)(hB:B<=Wp.heap.size):Below B w0 w':=
 hb.grown hg hB (fun k e=>(ho.lt k e).1)
end Go.Proofs.YtmkdgnmmebldgaaGreatDoor
