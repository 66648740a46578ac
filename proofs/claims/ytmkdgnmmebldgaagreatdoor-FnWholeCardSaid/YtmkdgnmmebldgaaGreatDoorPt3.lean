import Derived.Test.YtmkdgnmmebldgaaGreatDoorPt2
import Derived.OwnWalk
import Derived.WalkKit
import Derived.Laws.AppendOwnNone
set_option maxRecDepth 100000
set_option maxHeartbeats 8000000
namespace Go.Proofs.YtmkdgnmmebldgaaGreatDoor
open Go.RowKit Go.Deep
theorem flat_len {α:Type}(f:α→List Value)(k:Nat)(hk:∀ x,(f x).length=k):∀ (xs:List α),(xs.flatMap f).length=xs.length*k
 | []=>by simp
 | x::r=>by rw [List.flatMap_cons,List.length_append,hk,flat_len f k hk r,List.length_cons,Nat.add_mul];omega
theorem flat_get {α:Type}(f:α→List Value)(k:Nat)(hk:∀ x,(f x).length=k):∀ (xs:List α) (i j:Nat) (hi:i<xs.length),j<k→(xs.flatMap f)[i*k+j]? = (f xs[i])[j]?
 | [],_,_,hi,_=>absurd hi (by simp)
 | x::r,0,j,_,hj=>by
  rw [List.flatMap_cons,List.getElem?_append_left (by rw [hk];omega)]
  simp
 | x::r,i+1,j,hi,hj=>by
  have ih:=flat_get f k hk r i j (by simpa using hi) hj
  rw [List.flatMap_cons,List.getElem?_append_right (by rw [hk,Nat.add_mul];omega),hk,show (i+1)*k+j-k=i*k+j by rw [Nat.add_mul];omega,ih]
  simp
theorem addr_at (b off j:Nat):(⟨b,off,none⟩:Addr).add j=⟨b,off+j,none⟩:=by unfold Addr.add;split <;> simp_all
theorem wpList_append_list {P:Program}{w:World}{ops:Array Oper}{rest:List Oper}{o:Oper}{a:Act}{Q:Exit→Act→World→Prop}(hgd:o.guard=none)(s x:Operand)(t:TypeId)
  (ho:o.op = .call { callee:=.builtin .append,args:=#[s,x],argTypes:=#[t,t] })
  (base:Nat) (e:TypeId) (z:Value) (size bytes:Nat) (ht:P.underlying t=some (.slice e)) (hi:(P.info? e).map (fun i=>(i.zero,i.size,i.bytes))=some (some z,size,bytes)) (hzs:z.cells.size=size) (hsz:0<size)
  (v:Value) (n:Nat) (xs:List Value) (hs:a.eval s=v) (hown:w.ownsRow base e size v n xs)
  (av:Option Addr) (m c:Nat) (news:List Value) (hx:a.eval x = .slice av m c) (hav:av=none→c=0) (hl:news.length=m*size) (hnews:∀ ad,av=some ad→∀ j u,news[j]? = some u→w.cell? (ad.add j)=some u) (hm:av=none→m=0) (h1:∀ u ∈ news,u.oneCell'=true)
  (h63:n+m≤maxLen) (hbytes:(n+m)*bytes≤140737488355328) (hbase:base≤w.heap.size)
  (h:∀ v' w',w'.ownsRow base e size v' (n+m) (xs++news)→w.grownBy w' v.ownBlock→wpList P ops Q rest (a.put o.dst v') w'):wpList P ops Q (o::rest) a w:=by
 obtain ⟨i,hi1,hi2,hi3,hi4⟩:=info_parts hi
 cases av with
 | some ad=>exact wpList_append_own w hgd s x t ho base e i z size bytes ht hi1 hi2 hi3 hi4 hzs hsz v n xs hs hown ad m c news hx hl (hnews ad rfl) h1 h63 hbytes hbase (fun v' w' h2 h3 _=>h v' w' h2 h3)
 | none =>
  have hm0:=hm rfl
  have hc0:=hav rfl
  subst hm0 hc0
  have hnil:news=[]:=List.eq_nil_of_length_eq_zero (by omega)
  subst hnil
  exact wpList_append_own_none hgd s x t ho base e i size ht hi1 v n xs hs hown hx (h v w (by simpa using hown) ⟨rfl,rfl,rfl,Nat.le_refl _,fun _ _ _=>rfl⟩)
def encE (x:MEnd):List Value:=[.int .i64 x.piece,.int .i64 x.side]
def flatE (xs:List MEnd):List Value:=xs.flatMap encE
theorem flatE_len (xs:List MEnd):(flatE xs).length=xs.length*2:=flat_len encE 2 (fun _=>rfl) xs
theorem flatE_one (xs:List MEnd):∀ u ∈ flatE xs,u.oneCell'=true:=by
 intro u hu
 obtain ⟨x,_,hx⟩:=List.mem_flatMap.1 hu
 simp only [encE,List.mem_cons,List.not_mem_nil,or_false] at hx
 rcases hx with rfl | rfl <;> rfl
theorem flatE_snoc (xs:List MEnd)(x:MEnd):flatE (xs++[x])=flatE xs++encE x:=by simp [flatE]
theorem endCells_of {w:World}{b off:Nat}{es:List MEnd}(H:∀ j u,(flatE es)[j]? = some u→w.cell? ((⟨b,off,none⟩:Addr).add j)=some u):EndCells w b off es:=by
 intro i hi
 have h0:(flatE es)[i*2+0]? = some (.int .i64 es[i].piece):=(flat_get encE 2 (fun _=>rfl) es i 0 hi (by omega)).trans rfl
 have h1:(flatE es)[i*2+1]? = some (.int .i64 es[i].side):=(flat_get encE 2 (fun _=>rfl) es i 1 hi (by omega)).trans rfl
 exact ⟨by have:=H _ _ h0;rw [addr_at] at this;simpa [Nat.add_assoc] using this,by have:=H _ _ h1;rw [addr_at] at this;simpa [Nat.add_assoc] using this⟩
theorem newsE {w:World}{a:Option Addr}{es:List MEnd}(h:EndsAt w a es):∀ ad,a=some ad→∀ j u,(flatE es)[j]? = some u→w.cell? (ad.add j)=some u:=by
 intro ad had j u hu
 have hj:j<es.length*2:=by
  have:=(List.getElem?_eq_some_iff.1 hu).1
  rwa [flatE_len] at this
 obtain ⟨b,off,h3,hc⟩:=h.2.resolve_left (fun e=>by rw [e] at hj;simp at hj)
 rw [had] at h3
 cases h3
 rw [addr_at]
 have hi:j / 2<es.length:=by omega
 have hr:j % 2=0∨j % 2=1:=by omega
 rcases hr with hr | hr
 ·have hg:=flat_get encE 2 (fun _=>rfl) es (j / 2) 0 hi (by omega)
  rw [show j / 2*2+0=j by omega] at hg
  rw [show (flatE es)[j]? = _ from hg] at hu
  have hc':=(hc (j / 2) hi).1
  cases hu
  have e:off+j / 2*2=off+j:=by omega
  rw [e] at hc'
  exact hc'
 ·have hg:=flat_get encE 2 (fun _=>rfl) es (j / 2) 1 hi (by omega)
  rw [show j / 2*2+1=j by omega] at hg
  rw [show (flatE es)[j]? = _ from hg] at hu
  have hc':=(hc (j / 2) hi).2
  cases hu
  have e:off+j / 2*2+1=off+j:=by omega
  rw [e] at hc'
  exact hc'
theorem ownE {w:World}{base t:Nat}{v:Value}{es:List MEnd}(h:w.ownsRow base t 2 v es.length (flatE es))(hm:es.length≤maxLen):
  ∃ a cap,v = .slice a es.length cap∧EndsAt w a es∧(a=none→es.length=0∧cap=0)∧∀ b,BlkOf a es.length b→v.ownBlock=some b:=by
 rcases h.2 with ⟨rfl,hn⟩ | ⟨g,cap,cur,rfl,hb,hg,_⟩
 ·exact ⟨none,0,by rw [hn],⟨hm,Or.inl (List.eq_nil_of_length_eq_zero hn)⟩,fun _=>⟨hn,rfl⟩,fun b hb=>absurd hn hb.1⟩
 ·refine ⟨some ⟨g,0,none⟩,cap,rfl,⟨hm,Or.inr ⟨g,0,rfl,endCells_of (h.cells rfl)⟩⟩,(fun e=>nomatch e),fun b hb=>?_⟩
  obtain ⟨_,_,_,hb⟩:=hb
  cases hb
  rfl
def encN (x:Int):List Value:=[.int .i64 x]
def flatN (xs:List Int):List Value:=xs.flatMap encN
theorem flatN_len (xs:List Int):(flatN xs).length=xs.length*1:=flat_len encN 1 (fun _=>rfl) xs
theorem flatN_one (xs:List Int):∀ u ∈ flatN xs,u.oneCell'=true:=by
 intro u hu
 obtain ⟨x,_,hx⟩:=List.mem_flatMap.1 hu
 simp only [encN,List.mem_cons,List.not_mem_nil,or_false] at hx
 subst hx;rfl
theorem flatN_snoc (xs:List Int)(x:Int):flatN (xs++[x])=flatN xs++encN x:=by simp [flatN]
theorem numCells_of {w:World}{b off:Nat}{es:List Int}(H:∀ j u,(flatN es)[j]? = some u→w.cell? ((⟨b,off,none⟩:Addr).add j)=some u):NumCells w b off es:=by
 intro i hi
 have h0:(flatN es)[i*1+0]? = some (.int .i64 es[i]):=(flat_get encN 1 (fun _=>rfl) es i 0 hi (by omega)).trans rfl
 have:=H _ _ h0
 rw [addr_at] at this
 simpa using this
theorem newsN {w:World}{a:Option Addr}{es:List Int}(h:NumsAt w a es):∀ ad,a=some ad→∀ j u,(flatN es)[j]? = some u→w.cell? (ad.add j)=some u:=by
 intro ad had j u hu
 have hj:j<es.length:=by
  have:=(List.getElem?_eq_some_iff.1 hu).1
  rw [flatN_len] at this
  omega
 obtain ⟨b,off,h3,hc⟩:=h.2.resolve_left (fun e=>by rw [e] at hj;simp at hj)
 rw [had] at h3
 cases h3
 rw [addr_at]
 have hg:=flat_get encN 1 (fun _=>rfl) es j 0 hj (by omega)
 rw [show j*1+0=j by omega] at hg
 rw [show (flatN es)[j]? = _ from hg] at hu
 have hc':=hc j hj
 cases hu
 exact hc'
theorem ownN {w:World}{base t:Nat}{v:Value}{es:List Int}(h:w.ownsRow base t 1 v es.length (flatN es))(hm:es.length≤maxLen):
  ∃ a cap,v = .slice a es.length cap∧NumsAt w a es∧(a=none→es.length=0∧cap=0)∧∀ b,BlkOf a es.length b→v.ownBlock=some b:=by
 rcases h.2 with ⟨rfl,hn⟩ | ⟨g,cap,cur,rfl,hb,hg,_⟩
 ·exact ⟨none,0,by rw [hn],⟨hm,Or.inl (List.eq_nil_of_length_eq_zero hn)⟩,fun _=>⟨hn,rfl⟩,fun b hb=>absurd hn hb.1⟩
 ·refine ⟨some ⟨g,0,none⟩,cap,rfl,⟨hm,Or.inr ⟨g,0,rfl,numCells_of (h.cells rfl)⟩⟩,(fun e=>nomatch e),fun b hb=>?_⟩
  obtain ⟨_,_,_,hb⟩:=hb
  cases hb
  rfl
def encP (x:MPart):List Value:=[.int .i64 x.piece,.int .i64 x.lo,.int .i64 x.hi]
def flatP (xs:List MPart):List Value:=xs.flatMap encP
theorem flatP_len (xs:List MPart):(flatP xs).length=xs.length*3:=flat_len encP 3 (fun _=>rfl) xs
theorem flatP_one (xs:List MPart):∀ u ∈ flatP xs,u.oneCell'=true:=by
 intro u hu
 obtain ⟨x,_,hx⟩:=List.mem_flatMap.1 hu
 simp only [encP,List.mem_cons,List.not_mem_nil,or_false] at hx
 rcases hx with rfl | rfl | rfl <;> rfl
theorem flatP_snoc (xs:List MPart)(x:MPart):flatP (xs++[x])=flatP xs++encP x:=by simp [flatP]
theorem partCells_of {w:World}{b off:Nat}{es:List MPart}(H:∀ j u,(flatP es)[j]? = some u→w.cell? ((⟨b,off,none⟩:Addr).add j)=some u):PartCells w b off es:=by
 intro i hi
 have h0:(flatP es)[i*3+0]? = some (.int .i64 es[i].piece):=(flat_get encP 3 (fun _=>rfl) es i 0 hi (by omega)).trans rfl
 have h1:(flatP es)[i*3+1]? = some (.int .i64 es[i].lo):=(flat_get encP 3 (fun _=>rfl) es i 1 hi (by omega)).trans rfl
 have h2:(flatP es)[i*3+2]? = some (.int .i64 es[i].hi):=(flat_get encP 3 (fun _=>rfl) es i 2 hi (by omega)).trans rfl
 exact ⟨by have:=H _ _ h0;rw [addr_at] at this;simpa [Nat.add_assoc] using this,by have:=H _ _ h1;rw [addr_at] at this;simpa [Nat.add_assoc] using this,by have:=H _ _ h2;rw [addr_at] at this;simpa [Nat.add_assoc] using this⟩
theorem newsP {w:World}{a:Option Addr}{es:List MPart}(h:PartsAt w a es):∀ ad,a=some ad→∀ j u,(flatP es)[j]? = some u→w.cell? (ad.add j)=some u:=by
 intro ad had j u hu
 have hj:j<es.length*3:=by
  have:=(List.getElem?_eq_some_iff.1 hu).1
  rwa [flatP_len] at this
 obtain ⟨b,off,h3,hc⟩:=h.2.resolve_left (fun e=>by rw [e] at hj;simp at hj)
 rw [had] at h3
 cases h3
 rw [addr_at]
 have hi:j / 3<es.length:=by omega
 have hr:j % 3=0∨j % 3=1∨j % 3=2:=by omega
 rcases hr with hr | hr | hr
 ·have hg:=flat_get encP 3 (fun _=>rfl) es (j / 3) 0 hi (by omega)
  rw [show j / 3*3+0=j by omega] at hg
  rw [show (flatP es)[j]? = _ from hg] at hu
  have hc':=(hc (j / 3) hi).1
  cases hu
  have e:off+j / 3*3=off+j:=by omega
  rw [e] at hc'
  exact hc'
 ·have hg:=flat_get encP 3 (fun _=>rfl) es (j / 3) 1 hi (by omega)
  rw [show j / 3*3+1=j by omega] at hg
  rw [show (flatP es)[j]? = _ from hg] at hu
  have hc':=(hc (j / 3) hi).2.1
  cases hu
  have e:off+j / 3*3+1=off+j:=by omega
  rw [e] at hc'
  exact hc'
 ·have hg:=flat_get encP 3 (fun _=>rfl) es (j / 3) 2 hi (by omega)
  rw [show j / 3*3+2=j by omega] at hg
  rw [show (flatP es)[j]? = _ from hg] at hu
  have hc':=(hc (j / 3) hi).2.2
  cases hu
  have e:off+j / 3*3+2=off+j:=by omega
  rw [e] at hc'
  exact hc'
theorem ownP {w:World}{base t:Nat}{v:Value}{es:List MPart}(h:w.ownsRow base t 3 v es.length (flatP es))(hm:es.length≤maxLen):
  ∃ a cap,v = .slice a es.length cap∧PartsAt w a es∧(a=none→es.length=0∧cap=0)∧∀ b,BlkOf a es.length b→v.ownBlock=some b:=by
 rcases h.2 with ⟨rfl,hn⟩ | ⟨g,cap,cur,rfl,hb,hg,_⟩
 ·exact ⟨none,0,by rw [hn],⟨hm,Or.inl (List.eq_nil_of_length_eq_zero hn)⟩,fun _=>⟨hn,rfl⟩,fun b hb=>absurd hn hb.1⟩
 ·refine ⟨some ⟨g,0,none⟩,cap,rfl,⟨hm,Or.inr ⟨g,0,rfl,partCells_of (h.cells rfl)⟩⟩,(fun e=>nomatch e),fun b hb=>?_⟩
  obtain ⟨_,_,_,hb⟩:=hb
  cases hb
  rfl
def encF (x:MFlank):List Value:=[.int .i64 x.place,.int .i64 x.kind,.int .i64 x.of,.int .i64 x.lie]
def flatF (xs:List MFlank):List Value:=xs.flatMap encF
theorem flatF_len (xs:List MFlank):(flatF xs).length=xs.length*4:=flat_len encF 4 (fun _=>rfl) xs
theorem flatF_one (xs:List MFlank):∀ u ∈ flatF xs,u.oneCell'=true:=by
 intro u hu
 obtain ⟨x,_,hx⟩:=List.mem_flatMap.1 hu
 simp only [encF,List.mem_cons,List.not_mem_nil,or_false] at hx
 rcases hx with rfl | rfl | rfl | rfl <;> rfl
theorem flatF_snoc (xs:List MFlank)(x:MFlank):flatF (xs++[x])=flatF xs++encF x:=by simp [flatF]
theorem flankCells_of {w:World}{b off:Nat}{es:List MFlank}(H:∀ j u,(flatF es)[j]? = some u→w.cell? ((⟨b,off,none⟩:Addr).add j)=some u):FlankCells w b off es:=by
 intro i hi
 have h0:(flatF es)[i*4+0]? = some (.int .i64 es[i].place):=(flat_get encF 4 (fun _=>rfl) es i 0 hi (by omega)).trans rfl
 have h1:(flatF es)[i*4+1]? = some (.int .i64 es[i].kind):=(flat_get encF 4 (fun _=>rfl) es i 1 hi (by omega)).trans rfl
 have h2:(flatF es)[i*4+2]? = some (.int .i64 es[i].of):=(flat_get encF 4 (fun _=>rfl) es i 2 hi (by omega)).trans rfl
 have h3:(flatF es)[i*4+3]? = some (.int .i64 es[i].lie):=(flat_get encF 4 (fun _=>rfl) es i 3 hi (by omega)).trans rfl
 exact ⟨by have:=H _ _ h0;rw [addr_at] at this;simpa [Nat.add_assoc] using this,by have:=H _ _ h1;rw [addr_at] at this;simpa [Nat.add_assoc] using this,by have:=H _ _ h2;rw [addr_at] at this;simpa [Nat.add_assoc] using this,by have:=H _ _ h3;rw [addr_at] at this;simpa [Nat.add_assoc] using this⟩
theorem ownF {w:World}{base t:Nat}{v:Value}{es:List MFlank}(h:w.ownsRow base t 4 v es.length (flatF es))(hm:es.length≤maxLen):
  ∃ a cap,v = .slice a es.length cap∧FlanksAt w a es∧(a=none→es.length=0∧cap=0)∧∀ b,BlkOf a es.length b→v.ownBlock=some b:=by
 rcases h.2 with ⟨rfl,hn⟩ | ⟨g,cap,cur,rfl,hb,hg,_⟩
 ·exact ⟨none,0,by rw [hn],⟨hm,Or.inl (List.eq_nil_of_length_eq_zero hn)⟩,fun _=>⟨hn,rfl⟩,fun b hb=>absurd hn hb.1⟩
 ·refine ⟨some ⟨g,0,none⟩,cap,rfl,⟨hm,Or.inr ⟨g,0,rfl,flankCells_of (h.cells rfl)⟩⟩,(fun e=>nomatch e),fun b hb=>?_⟩
  obtain ⟨_,_,_,hb⟩:=hb
  cases hb
  rfl
theorem Tryz.infoStep:(Tryz.prog.info? 46).map (fun i=>(i.zero,i.size,i.bytes))=some (some (.agg #[.int .i64 0,.int .i64 0]),2,16):=by kernel_rfl
theorem Tryz.infoLie:(Tryz.prog.info? 52).map (fun i=>(i.zero,i.size,i.bytes))=some (some (.agg #[.int .i64 0,.int .i64 0]),2,16):=by kernel_rfl
theorem Tryz.infoInt:(Tryz.prog.info? 3).map (fun i=>(i.zero,i.size,i.bytes))=some (some (.int .i64 0),1,8):=by kernel_rfl
theorem Tryz.infoPart:(Tryz.prog.info? 48).map (fun i=>(i.zero,i.size,i.bytes))=some (some (.agg #[.int .i64 0,.int .i64 0,.int .i64 0]),3,24):=by kernel_rfl
theorem Tryz.infoFlank:(Tryz.prog.info? 50).map (fun i=>(i.zero,i.size,i.bytes))=some (some (.agg #[.int .i64 0,.int .i64 0,.int .i64 0,.int .i64 0]),4,32):=by kernel_rfl
theorem Tryz.infoRoute:(Tryz.prog.info? 44).map (fun i=>(i.zero,i.size,i.bytes))=some (some (.agg #[.int .i64 0,.int .i64 0,.slice none 0 0,.slice none 0 0,.slice none 0 0,.slice none 0 0,.slice none 0 0,.slice none 0 0]),8,160):=by kernel_rfl
theorem owns_ne {w:World}{b b' e e' s s' n n':Nat}{v v':Value}{xs xs':List Value}(he:e≠e')(h:w.ownsRow b e s v n xs)(h':w.ownsRow b' e' s' v' n' xs'):v.ownBlock=none∨v.ownBlock≠v'.ownBlock:=by
 rcases h.2 with ⟨rfl,_⟩ | ⟨g,cap,cur,rfl,_,hg,_⟩
 ·exact Or.inl rfl
 ·right
  rcases h'.2 with ⟨rfl,_⟩ | ⟨g',cap',cur',rfl,_,hg',_⟩
  ·simp [Value.ownBlock]
  ·simp only [Value.ownBlock,ne_eq,Option.some.injEq]
   intro e1
   subst e1
   rw [hg] at hg'
   simp only [Option.some.injEq,Obj.cells.injEq] at hg'
   exact he hg'.2.1
theorem owns_base {w:World}{B B' e s n:Nat}{v:Value}{xs:List Value}(h:w.ownsRow B e s v n xs)(hB:B'≤B):w.ownsRow B' e s v n xs:=by
 refine ⟨h.1,?_⟩
 rcases h.2 with h2 | ⟨g,cap,cur,h1,h2,h3⟩
 ·exact Or.inl h2
 ·exact Or.inr ⟨g,cap,cur,h1,by omega,h3⟩
theorem owns_below {w w':World}{B e s n:Nat}{v:Value}{xs:List Value}(h:w.ownsRow B e s v n xs)(hb:Below w.heap.size w w'):w'.ownsRow B e s v n xs:=by
 refine ⟨h.1,?_⟩
 rcases h.2 with h2 | ⟨g,cap,cur,h1,h2,h3,h4⟩
 ·exact Or.inl h2
 ·exact Or.inr ⟨g,cap,cur,h1,h2,(hb.block g (Array.getElem?_eq_some_iff.1 h3).1).trans h3,h4⟩
theorem owns_shape {w:World}{B e s n:Nat}{v:Value}{xs:List Value}(h:w.ownsRow B e s v n xs):∃ x y,v = .slice x n y∧(x=none→n=0∧y=0):=by
 rcases h.2 with ⟨rfl,rfl⟩ | ⟨g,cap,cur,rfl,_⟩
 ·exact ⟨none,0,rfl,fun _=>⟨rfl,rfl⟩⟩
 ·exact ⟨_,_,rfl,fun e=>by cases e⟩
theorem wpList_copy {P:Program}{Wp:World}{ops:Array Oper}{rest:List Oper}{o:Oper}{a:Act}{Q:Exit→Act→World→Prop}(hgd:o.guard=none)(s x:Operand)(t:TypeId)
  (ho:o.op = .call { callee:=.builtin .append,args:=#[s,x],argTypes:=#[t,t] })
  (e:TypeId) (z:Value) (size bytes:Nat) (ht:P.underlying t=some (.slice e)) (hi:(P.info? e).map (fun i=>(i.zero,i.size,i.bytes))=some (some z,size,bytes)) (hzs:z.cells.size=size) (hsz:0<size)
  (g:Nat) (hgs:g=Wp.heap.size) (hs:a.eval s = .slice (some ⟨g,0,none⟩) 0 0)
  (av:Option Addr) (m c:Nat) (news:List Value) (hx:a.eval x = .slice av m c) (hav:av=none→m=0∧c=0) (hl:news.length=m*size) (hnews:∀ ad,av=some ad→∀ j u,news[j]? = some u→Wp.cell? (ad.add j)=some u) (h1:∀ u ∈ news,u.oneCell'=true)
  (h63:m≤maxLen) (hbytes:m*bytes≤140737488355328)
  (h:∀ x' y' w',w'.ownsRow Wp.heap.size e size (.slice x' m y') m news→Below Wp.heap.size Wp w'→wpList P ops Q rest (a.put o.dst (.slice x' m y')) w'):wpList P ops Q (o::rest) a (Wp.alloc (.cells #[] e)):=by
 subst hgs
 refine wpList_append_list hgd s x t ho Wp.heap.size e z size bytes ht hi hzs hsz _ 0 [] hs (World.ownsRow_made Wp #[] 0 (Nat.le_refl _) (Nat.zero_le _) (by simp)) av m c news hx (fun h=>(hav h).2) hl ?_ (fun h=>(hav h).1) h1 (by rw [Nat.zero_add];exact h63) (by rw [Nat.zero_add];exact hbytes) (by simp) ?_
 ·intro ad had j u hu
  have hc:=hnews ad had j u hu
  exact (World.cell?_of_block (w:=Wp) (Below.heap_alloc _ _ _ (cellLt hc))).trans hc
 ·intro v' w' ho' hg'
  rw [Nat.zero_add,List.nil_append] at ho'
  obtain ⟨x',y',rfl,_⟩:=owns_shape ho'
  refine h x' y' w' ho' ⟨hg'.os,hg'.tape,hg'.output,Nat.le_trans (by simp) hg'.size,fun k hk=>?_⟩
  exact (hg'.block k (by simp;omega) (by simp only [Value.ownBlock,ne_eq,Option.some.injEq];omega)).trans (Below.heap_alloc _ _ _ hk)
theorem wpList_push {P:Program}{Wp:World}{ops:Array Oper}{rest:List Oper}{o:Oper}{a:Act}{Q:Exit→Act→World→Prop}(hgd:o.guard=none)(s x:Operand)(t:TypeId)
  (ho:o.op = .call { callee:=.builtin .append,args:=#[s,x],argTypes:=#[t,t] })
  (B:Nat) (e:TypeId) (z:Value) (size bytes:Nat) (ht:P.underlying t=some (.slice e)) (hi:(P.info? e).map (fun i=>(i.zero,i.size,i.bytes))=some (some z,size,bytes)) (hzs:z.cells.size=size) (hsz:0<size)
  (v:Value) (n:Nat) (xs:List Value) (hs:a.eval s=v) (hown:Wp.ownsRow B e size v n xs)
  (g:Nat) (hgs:g=Wp.heap.size) (news:List Value) (hx:a.eval x = .slice (some ⟨g,0,none⟩) 1 1) (hl:news.length=size) (h1:∀ u ∈ news,u.oneCell'=true)
  (h63:n+1≤maxLen) (hbytes:(n+1)*bytes≤140737488355328) (hB:B≤Wp.heap.size)
  (h:∀ x' y' w',w'.ownsRow B e size (.slice x' (n+1) y') (n+1) (xs++news)→Wp.grownBy w' v.ownBlock→wpList P ops Q rest (a.put o.dst (.slice x' (n+1) y')) w'):wpList P ops Q (o::rest) a (Wp.alloc (.cells news.toArray e)):=by
 subst hgs
 obtain ⟨i,hi1,hi2,hi3,hi4⟩:=info_parts hi
 refine wpList_append_own _ hgd s x t ho B e i z size bytes ht hi1 hi2 hi3 hi4 hzs hsz v n xs hs (hown.alloc _) ⟨Wp.heap.size,0,none⟩ 1 1 news hx (by omega) ?_ h1 h63 hbytes (by simp;omega) ?_
 ·intro j u hu
  rw [addr_at,Nat.zero_add]
  have:=cell_of_row (Wp.alloc (.cells news.toArray e)) Wp.heap.size j news.toArray e (0,0) (heap_alloc_new Wp _)
  rw [this]
  simpa using hu
 ·intro v' w' ho' hg' _
  obtain ⟨x',y',rfl,_⟩:=owns_shape ho'
  refine h x' y' w' ho' ⟨hg'.os,hg'.tape,hg'.output,Nat.le_trans (by simp) hg'.size,fun k hk hne=>?_⟩
  exact (hg'.block k (by simp;omega) hne).trans (Below.heap_alloc _ _ _ hk)
theorem push_below {B e s n:Nat}{w0 Wp w':World}{v:Value}{xs:List Value}(hb:Below B w0 Wp)(ho:Wp.ownsRow B e s v n xs)(hg:Wp.grownBy w' v.ownBlock)(hB:B≤Wp.heap.size):Below B w0 w':=
 hb.grown hg hB (fun k e=>(ho.lt k e).1)
end Go.Proofs.YtmkdgnmmebldgaaGreatDoor
