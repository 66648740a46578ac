import Derived.Test.YtmkdgnmmebldgaaGreatDoorPk33
import Derived.Laws.BitsAllLaws
import Derived.Test.YtmkdgnmmebldgaaGreatDoorPk32
import Derived.Test.YtmkdgnmmebldgaaGreatDoorPk34
set_option maxRecDepth 100000
set_option maxHeartbeats 8000000
open Go.Proofs.Tryz
namespace Go.Proofs.YtmkdgnmmebldgaaGreatDoor
open Go.RowKit
variable {n:Int}
def gu (n:Int):Nat:=(n % 128).toNat
theorem BA (n:Int):gu n<128:=by unfold gu;omega
structure dp where
 a:Nat
 b:Nat
def dp.Ok (s:dp):Prop:=s.a<18446744073709551616/\s.b<18446744073709551616
def eT:dp:=⟨0,0⟩
def ex (s:dp)(n:Int):dp:=if gu n<64 then ⟨s.a ||| 2 ^ (gu n % 64),s.b⟩ else ⟨s.a,s.b ||| 2 ^ (gu n % 64)⟩
def bS (l:List Int):dp:=l.foldl ex eT
def ej (s t:dp):Bool:=(s.a &&& t.a != 0) || (s.b &&& t.b != 0)
def j7 (s:dp)(n:Int):Bool:=if gu n<64 then s.a.testBit (gu n % 64) else s.b.testBit (gu n % 64)
theorem wg {i:Nat}(h:i<64):2 ^ i<18446744073709551616:=Nat.pow_lt_pow_right CG h
theorem Aw {s:dp}(h:s.Ok)(n:Int):(ex s n).Ok:=by
 have hp:=wg (Nat.mod_lt (gu n) (show 0<64 by omega))
 unfold ex
 split
 ·exact ⟨Nat.or_lt_two_pow (n:=64) h.1 hp,h.2⟩
 ·exact ⟨h.1,Nat.or_lt_two_pow (n:=64) h.2 hp⟩
theorem zg:eT.Ok:=by unfold dp.Ok eT;decide
theorem vG:∀ (l:List Int)(s:dp),s.Ok->(l.foldl ex s).Ok
 | [],_,h=>h
 | n::r,_,h=>vG r _ (Aw h n)
theorem fY (l:List Int):(bS l).Ok:=vG l _ zg
theorem Aj (s:dp)(n:Int):j7 (ex s n) n=true:=by
 unfold j7 ex
 by_cases h:gu n<64
 ·simp [h,Nat.testBit_or,Nat.testBit_two_pow_self]
 ·simp [h,Nat.testBit_or,Nat.testBit_two_pow_self]
theorem Ac (s:dp)(n m:Int)(h:j7 s n=true):j7 (ex s m) n=true:=by
 unfold j7 at h ⊢;unfold ex
 by_cases h1:gu n<64 <;> by_cases h2:gu m<64 <;> simp [h1,h2,Nat.testBit_or] at h ⊢ <;> simp [h]
theorem tT:∀ (l:List Int)(s:dp)(n:Int),j7 s n=true\/n ∈ l->j7 (l.foldl ex s) n=true
 | [],_,n,h=>h.resolve_right CI
 | m::r,s,n,h=>by
  simp only [List.foldl_cons];refine tT r _ n ?_;rcases h with h | h
  ·exact Or.inl (Ac s n m h)
  ·rcases List.mem_cons.1 h with rfl | h
   ·exact Or.inl (Aj s n)
   ·exact Or.inr h
theorem ua {l:List Int}(h:n ∈ l):j7 (bS l) n=true:=tT l _ n (Or.inr h)
theorem oE {a b i:Nat}(h1:a.testBit i=true)(h2:b.testBit i=true):(a &&& b != 0)=true:=by
 have h:(a &&& b).testBit i=true:=by simp [Nat.testBit_and,h1,h2]
 have:a &&& b≠0:=fun e=>by rw [e] at h;simp at h
 simp [this]
theorem yU {s t:dp}(h1:j7 s n=true)(h2:j7 t n=true):ej s t=true:=by
 unfold j7 at h1 h2;unfold ej
 by_cases h:gu n<64
 ·simp only [h,if_true] at h1 h2;rw [oE h1 h2];rfl
 ·simp only [h,if_false] at h1 h2;rw [oE h1 h2];simp
theorem yX {l r:List Int}(h1:n ∈ l)(h2:n ∈ r):ej (bS l) (bS r)=true:=yU (ua h1) (ua h2)
theorem yZ (l:List Int)(n:Int):bS (l++[n])=ex (bS l) n:=by unfold bS;rw [List.foldl_append];rfl
structure WfR (r:al):Prop where
 CA:∀ i (h:i<r.CA.length),(Lit.int .i64 r.CA[i].CB).wf=true/\(Lit.int .i64 r.CA[i].side).wf=true
 Cz:∀ i (h:i<r.Cz.length),(Lit.int .i64 r.Cz[i].of).wf=true/\(Lit.int .i64 r.Cz[i].lie).wf=true
def Ch (rs:List al):Prop := ∀ i (h:i<rs.length),WfR rs[i]
theorem nO {α:Type}{xs ys:List α}{key:α->Int}{p:α->α->Bool}(hp:∀ x y,p x y=true->key x=key y)(h:ej (bS (xs.map key)) (bS (ys.map key))=false):(xs.any fun x=>ys.any fun y=>p x y)=false:=by
 rw [List.any_eq_false];intro x hx h2;rw [List.any_eq_true] at h2;obtain ⟨y,hy,a⟩:=h2;have e:=hp x y a;rw [yX (List.mem_map.2 ⟨x,hx,rfl⟩) (List.mem_map.2 ⟨y,hy,e.symm⟩)] at h;exact absurd h CI
theorem wM (x y:aI)(h:dI x y=true):x.CB=y.CB:=by
 unfold dI at h;simp only [Bool.and_eq_true,beq_iff_eq] at h;exact h.1.1
theorem uX (x y:aI):dI x y=dI y x:=by
 unfold dI;rw [Bool.and_assoc,Bool.and_assoc,Bool.and_comm (decide (x.lo<=y.hi))];have:(x.CB==y.CB)=(y.CB==x.CB):=by rw [Bool.eq_iff_iff,beq_iff_eq,beq_iff_eq];exact ⟨Eq.symm,Eq.symm⟩
 rw [this]
theorem o7 {α β:Type}(xs:List α)(ys:List β)(p:α->β->Bool):(xs.any fun x=>ys.any fun y=>p x y)=(ys.any fun y=>xs.any fun x=>p x y):=by
 rw [Bool.eq_iff_iff];simp only [List.any_eq_true];exact ⟨fun ⟨x,hx,y,hy,h⟩=>⟨y,hy,x,hx,h⟩,fun ⟨y,hy,x,hx,h⟩=>⟨x,hx,y,hy,h⟩⟩
theorem oQ (a b:List aI):bN a b=bN b a:=by
 unfold bN;rw [o7];simp only [uX]
theorem vi (a b:List Int):dS a b=dS b a:=by
 unfold dS;rw [o7];rw [Bool.eq_iff_iff];simp only [List.any_eq_true,beq_iff_eq];exact ⟨fun ⟨x,hx,y,hy,h⟩=>⟨x,hx,y,hy,h.symm⟩,fun ⟨x,hx,y,hy,h⟩=>⟨x,hx,y,hy,h.symm⟩⟩
theorem xB (a b:List am):fu a b=fu b a:=by
 unfold fu;rw [o7];rw [Bool.eq_iff_iff];simp only [List.any_eq_true,Bool.and_eq_true,beq_iff_eq,bne_iff_ne,ne_eq];exact ⟨fun ⟨x,hx,y,hy,h⟩=>⟨x,hx,y,hy,h.1.symm,fun e=>h.2 e.symm⟩,fun ⟨x,hx,y,hy,h⟩=>⟨x,hx,y,hy,h.1.symm,fun e=>h.2 e.symm⟩⟩
end Go.Proofs.YtmkdgnmmebldgaaGreatDoor
namespace Go.Proofs.YtmkdgnmmebldgaaGreatDoor
open Go.RowKit Go.Deep
variable {js:List aj}{ps ss:List af}
def pE (js:List aj)(CA:List bg):Prop:=(∀ l ∈ CA,∃ (j:Nat) (hj:j<js.length),l.CB=j/\js[j].kind=3/\(l.side=1\/l.side=2))/\(CA.map am.CB).Nodup
theorem km (R:bo ps js ss):∀ (n i:Nat) (pre:List aM) (s:aM) (CA:List bg) (Cy:List Int) (pos:Int),ck ps js ss i pre s CA Cy pos->∀ q ∈ evs ps js ss n (aF i (pre++[s]) CA Cy) pos,pE js q.CA
 | 0,_,_,_,_,_,_,_=>fun q hq=>by cases hq
 | n+1,i,pre,s,CA,Cy,pos,ok=>by
  intro q hq;have h0:pE js CA:=⟨ok.lv,ok.ld⟩
  by_cases hb:0<=bi ss s.CB s.side pos ss.length
  ·rw [lw hb] at hq;have:q=eo i (bi ss s.CB s.side pos ss.length) (pre++[s]) CA Cy:=by simpa using hq
   rw [this];exact h0
  by_cases hr:s ∈ pre
  ·rw [mY hb hr] at hq;have:q=aF i (pre++[s]) CA Cy:=by simpa using hq
   rw [this];exact h0
  by_cases hk:aH js (aO js (au s)).1=1
  ·rw [lR hb hr hk] at hq;have:q=eo i (-1) (pre++[s]) CA Cy:=by simpa using hq
   rw [this];exact h0
  rw [tS hb hr hk] at hq;rcases List.mem_cons.1 hq with hq | hq
  ·rw [hq];exact h0
  ·unfold dy at hq;obtain ⟨t,ht,hq⟩:=List.mem_flatMap.1 hq;have hv:=dh ok.sv;have b:=R.across hv ht;obtain ⟨j,k,d,f⟩:=R.spot hv;obtain ⟨_,hj,g,_⟩:=df d;simp only [Nat.sub_zero] at hj g;rw [f] at hq ht b hk;dsimp only at hq ht b hk;have h:=R.kind j hj;have a:=fun (lies':List bg) (crosses':List Int) (hl:pE js lies') (hc:crosses'.length<=pre.length+1)=>ck.next R ok hr b (lies':=lies') (crosses':=crosses') hl.1 hl.2 hc
   unfold gy at hq;rw [cu hj] at hk;have m:=ok.cl;have h4:js[j].kind=2\/js[j].kind=3\/js[j].kind=4:=CG
   rcases h4 with h4 | h4 | h4
   ·rw [pS (by rw [cu hj];exact h4)] at hq
    exact km R n i _ _ _ _ _ (a _ _ h0 CG) q hq
   ·by_cases ha:CA.any (fun l=>l.CB==(j:Int))=true
    ·have hz:=lx ok.lv ha
     by_cases hl:ce CA j=(max k t:Nat)
     ·rw [kw (by rw [cu hj];exact h4) hl hz] at hq
      exact km R n i _ _ _ _ _ (a _ _ h0 CG) q hq
     ·rw [jG (by rw [cu hj];exact h4) hl hz] at hq
      cases hq
    ·rw [lI (by rw [cu hj];exact h4) (px ha)] at hq
     rw [cu hj,h4] at ht;have hm:((max k t:Nat):Int)=1\/((max k t:Nat):Int)=2:=by
      unfold bt at ht;rw [if_neg CG,if_pos rfl] at ht
      have o:k<3:=by have:=h.2.2;omega
      by_cases c:k=0
      ·rw [if_pos c] at ht;have:t=1\/t=2:=by simpa using ht
       omega
      ·rw [if_neg c] at ht;have:t=0:=by simpa using ht
       omega
     exact km R n i _ _ _ _ _ (a _ _ ⟨kI ok.lv hj h4 hm,jN ok.ld ha⟩ CG) q hq
   ·rw [l8 (by rw [cu hj];exact h4)] at hq
    exact km R n i _ _ _ _ _ (a _ _ h0 CN) q hq
theorem oL (R:bo ps js ss):∀ (m:Nat),m<=ss.length->∀ q ∈ cb ps js ss m,pE js q.CA
 | 0,_=>fun q hq=>by cases hq
 | m+1,hm=>by
  intro q hq;have a:m<ss.length:=CG
  have h:cb ps js ss (m+1)=cb ps js ss m++(match ss[m]? with | none=>[] | some s=>evs ps js ss (cI ps) (j6 m s) s.CD):=rfl
  rw [h,List.getElem?_eq_getElem a] at hq;rcases List.mem_append.1 hq with hq | hq
  ·exact oL R m CG q hq
  ·exact km R (cI ps) m [] ⟨ss[m].len,ss[m].CC⟩ [] [] ss[m].CD (ck.begin R a) q hq
theorem lN {x:Int}(h0 : -1000000<=x)(h1:x<=1000000):(Lit.int .i64 x).wf=true:=by
 have e1:IntKind.i64.min = -9223372036854775808:=CJ
 have e2:IntKind.i64.max=9223372036854775807:=CJ
 simp only [Lit.wf,e1,e2];simp;omega
def i3 (f:aN):Prop := -10<=f.of/\f.of<=1000 /\ -10<=f.lie/\f.lie<=10
theorem uE (R:bo ps js ss)(e:am):(aO js e).1<=120/\(aO js e).2<=4:=by
 unfold aO;cases h:gw js e 0 with
 | none=>simp
 | some p =>
  obtain ⟨j,k⟩:=p;obtain ⟨_,hj,hk,_⟩:=df h;simp only [Nat.sub_zero] at hj hk;have:=R.kind j hj;have:=R.nj;simp;omega
theorem ue (R:bo ps js ss)(CA:List bg)(pl:Int):∀ (n:Nat) (st:List am × List aN) (e:am),(∀ f ∈ st.2,i3 f)->∀ f ∈ (bJ js ss CA pl n st e).2,i3 f
 | 0,st,e,h=>h
 | n+1,st,e,h=>by
  have a:∀ (x:aN),i3 x->∀ f ∈ st.2++[x],i3 f:=fun x hx f hf=>by
   rcases List.mem_append.1 hf with hf | hf
   ·exact h f hf
   ·have:f=x:=by simpa using hf
    rw [this];exact hx
  have d:=uE R (b7 e);simp only [bJ];generalize g:(if e.side=0 then (-1:Int) else 1)=wy
  split
  ·exact h
  ·split
   ·refine a _ ⟨?_,?_,by show (-10:Int)<=0;omega,by show (0:Int)<=10;omega⟩
    ·rename_i hg
     show -10<=bE ss e.CB wy ss.length
     omega
    ·have:=R.ns;rcases gJ ss e.CB wy ss.length CW with h1 | ⟨b,hb,_,h1,_⟩
     ·show bE ss e.CB wy ss.length<=1000
      rw [h1];omega
     ·show bE ss e.CB wy ss.length<=1000
      rw [h1];omega
   ·split
    ·exact a _ ⟨by show -10<=(((aO js (b7 e)).1:Nat):Int);omega,by show (((aO js (b7 e)).1:Nat):Int)<=1000;omega,by show (-10:Int)<=0;omega,by show (0:Int)<=10;omega⟩
    ·split
     ·split
      ·exact a _ ⟨by show -10<=(((aO js (b7 e)).1:Nat):Int);omega,by show (((aO js (b7 e)).1:Nat):Int)<=1000;omega,by show (-10:Int)<=0;omega,by show (0:Int)<=10;omega⟩
      ·exact a _ ⟨by show -10<=(((aO js (b7 e)).1:Nat):Int);omega,by show (((aO js (b7 e)).1:Nat):Int)<=1000;omega,by show (-10:Int)<=3-(((aO js (b7 e)).2:Nat):Int);omega,by show 3-(((aO js (b7 e)).2:Nat):Int)<=10;omega⟩
     ·have c:∀ (L:List Nat) (s:List am × List aN),(∀ f ∈ s.2,i3 f)->∀ f ∈ (L.foldl (fun s t=>bJ js ss CA pl n s (aY js (aO js (b7 e)).1 t)) s).2,i3 f:=by
       intro L
       induction L with
       | nil=>exact fun s hs=>hs
       | cons t r ih=>exact fun s hs=>ih _ (ue R CA pl n s _ hs)
      exact c _ _ h
theorem qe (R:bo ps js ss)(CA:List bg):∀ (L:List bg),∀ f ∈ aS ps js ss CA L,i3 f
 | []=>fun f hf=>by cases hf
 | l::r=>fun f hf=>by
  rcases List.mem_append.1 hf with hf | hf
  ·exact ue R CA l.CB _ ([],[]) _ (fun f hf=>by cases hf) f hf
  ·exact qe R CA r f hf
def mW (p:aI):Prop:=0<=p.lo/\p.lo<=p.hi/\p.hi<=10000000
theorem xw (R:bo ps js ss)(p:Int):0<=iA ps p/\iA ps p<=10000000:=by
 unfold iA;cases h:ps[p.toNat]? with
 | none=>simp
 | some x =>
  obtain ⟨hi,rfl⟩:=List.getElem?_eq_some_iff.1 h;have:=R.plen _ hi;simp;omega
theorem io (R:bo ps js ss)(e:am):0<=aR ps e/\aR ps e<=10000000:=by
 unfold aR
 split
 ·omega
 ·exact xw R _
theorem kV (R:bo ps js ss)(b:Int):0<=bK ss b/\bK ss b<=10000000:=by
 unfold bK;cases h:ss[b.toNat]? with
 | none=>simp
 | some x =>
  obtain ⟨hi,rfl⟩:=List.getElem?_eq_some_iff.1 h;obtain ⟨p,hp,_,_,h1,h2⟩:=R.sig _ hi;have:=R.plen p hp;simp;omega
theorem pb {p a b:Int}(ha:0<=a/\a<=10000000)(hb:0<=b/\b<=10000000):mW (cD p a b):=by
 unfold cD mW;refine ⟨?_,?_,?_⟩ <;> simp only <;> omega
theorem yg (R:bo ps js ss)(q:aw):∀ p ∈ cY ps ss q,mW p:=by
 intro p hp;unfold cY at hp;rcases List.mem_append.1 hp with hp | hp
 ·have b:∀ (a:Int),(0<=a/\a<=10000000)->∀ (L:List aM),∀ p ∈ cg ps a L,mW p:=by
   intro a ha L p hp;cases L with
   | nil=>cases hp
   | cons s r =>
    rcases List.mem_cons.1 hp with hp | hp
    ·rw [hp];exact pb ha (io R _)
    ·obtain ⟨x,_,rfl⟩:=List.mem_map.1 hp;exact pb (io R _) (io R _)
  exact b _ (kV R _) _ p hp
 ·have e:=List.mem_singleton.1 hp;rw [e];refine pb ?_ ?_
  ·split
   ·exact kV R _
   ·exact io R _
  ·split
   ·exact kV R _
   ·exact io R _
structure Ct (r:al):Prop where
 short:nf r
 wf:WfR r
 some_:r.CF≠[]
 CF:∀ p ∈ r.CF,mW p
theorem ie (ps:List af)(js:List aj)(ss:List af)(over:Int):(aX ps js ss over).length<=300/\∀ r ∈ aX ps js ss over,Ct r:=by
 unfold aX
 split
 ·rename_i hc;have R:bo ps js ss:=lX hc.1;refine ⟨by rw [List.length_map];exact hc.2.2.2.2,fun r hr=>?_⟩
  obtain ⟨q,hq,rfl⟩:=List.mem_map.1 hr;have c:q ∈ cb ps js ss ss.length:=(List.mem_filter.1 hq).1;have hl:=oL R ss.length CW q c;have d:=iX hl.1 hl.2;have h:=R.nj;have k:=R.np;have a:∀ l ∈ q.CA,bM ps (aY js l.CB.toNat (3-l.side).toNat):=fun l f=>by
   obtain ⟨j,hj,h1,h2,h3⟩:=hl.1 l f;have hk:=R.kind j hj;have b:(3-l.side).toNat<js[j].ends.length:=by have:=hk.2.2;omega
   rw [h1,Int.toNat_natCast,du hj b];exact R.ends j hj _ b
  have m:=i8 R q.CA q.CA a;have g:2*ps.length*q.CA.length<=200*120:=Nat.mul_le_mul CG CG
  refine ⟨⟨?_,?_⟩,⟨?_,?_⟩,?_,?_⟩
  ·show q.CA.length<=1048576
   omega
  ·show (aS ps js ss q.CA q.CA).length<=1048576
   omega
  ·intro i hi;obtain ⟨j,hj,h1,_,h3⟩:=hl.1 _ (List.getElem_mem hi);exact ⟨lN (by rw [h1];omega) (by rw [h1];omega),lN CG CG⟩
  ·intro i hi;have hf:=qe R q.CA q.CA _ (List.getElem_mem (show i<(aS ps js ss q.CA q.CA).length from hi))
   exact ⟨lN (by have:=hf.1;show -1000000<=(aS ps js ss q.CA q.CA)[i].of;omega) (by have:=hf.2.1;show (aS ps js ss q.CA q.CA)[i].of<=1000000;omega),lN (by have:=hf.2.2.1;show -1000000<=(aS ps js ss q.CA q.CA)[i].lie;omega) (by have:=hf.2.2.2;show (aS ps js ss q.CA q.CA)[i].lie<=1000000;omega)⟩
  ·show cY ps ss q≠[]
   unfold cY;simp
  ·exact yg R q
 ·exact ⟨Nat.zero_le _,fun r hr=>by cases hr⟩
end Go.Proofs.YtmkdgnmmebldgaaGreatDoor
