import Derived.Test.YtmkdgnmmebldgaaGreatDoorPk39
import Derived.Laws.AppendOwn
import Derived.Test.YtmkdgnmmebldgaaGreatDoorPk42
set_option maxRecDepth 100000
set_option maxHeartbeats 8000000
open Go.Proofs.Tryz
namespace Go.Proofs.YtmkdgnmmebldgaaGreatDoor
open Go.RowKit Go.Deep
variable {B n y:Nat}{ss:List af}{w:World}
theorem pw {P:Program}(w:World)(base:Nat)(t u ty e:TypeId)(i:TypeInfo)(z:Value)(ht:P.underlying t=some (.slice e))(hu:P.underlying u=some (.int .i64))(hi:P.info? e=some i)(hz:i.zero=some z)
  (hzs:z.cells.size=i.size) (hsz:0<i.size) (h1:∀ u ∈ (Builtin.zeroCells z.cells 60).toList,u.oneCell'=true) (hbb:i.bytes<=1000)
  (g cap n:Nat) (xs:List Value) (hown:w.ownsRow base e i.size (.slice (some ⟨g,0,none⟩) n cap) n xs) (h63:n+60<=maxLen) (hbytes:(n+60)*i.bytes<=140737488355328) (hbase:base<=w.heap.size) :
  ∃ x' y' w',(Builtin.append_ #[t,u] ty #[.slice (some ⟨g,0,none⟩) n cap,.int .i64 60]).run P w = .ok (.slice x' (n+60) y') w'/\w'.ownsRow base e i.size (.slice x' (n+60) y') (n+60) (xs++(Builtin.zeroCells z.cells 60).toList)/\w.grownBy w' (some g):=by
 have q:n+60<=9223372036854775807:=by simp only [maxLen] at h63;omega
 obtain ⟨a,c⟩:∃ a,(Builtin.zeroCells z.cells 60).toList=a:=⟨_,rfl⟩;have d:Builtin.zeroCells z.cells 60=a.toArray:=by rw [<-c]
 rw [c] at h1 ⊢;have hl:a.length=60*i.size:=by rw [<-c,Array.length_toList,size_zeroCells,hzs]
 have f:(xs++a).length=(n+60)*i.size:=by rw [List.length_append,hown.1,hl,Nat.add_mul]
 have hw:IntKind.i64.wrap 60=60:=CJ
 have l:¬ (281474976710656:Int)<60*(i.bytes:Int):=CG
 have x:¬ 60*i.size=0:=CG
 rcases hown.2 with ⟨h,_⟩ | ⟨g',A,m,h,B,hg,F,r,C,o⟩
 ·cases h
 ·cases h
  by_cases b:n+60<=cap
  ·have s:n*i.size+a.length<=m.size:=by rw [hl,C,<-Nat.add_mul];exact Nat.mul_le_mul_right _ b
   have y:=run_storeCells_at P g (n*i.size) e a 0 m w hg (by simpa using s) h1
   simp only [Nat.add_zero] at y;refine ⟨some ⟨g,0,none⟩,cap,w.setRow g (m.toList.take (n*i.size)++a++m.toList.drop (n*i.size+a.length)).toArray,?_,⟨f,.inr ⟨g,cap,_,rfl,B,setRow_heap w g m _ e _ hg,b,r,?_,?_⟩⟩,⟨rfl,rfl,rfl,CI,fun k _ hk=>setRow_other w g k _ (fun e=>hk (by simp [e]))⟩⟩
   ·simp [Builtin.append_,run_underlying ht,run_underlying hu,sizeOf,typeInfo,zeroValue,hi,hz,asInt,asIntOf,hw,l,x,b,Addr.add_lit,d,y]
   ·simp only [List.size_toArray,List.length_append,List.length_take,List.length_drop,Array.length_toList];omega
   ·rw [o,<-f];exact List.take_left
  ·have p:∀ j u,xs[j]? = some u->w.cell? ((⟨g,0,none⟩:Addr).add j)=some u:=hown.cells (g:=g) rfl;have D:=run_firstCells_some (P:=P) w.drew i.size n ⟨g,0,none⟩ n cap xs hown.1 (by simpa using p)
   have v:¬ (281474976710656<Builtin.nextslicecap (n+60) cap*i.bytes):=by have:=growslice_fits (need:=n+60) (old:=cap) CG hbytes;omega
   have E:=grownCap_ge w (n+60) cap e;have r:grownCap w (n+60) cap e<=maxLen:=grownCap_le_maxLen w (n+60) cap e h63;refine ⟨some ⟨w.heap.size,0,none⟩,grownCap w (n+60) cap e,w.drew.alloc (.cells (xs.toArray++a.toArray++Builtin.zeroCells z.cells (grownCap w (n+60) cap e-(n+60))) e),?_,⟨f,.inr ⟨w.heap.size,_,_,rfl,hbase,heap_alloc_new w.drew _,E,r,?_,?_⟩⟩,⟨rfl,rfl,rfl,CI,fun k hk _=>Below.heap_alloc w.drew _ k hk⟩⟩
   ·simp [Builtin.append_,run_underlying ht,run_underlying hu,sizeOf,typeInfo,zeroValue,hi,hz,asInt,asIntOf,hw,l,x,b,v,Question.forced,D,d,newRow,grownCap];rw [if_neg (show ¬ (9223372036854775807:Int)<(n:Int)+max 60 0 by omega)]
    congr 2;congr 1;apply Array.ext';simp [List.append_assoc]
   ·simp only [Array.size_append,List.size_toArray,size_zeroCells,hzs,hown.1,hl,<-Nat.add_mul];congr 1;omega
   ·simp only [Array.toList_append,List.append_assoc];rw [<-List.append_assoc,<-f];exact List.take_left
theorem s7 {P:Program}{ops:Array Oper}{rest:List Oper}{o:Oper}{a:Act}{Q:Exit->Act->World->Prop}(hgd:o.guard=none)(s x:Operand)(t u:TypeId)
  (ho:o.op = .call { callee:=.builtin .append,args:=#[s,x],argTypes:=#[t,u] })
  (base:Nat) (e:TypeId) (z:Value) (size bytes:Nat) (ht:P.underlying t=some (.slice e)) (hu:P.underlying u=some (.int .i64)) (hi:(P.info? e).map (fun i=>(i.zero,i.size,i.bytes))=some (some z,size,bytes))
  (hzs:z.cells.size=size) (hsz:0<size) (h1:∀ u ∈ (Builtin.zeroCells z.cells 60).toList,u.oneCell'=true) (hbb:bytes<=1000)
  (g cap n:Nat) (xs:List Value) (hs:a.eval s = .slice (some ⟨g,0,none⟩) n cap) (hx:a.eval x = .int .i64 60) (hown:w.ownsRow base e size (.slice (some ⟨g,0,none⟩) n cap) n xs) (h63:n+60<=maxLen) (hbytes:(n+60)*bytes<=140737488355328) (hbase:base<=w.heap.size)
  (h:∀ x' y' w',w'.ownsRow base e size (.slice x' (n+60) y') (n+60) (xs++(Builtin.zeroCells z.cells 60).toList)->w.grownBy w' (some g)->wpList P ops Q rest (a.put o.dst (.slice x' (n+60) y')) w'):wpList P ops Q (o::rest) a w:=by
 obtain ⟨i,b,c,d,f⟩:=info_parts hi;subst d f;obtain ⟨x',y',w',hr,h2,h3⟩:=pw (P:=P) w base t u o.type e i z ht hu b c hzs hsz h1 hbb g cap n xs hown h63 hbytes hbase;refine wpList_plain hgd fun K hK=>?_
 unfold Oper.wp execOp;simp only [ho,resolve,invoke,builtin,Sem.run_bind,Sem.run_pure,Result.andThen_ok,List.map_toArray,List.map_cons,List.map_nil,hs,hx,hr];exact hK _ _ (h x' y' w' h2 h3)
def fF (C:Nat)(ca:Option Addr)(cc:Nat)(bs:List Int)(top mx:Nat)(rb:Option Nat)(B:Nat)(w:World)(e:Ending)(w':World):Prop:=
 ∃ xs ys ss at',e = .returned (.slice xs (ss:List af).length ys)/\vt B w' xs ss/\at'<=top/\Cur w' C ca cc bs at'/\ag (fun k=>k=C\/rb=some k) w w'/\w'.ownsRow B 62 4 (.slice xs ss.length ys) ss.length (bd ss)/\(∀ s ∈ ss,s.name.size<=1000002)/\ss.length<=mx
theorem fF.mk' {C:Nat}{ca:Option Addr}{cc:Nat}{bs:List Int}{top mx:Nat}{rb:Option Nat}{at_:Nat}{w5 w':World}{x:Option Addr}(hrow:w'.ownsRow B 62 4 (.slice x n y) n (bd ss))(hl:ss.length=n)(hn:∀ s ∈ ss,s.name.size<=1000002)(hc:Cur w5 C ca cc bs at_)(hlow:eQ C ca bs)(ho:ag (fun k=>k=C\/rb=some k) w w5)(ho':ag (fun k=>rb=some k) w5 w')(hat:at_<=top)(hCB:C<B)(hmx:n<=mx)(hrb:∀ k,rb=some k->B<=k):fF C ca cc bs top mx rb B w (.returned (.slice x n y)) w':=by
 subst hl;refine ⟨x,y,ss,at_,rfl,fun u hu=>jW (N:=B) (ax hrow (fun b hb=>hu b (hrow.lt b hb).1 (hrow.lt b hb).2)) hn,hat,hc.above hlow (fun k hk=>ho'.block k (by have:=hc.lt;omega) (fun e=>by have:=hrb k e;omega)),ho.trans (ho'.mono (fun k hk=>Or.inr hk)),hrow,hn,hmx⟩
theorem fF.set {C:Nat}{ca:Option Addr}{cc:Nat}{bs:List Int}{top mx at_ g:Nat}{w5:World}(hrow:w5.ownsRow B 62 4 (.slice (some ⟨g,0,none⟩) n y) n (bd ss))(hl:ss.length=n)(hn:∀ s ∈ ss,s.name.size<=1000002)(hc:Cur w5 C ca cc bs at_)(hlow:eQ C ca bs)(ho:ag (fun k=>k=C\/some g=some k) w w5)(hat:at_<=top)(hCB:C<B){i:Nat}(hi:i<ss.length)(j:Nat)(hj:j<4)(s':af){u:Value}(he:dY s'=(dY ss[i]).set j u)(hs:s'.name.size<=1000002)(hmx:n<=mx):fF C ca cc bs top mx (some g) B w (.returned (.slice (some ⟨g,0,none⟩) n y)) (w5.setCell ⟨g,i*4+j,none⟩ u):=by
 obtain ⟨h1,h2⟩:=hrow.stored (i*4+j) u;rw [show (bd ss).set (i*4+j) u=bd (ss.set i s') from (ga dY 4 (fun _=>rfl) ss i j hi hj s' u he).symm] at h1
 refine fF.mk' h1 (by simpa using hl) (fun p hp=>?_) hc hlow ho (ag.grown h2 (fun b e=>e)) hat hCB hmx (fun k e=>by cases e;exact (hrow.lt g rfl).1)
 rcases List.mem_or_eq_of_mem_set hp with hp | rfl
 ·exact hn p hp
 ·exact hs
theorem gU {g:Nat}(h:w.ownsRow B 62 4 (.slice (some ⟨g,0,none⟩) n y) n (bd ss))(hl:ss.length=n){i:Nat}(hi:i<ss.length)(j:Nat)(hj:j<4){u:Value}(hu:(dY ss[i])[j]? = some u):w.cell? ⟨g,i*4+j,none⟩=some u/\w.frozen? ⟨g,i*4+j,none⟩=false:=
 ⟨(h.cellAt (i*4+j) CG).trans ((aZ dY 4 (fun _=>rfl) ss i j hi hj).trans hu),h.frozenAt _⟩
theorem pX:(Builtin.zeroCells (Value.agg #[.string ⟨#[]⟩,.int .i64 0,.int .i64 0,.int .i64 0]).cells 60).toList=bd (List.replicate 60 ⟨⟨#[]⟩,0,0,0⟩):=CH
theorem fX (w:World)(cs:Array Value)(t:TypeId)(y:Nat):(w.alloc (.cells cs t)).cell? ⟨w.heap.size,y,none⟩=cs[y]? := cell_of_row _ _ _ _ _ _ (heap_alloc_new w _)
theorem wU {e s:Nat}{x:Option Addr}{xs:List Value}(h:w.ownsRow B e s (.slice x n y) n xs)(h0:0<n):∃ g,x=some ⟨g,0,none⟩:=by
 rcases h.2 with ⟨_,h2⟩ | ⟨g,a,b,h1,_⟩
 ·omega
 ·injection h1 with h1;exact ⟨g,h1⟩
theorem pg (C B:Nat)(ca:Option Addr)(cc:Nat)(bs:List Int)(at_:Nat)(pa:Option Addr)(np pc:Nat)(ja:Option Addr)(nj jc:Nat)(x:Option Addr)(n y:Nat)(ss:List af)(w:World)(hc:Hid (Cur w C ca cc bs at_))(hlow:Hid (eQ C ca bs))(ha:at_<=500000000)(hCB:C<B)(hBw:B<=w.heap.size)(hnp:np<=2000)(hrow:Hid (w.ownsRow B 62 4 (.slice x n y) n (bd ss)))(hl:ss.length=n)(hn:n<=200)(hnm:Hid (∀ s ∈ ss,s.name.size<=1000002)):
  Calls prog 58 #[.pointer (some ⟨C,0,none⟩),.agg #[.slice pa np pc,.slice ja nj jc],.slice x n y] w (fF C ca cc bs (at_+10) (n+60) (Value.slice x n y).ownBlock B w):=by
 have HL:=aa hl;clear hl
 go_enter func58,ntmps58
 by_cases h0:n=0
 ·have al:((n:Int)==0)=true:=by simp [h0]
  have T:Hid (∀ W,Cx w W->fF C ca cc bs (at_+10) (n+60) (Value.slice x n y).ownBlock B w (.returned (.slice x n y)) W):=fun W hW=>fF.mk' (aq hrow.out hW) HL.out hnm.out (hc.out.below hW) hlow.out (ag.of_below hW) (ag.refl _ _) CG hCB CG (fun k e=>(hrow.out.lt k e).1)
  clear h0
  go_wp2_with fail
  go_ret
  exact T.out _ blo
 have al:((n:Int)==0)=false:=by rw [beq_eq_false_iff_ne];omega
 obtain ⟨g,rfl⟩:=wU hrow.out CG
 have ad:=(hrow.out.lt g rfl).1
 go_wp2_with fail
 generalize hW:World.alloc w _=W;have ae:Cx w W:=by rw [<-hW];exact blo
 have k0:W.cell? ⟨w.heap.size,0,none⟩=some (.slice pa np pc):=by rw [<-hW];simp [go_sem]
 have E:=aa ae;obtain ⟨K0,am⟩:∃ K0,w.heap.size=K0:=⟨_,rfl⟩;have an:w.heap.size<=K0:=CG
 rw [am] at k0 ⊢;clear hW ae;refine (aJ C ca cc bs at_ n W (hc.out.below E.out) CG CG).mono ?_
 rintro e w1 ⟨i,ao,az,rfl,ap,U,M⟩;have ah:=aa U;have aj:Hid (ag (fun k=>k=C\/some g=some k) w w1):=(ag.of_below E.out).trans (M.mono (fun k hk=>Or.inl hk))
 have N:Hid (w1.ownsRow B 62 4 (.slice (some ⟨g,0,none⟩) n y) n (bd ss)):=ax (aq hrow.out E.out) (fun b hb=>M.block b ((aq hrow.out E.out).lt b hb).2 (by have:=(hrow.out.lt b hb).1;omega))
 have k1:=M.cell k0 (by show ¬ K0=C;omega)
 have ar:i<n:=CG
 have aA:(i:Int)<n:=CG
 have au:=U.lt;clear U M k0 hrow hc E
 go_wp2_with fail
 refine (aJ C ca cc bs ao 6 w1 ah CG CG).mono ?_
 rintro e w5 ⟨xx,O,aB,rfl,av,V,R⟩;have A:=aa V;have m:Hid (ag (fun k=>k=C\/some g=some k) w w5):=aj.out.trans (R.mono (fun k hk=>Or.inl hk))
 have c:Hid (w5.ownsRow B 62 4 (.slice (some ⟨g,0,none⟩) n y) n (bd ss)):=ax N.out (fun b hb=>R.block b (N.out.lt b hb).2 (by have:=(N.out.lt b hb).1;omega))
 have k5:=R.cell k1 (by show ¬ K0=C;omega)
 have aC:=V.lt;have ak:B<=w5.heap.size:=by have:=m.out.size;omega
 clear V R k1 ah aj N au;have a:Hid (i<ss.length):=by unfold Hid;rw [HL.out];exact ar
 have aw:xx=0\/xx=1\/xx=2\/xx=3\/xx=4\/xx=5:=CG
 rcases aw with rfl | rfl | rfl | rfl | rfl | rfl
 ·go_wp2_with fail
  generalize o:World.alloc w5 _=Wk;have F:Cx w5 Wk:=by rw [<-o];exact CV.alloc CW _
  have G:Hid (∀ y:Nat,y<4->∃ kv:ByteArray,Wk.cell? ⟨w5.heap.size,y,none⟩=some (.string kv)/\kv.size<=1000002):=by
   intro y hy;rw [<-o];have h7:y=0\/y=1\/y=2\/y=3:=CG
   rcases h7 with rfl | rfl | rfl | rfl
   ·exact ⟨⟨#[]⟩,(fX _ _ _ 0).trans rfl,by show (0:Nat)<=1000002;omega⟩
   ·exact ⟨⟨#[97,48]⟩,(fX _ _ _ 1).trans rfl,by show (2:Nat)<=1000002;omega⟩
   ·exact ⟨⟨#[65]⟩,(fX _ _ _ 2).trans rfl,by show (1:Nat)<=1000002;omega⟩
   ·exact ⟨⟨#[98,49]⟩,(fX _ _ _ 3).trans rfl,by show (2:Nat)<=1000002;omega⟩
  have j:=aa F;clear o F;refine (aJ C ca cc bs O 4 Wk (A.out.below j.out) CG CG).mono ?_
  rintro e w6 ⟨z,X,hz,rfl,q,f,d⟩;have Y:z<4:=CG
  obtain ⟨kv,r,ay⟩:=G.out z Y;have kc:=d.cell r (by show ¬ w5.heap.size=C;omega)
  have Z:=ai kc;dsimp only at Z;have t:Hid (ag (fun k=>k=C\/some g=some k) w w6):=(m.out.trans (ag.of_below j.out)).trans (d.mono (fun k hk=>Or.inl hk))
  have h:Hid (w6.ownsRow B 62 4 (.slice (some ⟨g,0,none⟩) n y) n (bd ss)):=ax (aq c.out j.out) (fun b hb=>d.block b ((aq c.out j.out).lt b hb).2 (by have:=(c.out.lt b hb).1;omega))
  have v:=aa f;clear r f d G;obtain ⟨sc,sz⟩:=gU h.out HL.out a.out 0 CG rfl
  rw [Nat.add_zero] at sc sz;have l:=ai sc;dsimp only at l
  go_wp2_with fail
  go_ret
  exact fF.set h.out HL.out hnm.out v.out hlow.out t.out CG hCB a.out 0 CG ⟨kv,(ss[i]'a.out).len,(ss[i]'a.out).CD,(ss[i]'a.out).CC⟩ rfl ay CG
 ·go_wp2_with fail
  refine (aJ C ca cc bs O (np+2) w5 A CG CG).mono ?_
  rintro e w6 ⟨kv,X,hz,rfl,q,f,d⟩;have t:Hid (ag (fun k=>k=C\/some g=some k) w w6):=m.out.trans (d.mono (fun k hk=>Or.inl hk))
  have h:Hid (w6.ownsRow B 62 4 (.slice (some ⟨g,0,none⟩) n y) n (bd ss)):=ax c.out (fun b hb=>d.block b (c.out.lt b hb).2 (by have:=(c.out.lt b hb).1;omega))
  have v:=aa f;have r:(kv:Int)<(np+2):=CG
  clear f d;obtain ⟨sc,sz⟩:=gU h.out HL.out a.out 1 CG rfl
  have l:=ai sc;dsimp only at l
  go_wp2_with fail
  go_ret
  exact fF.set h.out HL.out hnm.out v.out hlow.out t.out CG hCB a.out 1 CG ⟨(ss[i]'a.out).name,(kv:Int)-1,(ss[i]'a.out).CD,(ss[i]'a.out).CC⟩ rfl (hnm.out (ss[i]'a.out) (List.getElem_mem a.out)) CG
 ·go_wp2_with fail
  generalize o:World.alloc w5 _=Wk;have F:Cx w5 Wk:=by rw [<-o];exact CV.alloc CW _
  have G:Hid (∀ y:Nat,y<4->∃ kv:Int,Wk.cell? ⟨w5.heap.size,y,none⟩=some (.int .i64 kv)):=by
   intro y hy;rw [<-o];have h7:y=0\/y=1\/y=2\/y=3:=CG
   rcases h7 with rfl | rfl | rfl | rfl
   ·exact ⟨0,(fX _ _ _ 0).trans rfl⟩
   ·exact ⟨1,(fX _ _ _ 1).trans rfl⟩
   ·exact ⟨-1,(fX _ _ _ 2).trans rfl⟩
   ·exact ⟨100000,(fX _ _ _ 3).trans rfl⟩
  have j:=aa F;clear o F;refine (aJ C ca cc bs O 4 Wk (A.out.below j.out) CG CG).mono ?_
  rintro e w6 ⟨z,X,hz,rfl,q,f,d⟩;have Y:z<4:=CG
  obtain ⟨kv,r⟩:=G.out z Y;have kc:=d.cell r (by show ¬ w5.heap.size=C;omega)
  have Z:=ai kc;dsimp only at Z;have t:Hid (ag (fun k=>k=C\/some g=some k) w w6):=(m.out.trans (ag.of_below j.out)).trans (d.mono (fun k hk=>Or.inl hk))
  have h:Hid (w6.ownsRow B 62 4 (.slice (some ⟨g,0,none⟩) n y) n (bd ss)):=ax (aq c.out j.out) (fun b hb=>d.block b ((aq c.out j.out).lt b hb).2 (by have:=(c.out.lt b hb).1;omega))
  have v:=aa f;clear r f d G;obtain ⟨sc,sz⟩:=gU h.out HL.out a.out 2 CG rfl
  have l:=ai sc;dsimp only at l
  go_wp2_with fail
  go_ret
  exact fF.set h.out HL.out hnm.out v.out hlow.out t.out CG hCB a.out 2 CG ⟨(ss[i]'a.out).name,(ss[i]'a.out).len,kv,(ss[i]'a.out).CC⟩ rfl (hnm.out (ss[i]'a.out) (List.getElem_mem a.out)) CG
 ·go_wp2_with fail
  refine (aJ C ca cc bs O 4 w5 A CG CG).mono ?_
  rintro e w6 ⟨kv,X,hz,rfl,q,f,d⟩;have t:Hid (ag (fun k=>k=C\/some g=some k) w w6):=m.out.trans (d.mono (fun k hk=>Or.inl hk))
  have h:Hid (w6.ownsRow B 62 4 (.slice (some ⟨g,0,none⟩) n y) n (bd ss)):=ax c.out (fun b hb=>d.block b (c.out.lt b hb).2 (by have:=(c.out.lt b hb).1;omega))
  have v:=aa f;have r:(kv:Int)<4:=CG
  clear f d;obtain ⟨sc,sz⟩:=gU h.out HL.out a.out 3 CG rfl
  have l:=ai sc;dsimp only at l
  go_wp2_with fail
  go_ret
  exact fF.set h.out HL.out hnm.out v.out hlow.out t.out CG hCB a.out 3 CG ⟨(ss[i]'a.out).name,(ss[i]'a.out).len,(ss[i]'a.out).CD,(kv:Int)-2⟩ rfl (hnm.out (ss[i]'a.out) (List.getElem_mem a.out)) CG
 ·have D:0<ss.length:=by rw [HL.out];omega
  have s0:=(gU c.out HL.out D 0 CG rfl).1
  have s1:=(gU c.out HL.out D 1 CG rfl).1
  have s2:=(gU c.out HL.out D 2 CG rfl).1
  have s3:=(gU c.out HL.out D 3 CG rfl).1
  rw [Nat.zero_mul,Nat.zero_add] at s0 s1 s2 s3;have H:=hnm.out _ (List.getElem_mem D);generalize ss[0]'D=p at s0 s1 s2 s3 H;have l:=ai s0;dsimp only at l;have aD:(0:Int)<n:=CG
  have I:Hid (∀ (w':World) (x':Option Addr) (y':Nat),w5.grownBy w' (some g)->w'.ownsRow B 62 4 (.slice x' (n+1) y') (n+1) (bd ss++[.string p.name,.int .i64 p.len,.int .i64 p.CD,.int .i64 p.CC])->fF C ca cc bs (at_+10) (n+60) (some g) B w (.returned (.slice x' (n+1) y')) w'):=by
   intro w' x' y' hg ho;have ho:w'.ownsRow B 62 4 (.slice x' (n+1) y') (n+1) (bd (ss++[p])):=by rw [<-eK];exact ho
   refine fF.mk' ho (by rw [List.length_append,HL.out];rfl) (fun s hs=>?_) A.out hlow.out m.out (ag.grown hg (fun b e=>e)) CG hCB CG (fun k e=>by cases e;exact ad)
   rcases List.mem_append.1 hs with hs | hs
   ·exact hnm.out s hs
   ·have:s=p:=by simpa using hs
    rw [this];exact H
  go_wp2_with (at_builtin;refine aU (Wp:=w5) rfl (.tmp 64) (.tmp 68) 27 rfl B 62 _ 4 40 underlying27 Tryz.infoSignal rfl CJ (.slice (some ⟨g,0,none⟩) n y) n (bd ss) rfl c.out w5.heap.size rfl [.string p.name,.int .i64 p.len,.int .i64 p.CD,.int .i64 p.CC] rfl rfl CL CK CG ak ?_;intro x8 y8 w8 J L;have ab:=aa (I.out w8 x8 y8 L J);clear J L)
  go_ret
  exact ab.out
 ·have HZ:Hid (∀ (w':World) (x':Option Addr) (y':Nat),w5.grownBy w' (some g)->w'.ownsRow B 62 4 (.slice x' (n+60) y') (n+60) (bd ss++(Builtin.zeroCells (Value.agg #[.string ⟨#[]⟩,.int .i64 0,.int .i64 0,.int .i64 0]).cells 60).toList)->fF C ca cc bs (at_+10) (n+60) (some g) B w (.returned (.slice x' (n+60) y')) w'):=by
   intro w' x' y' hg ho;have ho:w'.ownsRow B 62 4 (.slice x' (n+60) y') (n+60) (bd (ss++List.replicate 60 ⟨⟨#[]⟩,0,0,0⟩)):=by rw [pX] at ho;unfold bd at ho ⊢;rw [List.flatMap_append];exact ho
   refine fF.mk' ho (by rw [List.length_append,HL.out,List.length_replicate]) (fun s hs=>?_) A.out hlow.out m.out (ag.grown hg (fun b e=>e)) CG hCB CG (fun k e=>by cases e;exact ad)
   rcases List.mem_append.1 hs with hs | hs
   ·exact hnm.out s hs
   ·have:s=⟨⟨#[]⟩,0,0,0⟩:=(List.mem_replicate.1 hs).2;rw [this];show (0:Nat)<=1000002;omega
  have ac:Hid (∀ u ∈ (Builtin.zeroCells (Value.agg #[.string ⟨#[]⟩,.int .i64 0,.int .i64 0,.int .i64 0]).cells 60).toList,u.oneCell'=true):=by
   unfold Hid;rw [pX];intro u hu;obtain ⟨s,hs,hu⟩:=List.mem_flatMap.1 hu;simp [dY] at hu;rcases hu with rfl | rfl | rfl | rfl <;> rfl
  go_wp2_with (at_builtin;refine s7 rfl (.tmp 20) (.const (.int .i64 60)) 27 3 rfl B 62 _ 4 40 underlying27 underlying3 Tryz.infoSignal rfl CJ ac.out CJ g y n (bd ss) rfl rfl c.out CK CG ak ?_;intro x8 y8 w8 J L;have ab:=aa (HZ.out w8 x8 y8 L J);clear J L)
  go_ret
  exact ab.out
end Go.Proofs.YtmkdgnmmebldgaaGreatDoor
