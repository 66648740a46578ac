import Derived.Test.YtmkdgnmmebldgaaGreatDoorPt40
import Derived.Laws.AppendOwn
set_option maxRecDepth 100000
set_option maxHeartbeats 8000000
namespace Go.Proofs.YtmkdgnmmebldgaaGreatDoor
open Go.RowKit Go.Deep
theorem run_append_zeros {P:Program}(w:World)(base:Nat)(t u ty e:TypeId)(i:TypeInfo)(z:Value)(ht:P.underlying t=some (.slice e))(hu:P.underlying u=some (.int .i64))(hi:P.info? e=some i)(hz:i.zero=some z)
  (hzs:z.cells.size=i.size) (hsz:0<i.size) (h1:∀ u ∈ (Builtin.zeroCells z.cells 60).toList,u.oneCell'=true) (hbb:i.bytes≤1000)
  (g cap n:Nat) (xs:List Value) (hown:w.ownsRow base e i.size (.slice (some ⟨g,0,none⟩) n cap) n xs) (h63:n+60≤maxLen) (hbytes:(n+60)*i.bytes≤140737488355328) (hbase:base≤w.heap.size) :
  ∃ x' y' w',(Builtin.append_ #[t,u] ty #[.slice (some ⟨g,0,none⟩) n cap,.int .i64 60]).run P w = .ok (.slice x' (n+60) y') w'∧w'.ownsRow base e i.size (.slice x' (n+60) y') (n+60) (xs++(Builtin.zeroCells z.cells 60).toList)∧w.grownBy w' (some g):=by
 have hsmall:n+60≤9223372036854775807:=by simp only [maxLen] at h63;omega
 obtain ⟨news,hnews⟩:∃ news,(Builtin.zeroCells z.cells 60).toList=news:=⟨_,rfl⟩
 have hnewsA:Builtin.zeroCells z.cells 60=news.toArray:=by rw [← hnews]
 rw [hnews] at h1 ⊢
 have hl:news.length=60*i.size:=by rw [← hnews,Array.length_toList,size_zeroCells,hzs]
 have hlen:(xs++news).length=(n+60)*i.size:=by rw [List.length_append,hown.1,hl,Nat.add_mul]
 have hw:IntKind.i64.wrap 60=60:=by decide
 have h48a:¬ (281474976710656:Int)<60*(i.bytes:Int):=by omega
 have hnz:¬ 60*i.size=0:=by omega
 rcases hown.2 with ⟨h,_⟩ | ⟨g',cap',cur,h,hbg,hg,hnc,hcm,hcs,htake⟩
 ·cases h
 ·cases h
  by_cases hroom:n+60≤cap
  ·have hfit:n*i.size+news.length≤cur.size:=by rw [hl,hcs,← Nat.add_mul];exact Nat.mul_le_mul_right _ hroom
   have hst:=run_storeCells_at P g (n*i.size) e news 0 cur w hg (by simpa using hfit) h1
   simp only [Nat.add_zero] at hst
   refine ⟨some ⟨g,0,none⟩,cap,w.setRow g (cur.toList.take (n*i.size)++news++cur.toList.drop (n*i.size+news.length)).toArray,?_,⟨hlen,.inr ⟨g,cap,_,rfl,hbg,setRow_heap w g cur _ e _ hg,hroom,hcm,?_,?_⟩⟩,⟨rfl,rfl,rfl,by simp,fun k _ hk=>setRow_other w g k _ (fun e=>hk (by simp [e]))⟩⟩
   ·simp [Builtin.append_,run_underlying ht,run_underlying hu,sizeOf,typeInfo,zeroValue,hi,hz,asInt,asIntOf,hw,h48a,hnz,hroom,Addr.add_lit,hnewsA,hst]
   ·simp only [List.size_toArray,List.length_append,List.length_take,List.length_drop,Array.length_toList]
    omega
   ·rw [htake,← hlen]
    exact List.take_left
  ·have holds:∀ j u,xs[j]? = some u→w.cell? ((⟨g,0,none⟩:Addr).add j)=some u:=hown.cells (g:=g) rfl
   have hfo:=run_firstCells_some (P:=P) w.drew i.size n ⟨g,0,none⟩ n cap xs hown.1 (by simpa using holds)
   have h48':¬ (281474976710656<Builtin.nextslicecap (n+60) cap*i.bytes):=by have:=growslice_fits (need:=n+60) (old:=cap) (by omega) hbytes;omega
   have hge:=grownCap_ge w (n+60) cap e
   have hcm:grownCap w (n+60) cap e≤maxLen:=grownCap_le_maxLen w (n+60) cap e h63
   refine ⟨some ⟨w.heap.size,0,none⟩,grownCap w (n+60) cap e,w.drew.alloc (.cells (xs.toArray++news.toArray++Builtin.zeroCells z.cells (grownCap w (n+60) cap e-(n+60))) e),?_,⟨hlen,.inr ⟨w.heap.size,_,_,rfl,hbase,heap_alloc_new w.drew _,hge,hcm,?_,?_⟩⟩,⟨rfl,rfl,rfl,by simp,fun k hk _=>Below.heap_alloc w.drew _ k hk⟩⟩
   ·simp [Builtin.append_,run_underlying ht,run_underlying hu,sizeOf,typeInfo,zeroValue,hi,hz,asInt,asIntOf,hw,h48a,hnz,hroom,h48',Question.forced,hfo,hnewsA,newRow,grownCap]
    rw [if_neg (show ¬ (9223372036854775807:Int)<(n:Int)+max 60 0 by omega)]
    congr 2
    congr 1
    apply Array.ext'
    simp [List.append_assoc]
   ·simp only [Array.size_append,List.size_toArray,size_zeroCells,hzs,hown.1,hl,← Nat.add_mul]
    congr 1
    omega
   ·simp only [Array.toList_append,List.append_assoc]
    rw [← List.append_assoc,← hlen]
    exact List.take_left
theorem wpList_zeros {P:Program}{w:World}{ops:Array Oper}{rest:List Oper}{o:Oper}{a:Act}{Q:Exit→Act→World→Prop}(hgd:o.guard=none)(s x:Operand)(t u:TypeId)
  (ho:o.op = .call { callee:=.builtin .append,args:=#[s,x],argTypes:=#[t,u] })
  (base:Nat) (e:TypeId) (z:Value) (size bytes:Nat) (ht:P.underlying t=some (.slice e)) (hu:P.underlying u=some (.int .i64)) (hi:(P.info? e).map (fun i=>(i.zero,i.size,i.bytes))=some (some z,size,bytes))
  (hzs:z.cells.size=size) (hsz:0<size) (h1:∀ u ∈ (Builtin.zeroCells z.cells 60).toList,u.oneCell'=true) (hbb:bytes≤1000)
  (g cap n:Nat) (xs:List Value) (hs:a.eval s = .slice (some ⟨g,0,none⟩) n cap) (hx:a.eval x = .int .i64 60) (hown:w.ownsRow base e size (.slice (some ⟨g,0,none⟩) n cap) n xs) (h63:n+60≤maxLen) (hbytes:(n+60)*bytes≤140737488355328) (hbase:base≤w.heap.size)
  (h:∀ x' y' w',w'.ownsRow base e size (.slice x' (n+60) y') (n+60) (xs++(Builtin.zeroCells z.cells 60).toList)→w.grownBy w' (some g)→wpList P ops Q rest (a.put o.dst (.slice x' (n+60) y')) w'):wpList P ops Q (o::rest) a w:=by
 obtain ⟨i,hi1,hi2,hi3,hi4⟩:=info_parts hi
 subst hi3 hi4
 obtain ⟨x',y',w',hr,h2,h3⟩:=run_append_zeros (P:=P) w base t u o.type e i z ht hu hi1 hi2 hzs hsz h1 hbb g cap n xs hown h63 hbytes hbase
 refine wpList_plain hgd fun K hK=>?_
 unfold Oper.wp execOp
 simp only [ho,resolve,invoke,builtin,Sem.run_bind,Sem.run_pure,Result.andThen_ok,List.map_toArray,List.map_cons,List.map_nil,hs,hx,hr]
 exact hK _ _ (h x' y' w' h2 h3)
def ownJ (x:MJ):Option Nat:=(Value.slice x.1 x.2.2.ends.length x.2.1).ownBlock
def EndsO (w:World)(N:Nat)(x:MJ):Prop:=w.ownsRow N 114 2 (.slice x.1 x.2.2.ends.length x.2.1) x.2.2.ends.length (flatE x.2.2.ends)∧x.2.2.ends.length≤5
theorem EndsO.kept {w w':World}{N:Nat}{x:MJ}(h:EndsO w N x)(hk:∀ b,N≤b→IsT w 114 b→w'.heap[b]? = w.heap[b]?):EndsO w' N x:=
 ⟨owns_kept2 h.1 (fun b hb=>hk b (h.1.lt b hb).1 (owns_isT h.1 hb)),h.2⟩
theorem EndsO.base {w:World}{N M:Nat}{x:MJ}(h:EndsO w N x)(hM:M≤N):EndsO w M x:=⟨owns_base h.1 hM,h.2⟩
structure NetG (w:World)(C N B:Nat)(xp:Option Addr)(yp:Nat)(xj:Option Addr)(yj:Nat)(ps:List MPiece)(js:List MJ):Prop where
 cn:C<N
 nb:N<B
 c0:w.cell? ⟨N,0,none⟩=some (.slice xp ps.length yp)
 c1:w.cell? ⟨N,1,none⟩=some (.slice xj js.length yj)
 z:∀ o,w.frozen? ⟨N,o,none⟩=false
 op:w.ownsRow B 133 4 (.slice xp ps.length yp) ps.length (flatPc ps)
 oj:w.ownsRow B 109 3 (.slice xj js.length yj) js.length (flatJ js)
 je:∀ x ∈ js,EndsO w B x
 ap:js.Pairwise (fun a b=>ownJ a=none∨ownJ a≠ownJ b)
 pn:∀ p ∈ ps,p.name.size≤maxLen
 jn:∀ x ∈ js,x.2.2.name.size≤maxLen
section
variable {w w':World} {C N B:Nat} {xp xj:Option Addr} {yp yj:Nat} {ps:List MPiece} {js:List MJ}
theorem NetG.lt (h:NetG w C N B xp yp xj yj ps js):N<w.heap.size:=cellLt h.c0
theorem NetG.kept (h:NetG w C N B xp yp xj yj ps js)(hN:w'.heap[N]? = w.heap[N]?)(hk:∀ b,B≤b→b<w.heap.size→w'.heap[b]? = w.heap[b]?):NetG w' C N B xp yp xj yj ps js:=by
 refine ⟨h.cn,h.nb,(World.cell?_of_block (w:=w) hN).trans h.c0,(World.cell?_of_block (w:=w) hN).trans h.c1,fun o=>?_,owns_kept2 h.op (fun b hb=>hk b (h.op.lt b hb).1 (h.op.lt b hb).2),owns_kept2 h.oj (fun b hb=>hk b (h.oj.lt b hb).1 (h.oj.lt b hb).2),fun x hx=>(h.je x hx).kept (fun b h1 h2=>hk b h1 h2.lt),h.ap,h.pn,h.jn⟩
 exact (World.frozen?_of_block (w:=w) hN).trans (h.z o)
theorem NetG.below (h:NetG w C N B xp yp xj yj ps js)(hb:Below w.heap.size w w'):NetG w' C N B xp yp xj yj ps js:=h.kept (hb.block N h.lt) (fun b _ hz=>hb.block b hz)
theorem NetG.only (h:NetG w C N B xp yp xj yj ps js)(hb:Only (fun k=>k=C) w w'):NetG w' C N B xp yp xj yj ps js:=h.kept (hb.block N h.lt (by have:=h.cn;omega)) (fun b h1 hz=>hb.block b hz (by have:=h.cn;have:=h.nb;omega))
theorem NetG.pushP (h:NetG w C N B xp yp xj yj ps js){p:MPiece}{x':Option Addr}{y':Nat}(hg:w.grownBy w' (Value.slice xp ps.length yp).ownBlock)(ho:w'.ownsRow B 133 4 (.slice x' (ps.length+1) y') (ps.length+1) (flatPc (ps++[p])))(hp:p.name.size≤maxLen):
  NetG (w'.setCell ⟨N,0,none⟩ (.slice x' (ps.length+1) y')) C N B x' y' xj yj (ps++[p]) js:=by
 have hl:=h.lt
 have hN:w'.heap[N]? = w.heap[N]? := hg.block N h.lt (fun e=>by have:=(h.op.lt N e.symm).1;have:=h.nb;omega)
 have el:(ps++[p]).length=ps.length+1:=by simp
 have hset:∀ b,N≠b→(w'.setCell ⟨N,0,none⟩ (.slice x' (ps.length+1) y')).heap[b]? = w'.heap[b]? := fun b hb=>Below.heap_setCell _ _ _ _ (fun e=>hb e.symm)
 refine ⟨h.cn,h.nb,?_,?_,fun o=>?_,?_,?_,fun x hx=>?_,h.ap,?_,h.jn⟩
 ·rw [el]
  exact World.cell?_setCell_same _ _ _ ((World.cell?_of_block (w:=w) hN).trans h.c0)
 ·rw [World.cell?_setCell_other _ _ _ _ (by simp)]
  exact (World.cell?_of_block (w:=w) hN).trans h.c1
 ·rw [World.frozen?_setCell]
  exact (World.frozen?_of_block (w:=w) hN).trans (h.z o)
 ·rw [el]
  exact ownsRow_setCell_below ho h.nb _
 ·refine ownsRow_setCell_below (owns_kept2 h.oj (fun b hb=>hg.block b (h.oj.lt b hb).2 (fun e=>?_))) h.nb _
  rcases owns_ne (e:=109) (e':=133) (by decide) h.oj h.op with h1 | h1
  ·rw [h1] at hb;cases hb
  ·exact h1 (hb.trans e)
 ·refine (h.je x hx).kept (fun b h1 h2=>(hset b (by have:=h.nb;omega)).trans (hg.block b h2.lt (fun e=>h2.ne h.op (by decide) e.symm)))
 ·intro q hq
  rcases List.mem_append.1 hq with hq | hq
  ·exact h.pn q hq
  ·have:q=p:=by simpa using hq
   rw [this];exact hp
theorem NetG.pushJ (h:NetG w C N B xp yp xj yj ps js){x:MJ}{x':Option Addr}{y':Nat}(hg:w.grownBy w' (Value.slice xj js.length yj).ownBlock)(ho:w'.ownsRow B 109 3 (.slice x' (js.length+1) y') (js.length+1) (flatJ (js++[x])))(hx:x.2.2.name.size≤maxLen)(hE:EndsO w B x)(hap:∀ y ∈ js,ownJ y=none∨ownJ y≠ownJ x):
  NetG (w'.setCell ⟨N,1,none⟩ (.slice x' (js.length+1) y')) C N B xp yp x' y' ps (js++[x]):=by
 have hl:=h.lt
 have hN:w'.heap[N]? = w.heap[N]? := hg.block N h.lt (fun e=>by have:=(h.oj.lt N e.symm).1;have:=h.nb;omega)
 have el:(js++[x]).length=js.length+1:=by simp
 have hset:∀ b,N≠b→(w'.setCell ⟨N,1,none⟩ (.slice x' (js.length+1) y')).heap[b]? = w'.heap[b]? := fun b hb=>Below.heap_setCell _ _ _ _ (fun e=>hb e.symm)
 have hend:∀ b,B≤b→IsT w 114 b→(w'.setCell ⟨N,1,none⟩ (.slice x' (js.length+1) y')).heap[b]? = w.heap[b]? := fun b h1 h2=>(hset b (by have:=h.nb;omega)).trans (hg.block b h2.lt (fun e=>h2.ne h.oj (by decide) e.symm))
 refine ⟨h.cn,h.nb,?_,?_,fun o=>?_,?_,?_,fun z hz=>?_,?_,h.pn,?_⟩
 ·rw [World.cell?_setCell_other _ _ _ _ (by simp)]
  exact (World.cell?_of_block (w:=w) hN).trans h.c0
 ·rw [el]
  exact World.cell?_setCell_same _ _ _ ((World.cell?_of_block (w:=w) hN).trans h.c1)
 ·rw [World.frozen?_setCell]
  exact (World.frozen?_of_block (w:=w) hN).trans (h.z o)
 ·refine ownsRow_setCell_below (owns_kept2 h.op (fun b hb=>hg.block b (h.op.lt b hb).2 (fun e=>?_))) h.nb _
  rcases owns_ne (e:=133) (e':=109) (by decide) h.op h.oj with h1 | h1
  ·rw [h1] at hb;cases hb
  ·exact h1 (hb.trans e)
 ·rw [el]
  exact ownsRow_setCell_below ho h.nb _
 ·rcases List.mem_append.1 hz with hz | hz
  ·exact (h.je z hz).kept hend
  ·have:z=x:=by simpa using hz
   rw [this];exact hE.kept hend
 ·exact List.pairwise_append.2 ⟨h.ap,List.pairwise_singleton _ _,fun a ha b hb=>by
   have:b=x:=by simpa using hb
   rw [this];exact hap a ha⟩
 ·intro q hq
  rcases List.mem_append.1 hq with hq | hq
  ·exact h.jn q hq
  ·have:q=x:=by simpa using hq
   rw [this];exact hx
end
theorem NetG.rowJ {w w':World}{C N B:Nat}{xp xj:Option Addr}{yp yj:Nat}{ps:List MPiece}{js:List MJ}(h:NetG w C N B xp yp xj yj ps js)(hg:w.grownBy w' (Value.slice xj js.length yj).ownBlock):w'.cell? ⟨N,1,none⟩=some (.slice xj js.length yj)∧w'.frozen? ⟨N,1,none⟩=false:=by
 have hN:w'.heap[N]? = w.heap[N]? := hg.block N h.lt (fun e=>by have:=(h.oj.lt N e.symm).1;have:=h.nb;omega)
 exact ⟨(World.cell?_of_block (w:=w) hN).trans h.c1,(World.frozen?_of_block (w:=w) hN).trans (h.z 1)⟩
theorem NetG.rowP {w w':World}{C N B:Nat}{xp xj:Option Addr}{yp yj:Nat}{ps:List MPiece}{js:List MJ}(h:NetG w C N B xp yp xj yj ps js)(hg:w.grownBy w' (Value.slice xp ps.length yp).ownBlock):w'.cell? ⟨N,0,none⟩=some (.slice xp ps.length yp)∧w'.frozen? ⟨N,0,none⟩=false:=by
 have hN:w'.heap[N]? = w.heap[N]? := hg.block N h.lt (fun e=>by have:=(h.op.lt N e.symm).1;have:=h.nb;omega)
 exact ⟨(World.cell?_of_block (w:=w) hN).trans h.c0,(World.frozen?_of_block (w:=w) hN).trans (h.z 0)⟩
theorem piecesAtG {w:World}{N:Nat}{x:Option Addr}{y:Nat}{ps:List MPiece}(h:w.ownsRow N 133 4 (.slice x ps.length y) ps.length (flatPc ps))(hn:∀ p ∈ ps,p.name.size≤maxLen):PiecesAt w x ps:=by
 rcases h.2 with ⟨h1,h2⟩ | ⟨g,cap,cur,h1,h2,h3,h4,h5,_⟩
 ·have:ps=[]:=List.eq_nil_of_length_eq_zero h2
  subst this
  exact ⟨Nat.zero_le _,fun p hp=>(by cases hp),Or.inl rfl⟩
 ·cases h1
  refine ⟨Nat.le_trans h4 h5,hn,Or.inr ⟨g,0,rfl,fun i hi=>?_⟩⟩
  have hc:=h.cells (g:=g) rfl
  have hg:∀ j,j<4→∀ u,(encPc ps[i])[j]? = some u→w.cell? ⟨g,0+i*4+j,none⟩=some u:=by
   intro j hj u hu
   have:=hc (i*4+j) u ((flat_get encPc 4 (fun _=>rfl) ps i j hi hj).trans hu)
   rw [addr_at] at this
   have e:0+(i*4+j)=0+i*4+j:=by omega
   rw [e] at this
   exact this
  exact ⟨hg 0 (by omega) _ rfl,hg 1 (by omega) _ rfl,hg 2 (by omega) _ rfl,hg 3 (by omega) _ rfl⟩
theorem jointsAtG {w:World}{N:Nat}{x:Option Addr}{y:Nat}{js:List MJ}(h:w.ownsRow N 109 3 (.slice x js.length y) js.length (flatJ js))(hn:∀ z ∈ js,z.2.2.name.size≤maxLen)(he:∀ z ∈ js,EndsAt w z.1 z.2.2.ends):JointsAt w x (js.map (fun z=>z.2.2)):=by
 rcases h.2 with ⟨h1,h2⟩ | ⟨g,cap,cur,h1,h2,h3,h4,h5,_⟩
 ·have:js=[]:=List.eq_nil_of_length_eq_zero h2
  subst this
  exact ⟨Nat.zero_le _,fun p hp=>(by cases hp),Or.inl rfl⟩
 ·cases h1
  refine ⟨by rw [List.length_map];exact Nat.le_trans h4 h5,fun p hp=>?_,Or.inr ⟨g,0,rfl,fun i hi=>?_⟩⟩
  ·obtain ⟨z,hz,rfl⟩:=List.mem_map.1 hp
   exact hn z hz
  ·rw [List.length_map] at hi
   have hc:=h.cells (g:=g) rfl
   have hg:∀ j,j<3→∀ u,(encJ js[i])[j]? = some u→w.cell? ⟨g,0+i*3+j,none⟩=some u:=by
    intro j hj u hu
    have:=hc (i*3+j) u ((flat_get encJ 3 (fun _=>rfl) js i j hi hj).trans hu)
    rw [addr_at] at this
    have e:0+(i*3+j)=0+i*3+j:=by omega
    rw [e] at this
    exact this
   rw [List.getElem_map]
   exact ⟨hg 0 (by omega) _ rfl,hg 1 (by omega) _ rfl,_,_,hg 2 (by omega) _ rfl,he js[i] (List.getElem_mem hi)⟩
structure InK (w2 wi:World)(J q:Nat)(kd:Int)(nm:ByteArray)(xe:Option Addr)(ye:Nat)(es:List MEnd):Prop where
 c0:wi.cell? ⟨J,0,none⟩=some (.int .i64 kd)
 c1:wi.cell? ⟨J,1,none⟩=some (.string nm)
 c2:wi.cell? ⟨J,2,none⟩=some (.slice xe q ye)
 z:∀ o,wi.frozen? ⟨J,o,none⟩=false
 len:es.length=q
 own:wi.ownsRow (J+1) 114 2 (.slice xe q ye) q (flatE es)
 base:Below J w2 wi
theorem InK.lt {w2 wi:World}{J q:Nat}{kd:Int}{nm:ByteArray}{xe:Option Addr}{ye:Nat}{es:List MEnd}(h:InK w2 wi J q kd nm xe ye es):J<wi.heap.size:=cellLt h.c0
theorem InK.below {w2 wi wi':World}{J q:Nat}{kd:Int}{nm:ByteArray}{xe:Option Addr}{ye:Nat}{es:List MEnd}(h:InK w2 wi J q kd nm xe ye es)(hb:Below wi.heap.size wi wi'):InK w2 wi' J q kd nm xe ye es:=
 ⟨cell_later hb h.c0,cell_later hb h.c1,cell_later hb h.c2,fun o=>(hb.frozen (p:=⟨J,o,none⟩) h.lt).trans (h.z o),h.len,owns_below h.own hb,h.base.trans (hb.mono (Nat.le_of_lt h.lt))⟩
theorem InK.push {w2 wi w':World}{J q:Nat}{kd:Int}{nm:ByteArray}{xe x':Option Addr}{ye y':Nat}{es:List MEnd}(h:InK w2 wi J q kd nm xe ye es){e:MEnd}(hg:wi.grownBy w' (Value.slice xe q ye).ownBlock)(ho:w'.ownsRow (J+1) 114 2 (.slice x' (q+1) y') (q+1) (flatE (es++[e]))):
  InK w2 (w'.setCell ⟨J,2,none⟩ (.slice x' (q+1) y')) J (q+1) kd nm x' y' (es++[e]):=by
 have hJ:w'.heap[J]? = wi.heap[J]? := hg.block J h.lt (fun e=>by have:=(h.own.lt J e.symm).1;omega)
 refine ⟨?_,?_,World.cell?_setCell_same _ _ _ ((World.cell?_of_block (w:=wi) hJ).trans h.c2),fun o=>?_,by simp [h.len],ownsRow_setCell_below ho (Nat.lt_succ_self J) _,?_⟩
 ·rw [World.cell?_setCell_other _ _ _ _ (by simp)]
  exact (World.cell?_of_block (w:=wi) hJ).trans h.c0
 ·rw [World.cell?_setCell_other _ _ _ _ (by simp)]
  exact (World.cell?_of_block (w:=wi) hJ).trans h.c1
 ·rw [World.frozen?_setCell]
  exact (World.frozen?_of_block (w:=wi) hJ).trans (h.z o)
 ·refine (h.base.trans ⟨hg.os,hg.tape,hg.output,hg.size,fun k hk=>hg.block k (by have:=h.lt;omega) (fun e=>by have:=(h.own.lt k e.symm).1;omega)⟩).trans ⟨rfl,rfl,rfl,by simp,fun k hk=>Below.heap_setCell _ _ _ _ (show k≠J by omega)⟩
theorem InK.ends {w2 wi:World}{J N q:Nat}{kd:Int}{nm:ByteArray}{xe:Option Addr}{ye:Nat}{es:List MEnd}(h:InK w2 wi J q kd nm xe ye es)(hN:N<J)(hq:q≤4)(kk:Int):EndsO wi (N+1) (xe,ye,⟨kk,nm,es⟩):=by
 have hl:=h.len
 exact ⟨by rw [show (es:List MEnd).length=q from hl];exact owns_base h.own (by omega),by show es.length≤5;omega⟩
structure OwnNet (w:World)(B:Nat)(xp:Option Addr)(yp:Nat)(xj:Option Addr)(yj:Nat)(ps:List MPiece)(js:List MJ):Prop where
 op:w.ownsRow B 133 4 (.slice xp ps.length yp) ps.length (flatPc ps)
 oj:w.ownsRow B 109 3 (.slice xj js.length yj) js.length (flatJ js)
 je:∀ x ∈ js,EndsO w B x
 ap:js.Pairwise (fun a b=>ownJ a=none∨ownJ a≠ownJ b)
end Go.Proofs.YtmkdgnmmebldgaaGreatDoor
