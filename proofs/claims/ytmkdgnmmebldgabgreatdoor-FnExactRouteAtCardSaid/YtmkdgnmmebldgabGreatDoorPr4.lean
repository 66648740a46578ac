import Derived.Test.YtmkdgnmmebldgabGreatDoorPr3
set_option maxRecDepth 100000
set_option maxHeartbeats 8000000
namespace Go.Proofs.YtmkdgnmmebldgabGreatDoor
open Go.RowKit Go.Deep
theorem Tryz.infoStep:(Tryz.prog.info? 166).map (fun i=>(i.zero,i.size,i.bytes))=some (some (.agg #[.int .i64 0,.int .i64 0]),2,16):=by kernel_rfl
theorem Tryz.infoLie:(Tryz.prog.info? 109).map (fun i=>(i.zero,i.size,i.bytes))=some (some (.agg #[.int .i64 0,.int .i64 0]),2,16):=by kernel_rfl
theorem Tryz.infoInt:(Tryz.prog.info? 3).map (fun i=>(i.zero,i.size,i.bytes))=some (some (.int .i64 0),1,8):=by kernel_rfl
theorem Tryz.infoPart:(Tryz.prog.info? 185).map (fun i=>(i.zero,i.size,i.bytes))=some (some (.agg #[.int .i64 0,.int .i64 0,.int .i64 0]),3,24):=by kernel_rfl
theorem Tryz.infoFlank:(Tryz.prog.info? 133).map (fun i=>(i.zero,i.size,i.bytes))=some (some (.agg #[.int .i64 0,.int .i64 0,.int .i64 0,.int .i64 0]),4,32):=by kernel_rfl
theorem Tryz.infoRoute:(Tryz.prog.info? 81).map (fun i=>(i.zero,i.size,i.bytes))=some (some (.agg #[.int .i64 0,.int .i64 0,.slice none 0 0,.slice none 0 0,.slice none 0 0,.slice none 0 0,.slice none 0 0,.slice none 0 0]),8,160):=by kernel_rfl
theorem owns_ne {w:World}{b b' e e' s s' n n':Nat}{v v':Value}{xs xs':List Value}(he:e≠e')(h:w.ownsRow b e s v n xs)(h':w.ownsRow b' e' s' v' n' xs'):v.ownBlock=none∨v.ownBlock≠v'.ownBlock:=by
 rcases h.2 with ⟨rfl,_⟩ | ⟨g,cap,cur,rfl,_,hg,_⟩
 ·exact Or.inl rfl
 ·right
  rcases h'.2 with ⟨rfl,_⟩ | ⟨g',cap',cur',rfl,_,hg',_⟩
  ·simp [Value.ownBlock]
  ·simp only [Value.ownBlock,ne_eq,Option.some.injEq]
   intro e1
   subst e1
   rw [hg] at hg'
   simp only [Option.some.injEq,Obj.cells.injEq] at hg'
   exact he hg'.2.1
theorem owns_base {w:World}{B B' e s n:Nat}{v:Value}{xs:List Value}(h:w.ownsRow B e s v n xs)(hB:B'≤B):w.ownsRow B' e s v n xs:=by
 refine ⟨h.1,?_⟩
 rcases h.2 with h2 | ⟨g,cap,cur,h1,h2,h3⟩
 ·exact Or.inl h2
 ·exact Or.inr ⟨g,cap,cur,h1,by omega,h3⟩
theorem owns_below {w w':World}{B e s n:Nat}{v:Value}{xs:List Value}(h:w.ownsRow B e s v n xs)(hb:Below w.heap.size w w'):w'.ownsRow B e s v n xs:=by
 refine ⟨h.1,?_⟩
 rcases h.2 with h2 | ⟨g,cap,cur,h1,h2,h3,h4⟩
 ·exact Or.inl h2
 ·exact Or.inr ⟨g,cap,cur,h1,h2,(hb.block g (Array.getElem?_eq_some_iff.1 h3).1).trans h3,h4⟩
theorem owns_shape {w:World}{B e s n:Nat}{v:Value}{xs:List Value}(h:w.ownsRow B e s v n xs):∃ x y,v = .slice x n y∧(x=none→n=0∧y=0):=by
 rcases h.2 with ⟨rfl,rfl⟩ | ⟨g,cap,cur,rfl,_⟩
 ·exact ⟨none,0,rfl,fun _=>⟨rfl,rfl⟩⟩
 ·exact ⟨_,_,rfl,fun e=>by cases e⟩
theorem wpList_copy {P:Program}{Wp:World}{ops:Array Oper}{rest:List Oper}{o:Oper}{a:Act}{Q:Exit→Act→World→Prop}(hgd:o.guard=none)(s x:Operand)(t:TypeId)
  (ho:o.op = .call { callee:=.builtin .append,args:=#[s,x],argTypes:=#[t,t] })
  (e:TypeId) (z:Value) (size bytes:Nat) (ht:P.underlying t=some (.slice e)) (hi:(P.info? e).map (fun i=>(i.zero,i.size,i.bytes))=some (some z,size,bytes)) (hzs:z.cells.size=size) (hsz:0<size)
  (g:Nat) (hgs:g=Wp.heap.size) (hs:a.eval s = .slice (some ⟨g,0,none⟩) 0 0)
  (av:Option Addr) (m c:Nat) (news:List Value) (hx:a.eval x = .slice av m c) (hav:av=none→m=0∧c=0) (hl:news.length=m*size) (hnews:∀ ad,av=some ad→∀ j u,news[j]? = some u→Wp.cell? (ad.add j)=some u) (h1:∀ u ∈ news,u.oneCell'=true)
  (h63:m≤maxLen) (hbytes:m*bytes≤140737488355328)
  (h:∀ x' y' w',w'.ownsRow Wp.heap.size e size (.slice x' m y') m news→Below Wp.heap.size Wp w'→wpList P ops Q rest (a.put o.dst (.slice x' m y')) w'):wpList P ops Q (o::rest) a (Wp.alloc (.cells #[] e)):=by
 subst hgs
 refine wpList_append_list hgd s x t ho Wp.heap.size e z size bytes ht hi hzs hsz _ 0 [] hs (World.ownsRow_made Wp #[] 0 (Nat.le_refl _) (Nat.zero_le _) (by simp)) av m c news hx (fun h=>(hav h).2) hl ?_ (fun h=>(hav h).1) h1 (by rw [Nat.zero_add];exact h63) (by rw [Nat.zero_add];exact hbytes) (by simp) ?_
 ·intro ad had j u hu
  have hc:=hnews ad had j u hu
  exact (World.cell?_of_block (w:=Wp) (Below.heap_alloc _ _ _ (cellLt hc))).trans hc
 ·intro v' w' ho' hg'
  rw [Nat.zero_add,List.nil_append] at ho'
  obtain ⟨x',y',rfl,_⟩:=owns_shape ho'
  refine h x' y' w' ho' ⟨hg'.os,hg'.tape,hg'.output,Nat.le_trans (by simp) hg'.size,fun k hk=>?_⟩
  exact (hg'.block k (by simp;omega) (by simp only [Value.ownBlock,ne_eq,Option.some.injEq];omega)).trans (Below.heap_alloc _ _ _ hk)
theorem wpList_push {P:Program}{Wp:World}{ops:Array Oper}{rest:List Oper}{o:Oper}{a:Act}{Q:Exit→Act→World→Prop}(hgd:o.guard=none)(s x:Operand)(t:TypeId)
  (ho:o.op = .call { callee:=.builtin .append,args:=#[s,x],argTypes:=#[t,t] })
  (B:Nat) (e:TypeId) (z:Value) (size bytes:Nat) (ht:P.underlying t=some (.slice e)) (hi:(P.info? e).map (fun i=>(i.zero,i.size,i.bytes))=some (some z,size,bytes)) (hzs:z.cells.size=size) (hsz:0<size)
  (v:Value) (n:Nat) (xs:List Value) (hs:a.eval s=v) (hown:Wp.ownsRow B e size v n xs)
  (g:Nat) (hgs:g=Wp.heap.size) (news:List Value) (hx:a.eval x = .slice (some ⟨g,0,none⟩) 1 1) (hl:news.length=size) (h1:∀ u ∈ news,u.oneCell'=true)
  (h63:n+1≤maxLen) (hbytes:(n+1)*bytes≤140737488355328) (hB:B≤Wp.heap.size)
  (h:∀ x' y' w',w'.ownsRow B e size (.slice x' (n+1) y') (n+1) (xs++news)→Wp.grownBy w' v.ownBlock→wpList P ops Q rest (a.put o.dst (.slice x' (n+1) y')) w'):wpList P ops Q (o::rest) a (Wp.alloc (.cells news.toArray e)):=by
 subst hgs
 obtain ⟨i,hi1,hi2,hi3,hi4⟩:=info_parts hi
 refine wpList_append_own _ hgd s x t ho B e i z size bytes ht hi1 hi2 hi3 hi4 hzs hsz v n xs hs (hown.alloc _) ⟨Wp.heap.size,0,none⟩ 1 1 news hx (by omega) ?_ h1 h63 hbytes (by simp;omega) ?_
 ·intro j u hu
  rw [addr_at,Nat.zero_add]
  have:=cell_of_row (Wp.alloc (.cells news.toArray e)) Wp.heap.size j news.toArray e (0,0) (heap_alloc_new Wp _)
  rw [this]
  simpa using hu
 ·intro v' w' ho' hg' _
  obtain ⟨x',y',rfl,_⟩:=owns_shape ho'
  refine h x' y' w' ho' ⟨hg'.os,hg'.tape,hg'.output,Nat.le_trans (by simp) hg'.size,fun k hk hne=>?_⟩
  exact (hg'.block k (by simp;omega) hne).trans (Below.heap_alloc _ _ _ hk)
theorem push_below {B e s n:Nat}{w0 Wp w':World}{v:Value}{xs:List Value}(hb:Below B w0 Wp)(ho:Wp.ownsRow B e s v n xs)(hg:Wp.grownBy w' v.ownBlock)(hB:B≤Wp.heap.size):Below B w0 w':=
 hb.grown hg hB (fun k e=>(ho.lt k e).1)
end Go.Proofs.YtmkdgnmmebldgabGreatDoor
