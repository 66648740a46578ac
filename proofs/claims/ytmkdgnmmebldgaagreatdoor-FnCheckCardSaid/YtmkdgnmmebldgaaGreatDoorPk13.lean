import Derived.Test.YtmkdgnmmebldgaaGreatDoorPk12
import Derived.Deep.RegionLaw
import Derived.Deep.DeepCutAuto
import Derived.BigQuiet
set_option maxRecDepth 100000
set_option maxHeartbeats 8000000
open Go.Proofs.Tryz
namespace Go.Proofs.YtmkdgnmmebldgaaGreatDoor
open Go.RowKit Go.Deep
variable {P:Program}{a:Act}
def bA (W:World):Type:={u:World // Cx W u}
theorem ft (W:World):Nonempty (bA W):=⟨⟨W,Below.refl _ _⟩⟩
theorem bA.cell {W:World}{p:Addr}{v:Value}(h:W.cell? p=some v):∀ u:bA W,World.cell? u.val p=some v:=fun u=>cell_later u.2 h
theorem bA.calls {W:World}{f:FuncId}{args:Array Value}{v:Value}(u:bA W)(h:Calls P f args u.val fun e w'=>e = .returned v/\Below (World.heap u.val).size u.val w'):Calls P f args u.val fun e w''=>e = .returned v/\∃ u':bA W,w''=u'.val:=
 h.mono fun _ w2 ⟨he,hb⟩=>⟨he,⟨⟨w2,u.2.trans (hb.mono u.2.size)⟩,rfl⟩⟩
theorem cW {id:Nat}{Q:Exit->Act->World->Prop}{w:World}{l:List Oper}(hm:P.follows .mixedOrders=true)(hB:Region.lexB .any l.toArray=true)
  (h:wpQuiet P l.toArray (fun w' => ∃ u:bA w,w'=u.val) (fun a' => ∀ w',(∃ u:bA w,w'=u.val)->Q .normal a' w') l a):(Code.region id l.toArray true).wp P Q a w:=
 wp_region_quiet (C:=fun w' => ∃ u:bA w,w'=u.val) hm hB ⟨⟨w.drew,CV.drew⟩,rfl⟩ (by simpa using h)
theorem rk {Wp:World}{ops:Array Oper}{o:Oper}{K:Act->World->Prop}{Q:Exit->Act->World->Prop}{E:Prop}(hgd:o.guard=none)(s x:Operand)(t:TypeId)
  (ho:o.op = .call { callee:=.builtin .append,args:=#[s,x],argTypes:=#[t,t] })
  (B:Nat) (e:TypeId) (z:Value) (size bytes:Nat) (ht:P.underlying t=some (.slice e)) (hi:(P.info? e).map (fun i=>(i.zero,i.size,i.bytes))=some (some z,size,bytes)) (hzs:z.cells.size=size) (hsz:0<size)
  (v:Value) (n:Nat) (xs:List Value) (hs:a.eval s=v) (hown:Wp.ownsRow B e size v n xs)
  (g:Nat) (hgs:g=Wp.heap.size) (news:List Value) (hx:a.eval x = .slice (some ⟨g,0,none⟩) 1 1) (hl:news.length=size) (h1:∀ u ∈ news,u.oneCell'=true)
  (h63:n+1<=maxLen) (hbytes:(n+1)*bytes<=140737488355328) (hB:B<=Wp.heap.size)
  (h:∀ x' y' w',w'.ownsRow B e size (.slice x' (n+1) y') (n+1) (xs++news)->Wp.grownBy w' v.ownBlock->dj Wp v (.slice x' (n+1) y')->K (a.put o.dst (.slice x' (n+1) y')) w') :
  if Region.wanted o (yielded ops a.tmps)=true then Oper.wp P o a ((Wp.alloc (.cells news.toArray e)).drew) K Q else E:=by
 subst hgs;obtain ⟨i,d,f,l,m⟩:=info_parts hi;refine step_append_lies _ hgd s x t ho B e i z size bytes ht d f l m hzs hsz v n xs hs (hown.alloc _).drew ⟨Wp.heap.size,0,none⟩ 1 1 news hx CG ?_ h1 CG h63 hbytes CN _ rfl ?_
 ·intro j u hu;rw [bH,Nat.zero_add];have:=cell_of_row (Wp.alloc (.cells news.toArray e)) Wp.heap.size j news.toArray e (0,0) (heap_alloc_new Wp _);refine Eq.trans this ?_;simpa using hu
 ·intro g q w' p c hq _;refine h _ _ w' p ⟨c.os,c.tape,c.output,Nat.le_trans CI c.size,fun k hk hne=>?_⟩ (fun b hb=>?_)
  ·exact (c.block k CN hne).trans (Below.heap_alloc _ _ _ hk)
  ·cases hb;rcases hq with hq | hq
   ·exact Or.inl hq
   ·right;rw [hq];simp
theorem iM {Wp:World}{ops:Array Oper}{rest:List Oper}{o:Oper}{Q:Exit->Act->World->Prop}(hgd:o.guard=none)(s x:Operand)(t:TypeId)
  (ho:o.op = .call { callee:=.builtin .append,args:=#[s,x],argTypes:=#[t,t] })
  (B:Nat) (e:TypeId) (z:Value) (size bytes:Nat) (ht:P.underlying t=some (.slice e)) (hi:(P.info? e).map (fun i=>(i.zero,i.size,i.bytes))=some (some z,size,bytes)) (hzs:z.cells.size=size) (hsz:0<size)
  (v:Value) (n:Nat) (xs:List Value) (hs:a.eval s=v) (hown:Wp.ownsRow B e size v n xs)
  (g:Nat) (hgs:g=Wp.heap.size) (news:List Value) (hx:a.eval x = .slice (some ⟨g,0,none⟩) 1 1) (hl:news.length=size) (h1:∀ u ∈ news,u.oneCell'=true)
  (h63:n+1<=maxLen) (hbytes:(n+1)*bytes<=140737488355328) (hB:B<=Wp.heap.size)
  (h:∀ x' y' w',w'.ownsRow B e size (.slice x' (n+1) y') (n+1) (xs++news)->Wp.grownBy w' v.ownBlock->dj Wp v (.slice x' (n+1) y')->wpList P ops Q rest (a.put o.dst (.slice x' (n+1) y')) w'):wpList P ops Q (o::rest) a (Wp.alloc (.cells news.toArray e)):=by
 subst hgs;obtain ⟨i,d,f,l,m⟩:=info_parts hi;refine wpList_append_lies _ hgd s x t ho B e i z size bytes ht d f l m hzs hsz v n xs hs (hown.alloc _) ⟨Wp.heap.size,0,none⟩ 1 1 news hx CG ?_ h1 CG h63 hbytes CN _ rfl ?_
 ·intro j u hu;rw [bH,Nat.zero_add];have:=cell_of_row (Wp.alloc (.cells news.toArray e)) Wp.heap.size j news.toArray e (0,0) (heap_alloc_new Wp _);rw [this];simpa using hu
 ·intro g q w' p c hq _;refine h _ _ w' p ⟨c.os,c.tape,c.output,Nat.le_trans CI c.size,fun k hk hne=>?_⟩ (fun b hb=>?_)
  ·exact (c.block k CN hne).trans (Below.heap_alloc _ _ _ hk)
  ·cases hb;rcases hq with hq | hq
   ·exact Or.inl hq
   ·right;rw [hq];simp
def kA (w0 w:World)(B F Q:Nat)(pa ja sa la:Option Addr)(pc jc sc lc:Nat)(np nj ns:Nat)(CA:List bg)(vs vf:Value)(st:List am × List aN)(e:Ending)(w':World):Prop:=
 e = .returned (.tuple #[])/\(∃ xs ys xf yf,LK w0 w' B F Q pa ja sa la pc jc sc lc np nj ns CA xs ys xf yf st/\dj w vs (.slice xs st.1.length ys)/\dj w vf (.slice xf st.2.length yf))/\gv F Q vs vf w w'
def iz (w0:World)(B F Q:Nat)(pa ja sa la:Option Addr)(pc jc sc lc:Nat)(ps:List af)(js:List aj)(ss:List af)(CA:List bg)(pl:Int)(n:Nat):Prop:=
 ∀ (st:List am × List aN) (e:am) (xs:Option Addr) (ys:Nat) (xf:Option Addr) (yf:Nat) (w:World),Hid (LK w0 w B F Q pa ja sa la pc jc sc lc ps.length js.length ss.length CA xs ys xf yf st)->Hid (eZ ps st.1)->Hid (bM ps e) ->
  st.2.length+2*ps.length<=100000+st.1.length->2*ps.length+1<=n+st.1.length ->
  Calls prog 110 #[.pointer (some ⟨F,0,none⟩),.pointer (some ⟨Q,0,none⟩),.int .i64 pl,bC e] w (kA w0 w B F Q pa ja sa la pc jc sc lc ps.length js.length ss.length CA (.slice xs st.1.length ys) (.slice xf st.2.length yf) (bJ js ss CA pl n st e))
end Go.Proofs.YtmkdgnmmebldgaaGreatDoor
