import Derived.Test.YtmkdgnmmebldgaaGreatDoorPt13
import Derived.Deep.RegionLaw
import Derived.Deep.DeepCutAuto
import Derived.BigQuiet
set_option maxRecDepth 100000
set_option maxHeartbeats 8000000
namespace Go.Proofs.YtmkdgnmmebldgaaGreatDoor
open Go.RowKit Go.Deep
def Later (W:World):Type:={u:World // Below W.heap.size W u}
theorem later_some (W:World):Nonempty (Later W):=⟨⟨W,Below.refl _ _⟩⟩
theorem Later.cell {W:World}{p:Addr}{v:Value}(h:W.cell? p=some v):∀ u:Later W,World.cell? u.val p=some v:=fun u=>cell_later u.2 h
theorem Later.calls {P:Program}{W:World}{f:FuncId}{args:Array Value}{v:Value}(u:Later W)(h:Calls P f args u.val fun e w'=>e = .returned v∧Below (World.heap u.val).size u.val w'):Calls P f args u.val fun e w''=>e = .returned v∧∃ u':Later W,w''=u'.val:=
 h.mono fun _ w2 ⟨he,hb⟩=>⟨he,⟨⟨w2,u.2.trans (hb.mono u.2.size)⟩,rfl⟩⟩
theorem wp_region_later {P:Program}{id:Nat}{Q:Exit→Act→World→Prop}{a:Act}{w:World}{l:List Oper}(hm:P.follows .mixedOrders=true)(hB:Region.lexB .any l.toArray=true)
  (h:wpQuiet P l.toArray (fun w' => ∃ u:Later w,w'=u.val) (fun a' => ∀ w',(∃ u:Later w,w'=u.val)→Q .normal a' w') l a):(Code.region id l.toArray true).wp P Q a w:=
 wp_region_quiet (C:=fun w' => ∃ u:Later w,w'=u.val) hm hB ⟨⟨w.drew,(Below.refl _ _).drew⟩,rfl⟩ (by simpa using h)
theorem step_push {P:Program}{Wp:World}{ops:Array Oper}{o:Oper}{a:Act}{K:Act→World→Prop}{Q:Exit→Act→World→Prop}{E:Prop}(hgd:o.guard=none)(s x:Operand)(t:TypeId)
  (ho:o.op = .call { callee:=.builtin .append,args:=#[s,x],argTypes:=#[t,t] })
  (B:Nat) (e:TypeId) (z:Value) (size bytes:Nat) (ht:P.underlying t=some (.slice e)) (hi:(P.info? e).map (fun i=>(i.zero,i.size,i.bytes))=some (some z,size,bytes)) (hzs:z.cells.size=size) (hsz:0<size)
  (v:Value) (n:Nat) (xs:List Value) (hs:a.eval s=v) (hown:Wp.ownsRow B e size v n xs)
  (g:Nat) (hgs:g=Wp.heap.size) (news:List Value) (hx:a.eval x = .slice (some ⟨g,0,none⟩) 1 1) (hl:news.length=size) (h1:∀ u ∈ news,u.oneCell'=true)
  (h63:n+1≤maxLen) (hbytes:(n+1)*bytes≤140737488355328) (hB:B≤Wp.heap.size)
  (h:∀ x' y' w',w'.ownsRow B e size (.slice x' (n+1) y') (n+1) (xs++news)→Wp.grownBy w' v.ownBlock→Tame Wp v (.slice x' (n+1) y')→K (a.put o.dst (.slice x' (n+1) y')) w') :
  if Region.wanted o (yielded ops a.tmps)=true then Oper.wp P o a ((Wp.alloc (.cells news.toArray e)).drew) K Q else E:=by
 subst hgs
 obtain ⟨i,hi1,hi2,hi3,hi4⟩:=info_parts hi
 refine step_append_lies _ hgd s x t ho B e i z size bytes ht hi1 hi2 hi3 hi4 hzs hsz v n xs hs (hown.alloc _).drew ⟨Wp.heap.size,0,none⟩ 1 1 news hx (by omega) ?_ h1 (by omega) h63 hbytes (by simp;omega) _ rfl ?_
 ·intro j u hu
  rw [addr_at,Nat.zero_add]
  have:=cell_of_row (Wp.alloc (.cells news.toArray e)) Wp.heap.size j news.toArray e (0,0) (heap_alloc_new Wp _)
  refine Eq.trans this ?_
  simpa using hu
 ·intro g cap w' ho' hg' hq _
  refine h _ _ w' ho' ⟨hg'.os,hg'.tape,hg'.output,Nat.le_trans (by simp) hg'.size,fun k hk hne=>?_⟩ (fun b hb=>?_)
  ·exact (hg'.block k (by simp;omega) hne).trans (Below.heap_alloc _ _ _ hk)
  ·cases hb
   rcases hq with hq | hq
   ·exact Or.inl hq
   ·right
    rw [hq]
    simp
theorem wpList_push2 {P:Program}{Wp:World}{ops:Array Oper}{rest:List Oper}{o:Oper}{a:Act}{Q:Exit→Act→World→Prop}(hgd:o.guard=none)(s x:Operand)(t:TypeId)
  (ho:o.op = .call { callee:=.builtin .append,args:=#[s,x],argTypes:=#[t,t] })
  (B:Nat) (e:TypeId) (z:Value) (size bytes:Nat) (ht:P.underlying t=some (.slice e)) (hi:(P.info? e).map (fun i=>(i.zero,i.size,i.bytes))=some (some z,size,bytes)) (hzs:z.cells.size=size) (hsz:0<size)
  (v:Value) (n:Nat) (xs:List Value) (hs:a.eval s=v) (hown:Wp.ownsRow B e size v n xs)
  (g:Nat) (hgs:g=Wp.heap.size) (news:List Value) (hx:a.eval x = .slice (some ⟨g,0,none⟩) 1 1) (hl:news.length=size) (h1:∀ u ∈ news,u.oneCell'=true)
  (h63:n+1≤maxLen) (hbytes:(n+1)*bytes≤140737488355328) (hB:B≤Wp.heap.size)
  (h:∀ x' y' w',w'.ownsRow B e size (.slice x' (n+1) y') (n+1) (xs++news)→Wp.grownBy w' v.ownBlock→Tame Wp v (.slice x' (n+1) y')→wpList P ops Q rest (a.put o.dst (.slice x' (n+1) y')) w'):wpList P ops Q (o::rest) a (Wp.alloc (.cells news.toArray e)):=by
 subst hgs
 obtain ⟨i,hi1,hi2,hi3,hi4⟩:=info_parts hi
 refine wpList_append_lies _ hgd s x t ho B e i z size bytes ht hi1 hi2 hi3 hi4 hzs hsz v n xs hs (hown.alloc _) ⟨Wp.heap.size,0,none⟩ 1 1 news hx (by omega) ?_ h1 (by omega) h63 hbytes (by simp;omega) _ rfl ?_
 ·intro j u hu
  rw [addr_at,Nat.zero_add]
  have:=cell_of_row (Wp.alloc (.cells news.toArray e)) Wp.heap.size j news.toArray e (0,0) (heap_alloc_new Wp _)
  rw [this]
  simpa using hu
 ·intro g cap w' ho' hg' hq _
  refine h _ _ w' ho' ⟨hg'.os,hg'.tape,hg'.output,Nat.le_trans (by simp) hg'.size,fun k hk hne=>?_⟩ (fun b hb=>?_)
  ·exact (hg'.block k (by simp;omega) hne).trans (Below.heap_alloc _ _ _ hk)
  ·cases hb
   rcases hq with hq | hq
   ·exact Or.inl hq
   ·right
    rw [hq]
    simp
def FlankPost (w0 w:World)(B F Q:Nat)(pa ja sa la:Option Addr)(pc jc sc lc:Nat)(np nj ns:Nat)(lies:List MLie)(vs vf:Value)(st:List MEnd × List MFlank)(e:Ending)(w':World):Prop:=
 e = .returned (.tuple #[])∧(∃ xs ys xf yf,LK w0 w' B F Q pa ja sa la pc jc sc lc np nj ns lies xs ys xf yf st∧Tame w vs (.slice xs st.1.length ys)∧Tame w vf (.slice xf st.2.length yf))∧Turn F Q vs vf w w'
def LookSpec (w0:World)(B F Q:Nat)(pa ja sa la:Option Addr)(pc jc sc lc:Nat)(ps:List MPiece)(js:List MJoint)(ss:List MPiece)(lies:List MLie)(pl:Int)(n:Nat):Prop:=
 ∀ (st:List MEnd × List MFlank) (e:MEnd) (xs:Option Addr) (ys:Nat) (xf:Option Addr) (yf:Nat) (w:World),Hid (LK w0 w B F Q pa ja sa la pc jc sc lc ps.length js.length ss.length lies xs ys xf yf st)→Hid (Seen ps st.1)→Hid (ValidE ps e) →
  st.2.length+2*ps.length≤100000+st.1.length→2*ps.length+1≤n+st.1.length →
  Calls Tryz.prog 110 #[.pointer (some ⟨F,0,none⟩),.pointer (some ⟨Q,0,none⟩),.int .i64 pl,endV e] w (FlankPost w0 w B F Q pa ja sa la pc jc sc lc ps.length js.length ss.length lies (.slice xs st.1.length ys) (.slice xf st.2.length yf) (lookF js ss lies pl n st e))
end Go.Proofs.YtmkdgnmmebldgaaGreatDoor
