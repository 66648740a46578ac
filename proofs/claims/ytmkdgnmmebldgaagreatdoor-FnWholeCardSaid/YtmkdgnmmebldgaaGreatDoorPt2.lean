import Derived.Test.YtmkdgnmmebldgaaGreatDoorPt1
import Derived.RegionTactic
import Derived.Deep.RegionWith
import Derived.Deep.RegionHeld3
import Derived.Deep.QuietTactic
import Derived.BigQuiet
set_option maxRecDepth 100000
set_option maxHeartbeats 8000000
namespace Go.Proofs.YtmkdgnmmebldgaaGreatDoor
open Go.RowKit Go.Deep
structure MPart where
 piece:Int
 lo:Int
 hi:Int
structure MFlank where
 place:Int
 kind:Int
 of:Int
 lie:Int
structure Only (S:Nat→Prop)(w w':World):Prop where
 os:w'.os=w.os
 tape:w'.tape=w.tape
 output:w'.output=w.output
 size:w.heap.size≤w'.heap.size
 block:∀ k,k<w.heap.size→¬ S k→w'.heap[k]? = w.heap[k]?
theorem Only.refl (S:Nat→Prop)(w:World):Only S w w:=⟨rfl,rfl,rfl,Nat.le_refl _,fun _ _ _=>rfl⟩
theorem Only.trans {S:Nat→Prop}{a b c:World}(h:Only S a b)(k:Only S b c):Only S a c:=
 ⟨k.os.trans h.os,k.tape.trans h.tape,k.output.trans h.output,Nat.le_trans h.size k.size,fun i hi hs=>(k.block i (Nat.lt_of_lt_of_le hi h.size) hs).trans (h.block i hi hs)⟩
theorem Only.mono {S S':Nat→Prop}{w w':World}(h:Only S w w')(hs:∀ k,S k→S' k):Only S' w w':=⟨h.os,h.tape,h.output,h.size,fun k hk hn=>h.block k hk (fun e=>hn (hs k e))⟩
theorem Only.of_below {S:Nat→Prop}{w w':World}(h:Below w.heap.size w w'):Only S w w':=⟨h.os,h.tape,h.output,h.size,fun k hk _=>h.block k hk⟩
theorem Only.below {S:Nat→Prop}{B:Nat}{w w':World}(h:Only S w w')(hB:B≤w.heap.size)(hs:∀ k,k<B→¬ S k):Below B w w':=⟨h.os,h.tape,h.output,h.size,fun k hk=>h.block k (Nat.lt_of_lt_of_le hk hB) (hs k hk)⟩
theorem Only.of_grown {S:Nat→Prop}{w w':World}{row:Option Nat}(h:w.grownBy w' row)(hs:∀ k,row=some k→S k):Only S w w':=⟨h.os,h.tape,h.output,h.size,fun k hk hn=>h.block k hk (fun e=>hn (hs k e.symm))⟩
theorem Only.drew {S:Nat→Prop}{a w:World}(h:Only S a w):Only S a w.drew:=⟨h.os,h.tape,h.output,h.size,h.block⟩
theorem Only.setCell {S:Nat→Prop}{a w:World}(h:Only S a w){p:Addr}(hp:S p.block∨a.heap.size≤p.block)(u:Value):Only S a (w.setCell p u):=
 ⟨h.os,h.tape,h.output,by have:=h.size;simpa [World.setCell] using this,fun k hk hn=>(Below.heap_setCell _ _ _ _ (by rintro rfl;rcases hp with hp | hp;exact hn hp;omega)).trans (h.block k hk hn)⟩
theorem Only.cell {S:Nat→Prop}{w w':World}(h:Only S w w'){p:Addr}{v:Value}(hc:w.cell? p=some v)(hs:¬ S p.block):w'.cell? p=some v:=
 (World.cell?_of_block (w:=w) (h.block p.block (cellLt hc) hs)).trans hc
def NumCells (w:World)(b off:Nat)(es:List Int):Prop := ∀ i (h:i<es.length),w.cell? ⟨b,off+i,none⟩=some (.int .i64 es[i])
theorem NumCells.below {w w':World}{b off:Nat}{es:List Int}(h:NumCells w b off es)(hb:Below w.heap.size w w'):NumCells w' b off es:=by
 intro i hi
 have h0:=h i hi
 exact cell_later hb h0
def NumsAt (w:World)(a:Option Addr)(es:List Int):Prop:=es.length≤maxLen∧(es=[]∨∃ b off,a=some ⟨b,off,none⟩∧NumCells w b off es)
theorem NumsAt.below {w w':World}{a:Option Addr}{es:List Int}(h:NumsAt w a es)(hb:Below w.heap.size w w'):NumsAt w' a es:=by
 obtain ⟨h1,h3⟩:=h
 refine ⟨h1,?_⟩
 rcases h3 with h3 | ⟨b,off,h3,h4⟩
 ·exact Or.inl h3
 ·exact Or.inr ⟨b,off,h3,h4.below hb⟩
def PartCells (w:World)(b off:Nat)(es:List MPart):Prop := ∀ i (h:i<es.length),w.cell? ⟨b,off+i*3,none⟩=some (.int .i64 es[i].piece)∧w.cell? ⟨b,off+i*3+1,none⟩=some (.int .i64 es[i].lo)∧w.cell? ⟨b,off+i*3+2,none⟩=some (.int .i64 es[i].hi)
theorem PartCells.below {w w':World}{b off:Nat}{es:List MPart}(h:PartCells w b off es)(hb:Below w.heap.size w w'):PartCells w' b off es:=by
 intro i hi
 obtain ⟨h0,h1,h2⟩:=h i hi
 exact ⟨cell_later hb h0,cell_later hb h1,cell_later hb h2⟩
def PartsAt (w:World)(a:Option Addr)(es:List MPart):Prop:=es.length≤maxLen∧(es=[]∨∃ b off,a=some ⟨b,off,none⟩∧PartCells w b off es)
theorem PartsAt.below {w w':World}{a:Option Addr}{es:List MPart}(h:PartsAt w a es)(hb:Below w.heap.size w w'):PartsAt w' a es:=by
 obtain ⟨h1,h3⟩:=h
 refine ⟨h1,?_⟩
 rcases h3 with h3 | ⟨b,off,h3,h4⟩
 ·exact Or.inl h3
 ·exact Or.inr ⟨b,off,h3,h4.below hb⟩
def FlankCells (w:World)(b off:Nat)(es:List MFlank):Prop := ∀ i (h:i<es.length),w.cell? ⟨b,off+i*4,none⟩=some (.int .i64 es[i].place)∧w.cell? ⟨b,off+i*4+1,none⟩=some (.int .i64 es[i].kind)∧w.cell? ⟨b,off+i*4+2,none⟩=some (.int .i64 es[i].of)∧w.cell? ⟨b,off+i*4+3,none⟩=some (.int .i64 es[i].lie)
theorem FlankCells.below {w w':World}{b off:Nat}{es:List MFlank}(h:FlankCells w b off es)(hb:Below w.heap.size w w'):FlankCells w' b off es:=by
 intro i hi
 obtain ⟨h0,h1,h2,h3⟩:=h i hi
 exact ⟨cell_later hb h0,cell_later hb h1,cell_later hb h2,cell_later hb h3⟩
def FlanksAt (w:World)(a:Option Addr)(es:List MFlank):Prop:=es.length≤maxLen∧(es=[]∨∃ b off,a=some ⟨b,off,none⟩∧FlankCells w b off es)
theorem FlanksAt.below {w w':World}{a:Option Addr}{es:List MFlank}(h:FlanksAt w a es)(hb:Below w.heap.size w w'):FlanksAt w' a es:=by
 obtain ⟨h1,h3⟩:=h
 refine ⟨h1,?_⟩
 rcases h3 with h3 | ⟨b,off,h3,h4⟩
 ·exact Or.inl h3
 ·exact Or.inr ⟨b,off,h3,h4.below hb⟩
theorem EndsAt.kept {w w':World}{a:Option Addr}{es:List MEnd}(h:EndsAt w a es)(hb:es=[]∨∀ b off,a=some ⟨b,off,none⟩→w'.heap[b]? = w.heap[b]?):EndsAt w' a es:=by
 obtain ⟨h1,h3⟩:=h
 refine ⟨h1,?_⟩
 rcases h3 with h3 | ⟨b,off,h3,h4⟩
 ·exact Or.inl h3
 ·rcases hb with hb | hb
  ·exact Or.inl hb
  ·have e:=hb b off h3
   exact Or.inr ⟨b,off,h3,fun i hi=>by obtain ⟨c1,c2⟩:=h4 i hi;exact ⟨(World.cell?_of_block (w:=w) e).trans c1,(World.cell?_of_block (w:=w) e).trans c2⟩⟩
theorem NumsAt.kept {w w':World}{a:Option Addr}{es:List Int}(h:NumsAt w a es)(hb:es=[]∨∀ b off,a=some ⟨b,off,none⟩→w'.heap[b]? = w.heap[b]?):NumsAt w' a es:=by
 obtain ⟨h1,h3⟩:=h
 refine ⟨h1,?_⟩
 rcases h3 with h3 | ⟨b,off,h3,h4⟩
 ·exact Or.inl h3
 ·rcases hb with hb | hb
  ·exact Or.inl hb
  ·have e:=hb b off h3
   exact Or.inr ⟨b,off,h3,fun i hi=>(World.cell?_of_block (w:=w) e).trans (h4 i hi)⟩
theorem PartsAt.kept {w w':World}{a:Option Addr}{es:List MPart}(h:PartsAt w a es)(hb:es=[]∨∀ b off,a=some ⟨b,off,none⟩→w'.heap[b]? = w.heap[b]?):PartsAt w' a es:=by
 obtain ⟨h1,h3⟩:=h
 refine ⟨h1,?_⟩
 rcases h3 with h3 | ⟨b,off,h3,h4⟩
 ·exact Or.inl h3
 ·rcases hb with hb | hb
  ·exact Or.inl hb
  ·have e:=hb b off h3
   exact Or.inr ⟨b,off,h3,fun i hi=>by obtain ⟨c0,c1,c2⟩:=h4 i hi;exact ⟨(World.cell?_of_block (w:=w) e).trans c0,(World.cell?_of_block (w:=w) e).trans c1,(World.cell?_of_block (w:=w) e).trans c2⟩⟩
theorem FlanksAt.kept {w w':World}{a:Option Addr}{es:List MFlank}(h:FlanksAt w a es)(hb:es=[]∨∀ b off,a=some ⟨b,off,none⟩→w'.heap[b]? = w.heap[b]?):FlanksAt w' a es:=by
 obtain ⟨h1,h3⟩:=h
 refine ⟨h1,?_⟩
 rcases h3 with h3 | ⟨b,off,h3,h4⟩
 ·exact Or.inl h3
 ·rcases hb with hb | hb
  ·exact Or.inl hb
  ·have e:=hb b off h3
   exact Or.inr ⟨b,off,h3,fun i hi=>by obtain ⟨c0,c1,c2,c3⟩:=h4 i hi;exact ⟨(World.cell?_of_block (w:=w) e).trans c0,(World.cell?_of_block (w:=w) e).trans c1,(World.cell?_of_block (w:=w) e).trans c2,(World.cell?_of_block (w:=w) e).trans c3⟩⟩
structure MRoute where
 start:Int
 stop:Int
 steps:List MEnd
 lies:List MEnd
 crosses:List Int
 parts:List MPart
 over:List MPart
 flanks:List MFlank
structure RAddr where
 a0:Option Addr
 c0:Nat
 a1:Option Addr
 c1:Nat
 a2:Option Addr
 c2:Nat
 a3:Option Addr
 c3:Nat
 a4:Option Addr
 c4:Nat
 a5:Option Addr
 c5:Nat
structure RListsAt (w:World)(d:RAddr)(r:MRoute):Prop where
 steps:EndsAt w d.a0 r.steps
 lies:EndsAt w d.a1 r.lies
 crosses:NumsAt w d.a2 r.crosses
 parts:PartsAt w d.a3 r.parts
 over:PartsAt w d.a4 r.over
 flanks:FlanksAt w d.a5 r.flanks
 nil1:d.a1=none→d.c1=0
theorem RListsAt.below {w w':World}{d:RAddr}{r:MRoute}(h:RListsAt w d r)(hb:Below w.heap.size w w'):RListsAt w' d r:=
 ⟨h.steps.below hb,h.lies.below hb,h.crosses.below hb,h.parts.below hb,h.over.below hb,h.flanks.below hb,h.nil1⟩
def routeV (d:RAddr)(r:MRoute):Value:=
 .agg #[.int .i64 r.start,.int .i64 r.stop,.slice d.a0 r.steps.length d.c0,.slice d.a1 r.lies.length d.c1,.slice d.a2 r.crosses.length d.c2,.slice d.a3 r.parts.length d.c3,.slice d.a4 r.over.length d.c4,.slice d.a5 r.flanks.length d.c5]
structure RouteCell (w:World)(b o:Nat)(d:RAddr)(r:MRoute):Prop where
 k0:w.cell? ⟨b,o,none⟩=some (.int .i64 r.start)
 k1:w.cell? ⟨b,o+1,none⟩=some (.int .i64 r.stop)
 k2:w.cell? ⟨b,o+2,none⟩=some (.slice d.a0 r.steps.length d.c0)
 k3:w.cell? ⟨b,o+3,none⟩=some (.slice d.a1 r.lies.length d.c1)
 k4:w.cell? ⟨b,o+4,none⟩=some (.slice d.a2 r.crosses.length d.c2)
 k5:w.cell? ⟨b,o+5,none⟩=some (.slice d.a3 r.parts.length d.c3)
 k6:w.cell? ⟨b,o+6,none⟩=some (.slice d.a4 r.over.length d.c4)
 k7:w.cell? ⟨b,o+7,none⟩=some (.slice d.a5 r.flanks.length d.c5)
theorem RouteCell.kept {w w':World}{b o:Nat}{d:RAddr}{r:MRoute}(h:RouteCell w b o d r)(e:w'.heap[b]? = w.heap[b]?):RouteCell w' b o d r:=
 ⟨(World.cell?_of_block (w:=w) e).trans h.k0,(World.cell?_of_block (w:=w) e).trans h.k1,(World.cell?_of_block (w:=w) e).trans h.k2,(World.cell?_of_block (w:=w) e).trans h.k3,
 (World.cell?_of_block (w:=w) e).trans h.k4,(World.cell?_of_block (w:=w) e).trans h.k5,(World.cell?_of_block (w:=w) e).trans h.k6,(World.cell?_of_block (w:=w) e).trans h.k7⟩
theorem RouteCell.below {w w':World}{b o:Nat}{d:RAddr}{r:MRoute}(h:RouteCell w b o d r)(hb:Below w.heap.size w w'):RouteCell w' b o d r:=
 h.kept (hb.block b (cellLt h.k0))
def RouteCells (w:World)(b off:Nat)(rs:List MRoute):Prop := ∀ i (h:i<rs.length),∃ d,RouteCell w b (off+i*8) d rs[i]∧RListsAt w d rs[i]
theorem RouteCells.below {w w':World}{b off:Nat}{rs:List MRoute}(h:RouteCells w b off rs)(hb:Below w.heap.size w w'):RouteCells w' b off rs:=by
 intro i hi
 obtain ⟨d,h1,h2⟩:=h i hi
 exact ⟨d,h1.below hb,h2.below hb⟩
def RoutesAt (w:World)(a:Option Addr)(rs:List MRoute):Prop:=rs.length≤maxLen∧(rs=[]∨∃ b off,a=some ⟨b,off,none⟩∧RouteCells w b off rs)
theorem RoutesAt.below {w w':World}{a:Option Addr}{rs:List MRoute}(h:RoutesAt w a rs)(hb:Below w.heap.size w w'):RoutesAt w' a rs:=by
 obtain ⟨h1,h3⟩:=h
 refine ⟨h1,?_⟩
 rcases h3 with h3 | ⟨b,off,h3,h4⟩
 ·exact Or.inl h3
 ·exact Or.inr ⟨b,off,h3,h4.below hb⟩
def BlkOf (a:Option Addr)(n:Nat)(b:Nat):Prop:=n≠0∧∃ o s,a=some ⟨b,o,s⟩
end Go.Proofs.YtmkdgnmmebldgaaGreatDoor
