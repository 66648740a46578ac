import Derived.Test.YtmkdgnmmebldgaaGreatDoorPk1
import Derived.RegionTactic
import Derived.Deep.RegionWith
import Derived.Deep.RegionHeld3
import Derived.Deep.QuietTactic
import Derived.BigQuiet
set_option maxRecDepth 100000
set_option maxHeartbeats 8000000
open Go.Proofs.Tryz
namespace Go.Proofs.YtmkdgnmmebldgaaGreatDoor
open Go.RowKit Go.Deep
variable {a:Option Addr}{b off:Nat}{es:List Int}{w w':World}
structure aI where
 CB:Int
 lo:Int
 hi:Int
structure aN where
 place:Int
 kind:Int
 of:Int
 lie:Int
structure ag (S:Nat->Prop)(w w':World):Prop where
 os:w'.os=w.os
 tape:w'.tape=w.tape
 output:w'.output=w.output
 size:w.heap.size<=w'.heap.size
 block:∀ k,k<w.heap.size->¬ S k->w'.heap[k]? = w.heap[k]?
theorem ag.refl (S:Nat->Prop)(w:World):ag S w w:=⟨rfl,rfl,rfl,Nat.le_refl _,fun _ _ _=>rfl⟩
theorem ag.trans {S:Nat->Prop}{a b c:World}(h:ag S a b)(k:ag S b c):ag S a c:=
 ⟨k.os.trans h.os,k.tape.trans h.tape,k.output.trans h.output,Nat.le_trans h.size k.size,fun i hi hs=>(k.block i (Nat.lt_of_lt_of_le hi h.size) hs).trans (h.block i hi hs)⟩
theorem ag.mono {S S':Nat->Prop}(h:ag S w w')(hs:∀ k,S k->S' k):ag S' w w':=⟨h.os,h.tape,h.output,h.size,fun k hk hn=>h.block k hk (fun e=>hn (hs k e))⟩
theorem ag.of_below {S:Nat->Prop}(h:Cx w w'):ag S w w':=⟨h.os,h.tape,h.output,h.size,fun k hk _=>h.block k hk⟩
theorem ag.below {S:Nat->Prop}{B:Nat}(h:ag S w w')(hB:B<=w.heap.size)(hs:∀ k,k<B->¬ S k):Below B w w':=⟨h.os,h.tape,h.output,h.size,fun k hk=>h.block k (Nat.lt_of_lt_of_le hk hB) (hs k hk)⟩
theorem ag.of_grown {S:Nat->Prop}{row:Option Nat}(h:w.grownBy w' row)(hs:∀ k,row=some k->S k):ag S w w':=⟨h.os,h.tape,h.output,h.size,fun k hk hn=>h.block k hk (fun e=>hn (hs k e.symm))⟩
theorem ag.alloc {S:Nat->Prop}{a:World}(h:ag S a w)(o:Obj):ag S a (w.alloc o):=
 h.trans ⟨rfl,rfl,rfl,CI,fun k hk _=>Below.heap_alloc _ _ _ hk⟩
theorem ag.drew {S:Nat->Prop}{a:World}(h:ag S a w):ag S a w.drew:=⟨h.os,h.tape,h.output,h.size,h.block⟩
theorem ag.setCell {S:Nat->Prop}{a:World}(h:ag S a w){p:Addr}(hp:S p.block\/a.heap.size<=p.block)(u:Value):ag S a (w.setCell p u):=
 ⟨h.os,h.tape,h.output,by have:=h.size;simpa [World.setCell] using this,fun k hk hn=>(Below.heap_setCell _ _ _ _ (by rintro rfl;rcases hp with hp | hp;exact hn hp;omega)).trans (h.block k hk hn)⟩
theorem ag.cell {S:Nat->Prop}(h:ag S w w'){p:Addr}{v:Value}(hc:w.cell? p=some v)(hs:¬ S p.block):w'.cell? p=some v:=
 (World.cell?_of_block (w:=w) (h.block p.block (ai hc) hs)).trans hc
def kf (w:World)(b off:Nat)(es:List Int):Prop := ∀ i (h:i<es.length),w.cell? ⟨b,off+i,none⟩=some (.int .i64 es[i])
theorem kf.below (h:kf w b off es)(hb:Cx w w'):kf w' b off es:=by
 intro i hi;have h0:=h i hi;exact cell_later hb h0
def bV (w:World)(a:Option Addr)(es:List Int):Prop:=es.length<=maxLen/\(es=[]\/∃ b off,a=some ⟨b,off,none⟩/\kf w b off es)
theorem bV.below (h:bV w a es)(hb:Cx w w'):bV w' a es:=by
 obtain ⟨h1,h3⟩:=h;refine ⟨h1,?_⟩;rcases h3 with h3 | ⟨b,off,h3,h4⟩
 ·exact Or.inl h3
 ·exact Or.inr ⟨b,off,h3,h4.below hb⟩
def jh (w:World)(b off:Nat)(es:List aI):Prop := ∀ i (h:i<es.length),w.cell? ⟨b,off+i*3,none⟩=some (.int .i64 es[i].CB)/\w.cell? ⟨b,off+i*3+1,none⟩=some (.int .i64 es[i].lo)/\w.cell? ⟨b,off+i*3+2,none⟩=some (.int .i64 es[i].hi)
theorem jh.below {es:List aI}(h:jh w b off es)(hb:Cx w w'):jh w' b off es:=by
 intro i hi;obtain ⟨h0,h1,h2⟩:=h i hi;exact ⟨cell_later hb h0,cell_later hb h1,cell_later hb h2⟩
def bw (w:World)(a:Option Addr)(es:List aI):Prop:=es.length<=maxLen/\(es=[]\/∃ b off,a=some ⟨b,off,none⟩/\jh w b off es)
theorem bw.below {es:List aI}(h:bw w a es)(hb:Cx w w'):bw w' a es:=by
 obtain ⟨h1,h3⟩:=h;refine ⟨h1,?_⟩;rcases h3 with h3 | ⟨b,off,h3,h4⟩
 ·exact Or.inl h3
 ·exact Or.inr ⟨b,off,h3,h4.below hb⟩
def iS (w:World)(b off:Nat)(es:List aN):Prop := ∀ i (h:i<es.length),w.cell? ⟨b,off+i*4,none⟩=some (.int .i64 es[i].place)/\w.cell? ⟨b,off+i*4+1,none⟩=some (.int .i64 es[i].kind)/\w.cell? ⟨b,off+i*4+2,none⟩=some (.int .i64 es[i].of)/\w.cell? ⟨b,off+i*4+3,none⟩=some (.int .i64 es[i].lie)
theorem iS.below {es:List aN}(h:iS w b off es)(hb:Cx w w'):iS w' b off es:=by
 intro i hi;obtain ⟨h0,h1,h2,h3⟩:=h i hi;exact ⟨cell_later hb h0,cell_later hb h1,cell_later hb h2,cell_later hb h3⟩
def cw (w:World)(a:Option Addr)(es:List aN):Prop:=es.length<=maxLen/\(es=[]\/∃ b off,a=some ⟨b,off,none⟩/\iS w b off es)
theorem cw.below {es:List aN}(h:cw w a es)(hb:Cx w w'):cw w' a es:=by
 obtain ⟨h1,h3⟩:=h;refine ⟨h1,?_⟩;rcases h3 with h3 | ⟨b,off,h3,h4⟩
 ·exact Or.inl h3
 ·exact Or.inr ⟨b,off,h3,h4.below hb⟩
theorem aT.kept {es:List am}(h:aT w a es)(hb:es=[]\/∀ b off,a=some ⟨b,off,none⟩->w'.heap[b]? = w.heap[b]?):aT w' a es:=by
 obtain ⟨h1,h3⟩:=h;refine ⟨h1,?_⟩;rcases h3 with h3 | ⟨b,off,h3,h4⟩
 ·exact Or.inl h3
 ·rcases hb with hb | hb
  ·exact Or.inl hb
  ·have e:=hb b off h3;exact Or.inr ⟨b,off,h3,fun i hi=>by obtain ⟨c1,c2⟩:=h4 i hi;exact ⟨(World.cell?_of_block (w:=w) e).trans c1,(World.cell?_of_block (w:=w) e).trans c2⟩⟩
theorem bV.kept (h:bV w a es)(hb:es=[]\/∀ b off,a=some ⟨b,off,none⟩->w'.heap[b]? = w.heap[b]?):bV w' a es:=by
 obtain ⟨h1,h3⟩:=h;refine ⟨h1,?_⟩;rcases h3 with h3 | ⟨b,off,h3,h4⟩
 ·exact Or.inl h3
 ·rcases hb with hb | hb
  ·exact Or.inl hb
  ·have e:=hb b off h3;exact Or.inr ⟨b,off,h3,fun i hi=>(World.cell?_of_block (w:=w) e).trans (h4 i hi)⟩
theorem bw.kept {es:List aI}(h:bw w a es)(hb:es=[]\/∀ b off,a=some ⟨b,off,none⟩->w'.heap[b]? = w.heap[b]?):bw w' a es:=by
 obtain ⟨h1,h3⟩:=h;refine ⟨h1,?_⟩;rcases h3 with h3 | ⟨b,off,h3,h4⟩
 ·exact Or.inl h3
 ·rcases hb with hb | hb
  ·exact Or.inl hb
  ·have e:=hb b off h3;exact Or.inr ⟨b,off,h3,fun i hi=>by obtain ⟨c0,c1,c2⟩:=h4 i hi;exact ⟨(World.cell?_of_block (w:=w) e).trans c0,(World.cell?_of_block (w:=w) e).trans c1,(World.cell?_of_block (w:=w) e).trans c2⟩⟩
theorem cw.kept {es:List aN}(h:cw w a es)(hb:es=[]\/∀ b off,a=some ⟨b,off,none⟩->w'.heap[b]? = w.heap[b]?):cw w' a es:=by
 obtain ⟨h1,h3⟩:=h;refine ⟨h1,?_⟩;rcases h3 with h3 | ⟨b,off,h3,h4⟩
 ·exact Or.inl h3
 ·rcases hb with hb | hb
  ·exact Or.inl hb
  ·have e:=hb b off h3;exact Or.inr ⟨b,off,h3,fun i hi=>by obtain ⟨c0,c1,c2,c3⟩:=h4 i hi;exact ⟨(World.cell?_of_block (w:=w) e).trans c0,(World.cell?_of_block (w:=w) e).trans c1,(World.cell?_of_block (w:=w) e).trans c2,(World.cell?_of_block (w:=w) e).trans c3⟩⟩
structure al where
 start:Int
 stop:Int
 CE:List am
 CA:List am
 Cy:List Int
 CF:List aI
 over:List aI
 Cz:List aN
structure aL where
 a0:Option Addr
 c0:Nat
 a1:Option Addr
 c1:Nat
 a2:Option Addr
 c2:Nat
 a3:Option Addr
 c3:Nat
 a4:Option Addr
 c4:Nat
 a5:Option Addr
 c5:Nat
structure bq (w:World)(d:aL)(r:al):Prop where
 CE:aT w d.a0 r.CE
 CA:aT w d.a1 r.CA
 Cy:bV w d.a2 r.Cy
 CF:bw w d.a3 r.CF
 over:bw w d.a4 r.over
 Cz:cw w d.a5 r.Cz
 nil1:d.a1=none->d.c1=0
theorem bq.below {d:aL}{r:al}(h:bq w d r)(hb:Cx w w'):bq w' d r:=
 ⟨h.CE.below hb,h.CA.below hb,h.Cy.below hb,h.CF.below hb,h.over.below hb,h.Cz.below hb,h.nil1⟩
def cC (d:aL)(r:al):Value:=
 .agg #[.int .i64 r.start,.int .i64 r.stop,.slice d.a0 r.CE.length d.c0,.slice d.a1 r.CA.length d.c1,.slice d.a2 r.Cy.length d.c2,.slice d.a3 r.CF.length d.c3,.slice d.a4 r.over.length d.c4,.slice d.a5 r.Cz.length d.c5]
structure aA (w:World)(b o:Nat)(d:aL)(r:al):Prop where
 k0:w.cell? ⟨b,o,none⟩=some (.int .i64 r.start)
 k1:w.cell? ⟨b,o+1,none⟩=some (.int .i64 r.stop)
 k2:w.cell? ⟨b,o+2,none⟩=some (.slice d.a0 r.CE.length d.c0)
 k3:w.cell? ⟨b,o+3,none⟩=some (.slice d.a1 r.CA.length d.c1)
 k4:w.cell? ⟨b,o+4,none⟩=some (.slice d.a2 r.Cy.length d.c2)
 k5:w.cell? ⟨b,o+5,none⟩=some (.slice d.a3 r.CF.length d.c3)
 k6:w.cell? ⟨b,o+6,none⟩=some (.slice d.a4 r.over.length d.c4)
 k7:w.cell? ⟨b,o+7,none⟩=some (.slice d.a5 r.Cz.length d.c5)
theorem aA.kept {o:Nat}{d:aL}{r:al}(h:aA w b o d r)(e:w'.heap[b]? = w.heap[b]?):aA w' b o d r:=
 ⟨(World.cell?_of_block (w:=w) e).trans h.k0,(World.cell?_of_block (w:=w) e).trans h.k1,(World.cell?_of_block (w:=w) e).trans h.k2,(World.cell?_of_block (w:=w) e).trans h.k3,
 (World.cell?_of_block (w:=w) e).trans h.k4,(World.cell?_of_block (w:=w) e).trans h.k5,(World.cell?_of_block (w:=w) e).trans h.k6,(World.cell?_of_block (w:=w) e).trans h.k7⟩
theorem aA.below {o:Nat}{d:aL}{r:al}(h:aA w b o d r)(hb:Cx w w'):aA w' b o d r:=
 h.kept (hb.block b (ai h.k0))
def jJ (w:World)(b off:Nat)(rs:List al):Prop := ∀ i (h:i<rs.length),∃ d,aA w b (off+i*8) d rs[i]/\bq w d rs[i]
theorem jJ.below {rs:List al}(h:jJ w b off rs)(hb:Cx w w'):jJ w' b off rs:=by
 intro i hi;obtain ⟨d,h1,h2⟩:=h i hi;exact ⟨d,h1.below hb,h2.below hb⟩
def dG (w:World)(a:Option Addr)(rs:List al):Prop:=rs.length<=maxLen/\(rs=[]\/∃ b off,a=some ⟨b,off,none⟩/\jJ w b off rs)
theorem dG.below {rs:List al}(h:dG w a rs)(hb:Cx w w'):dG w' a rs:=by
 obtain ⟨h1,h3⟩:=h;refine ⟨h1,?_⟩;rcases h3 with h3 | ⟨b,off,h3,h4⟩
 ·exact Or.inl h3
 ·exact Or.inr ⟨b,off,h3,h4.below hb⟩
def sJ (a:Option Addr)(n:Nat)(b:Nat):Prop:=n≠0/\∃ o s,a=some ⟨b,o,s⟩
end Go.Proofs.YtmkdgnmmebldgaaGreatDoor
