import Derived.Test.YtmkdgnmmebldgabGreatDoorPl1
import Derived.RegionTactic
import Derived.Deep.RegionWith
import Derived.Deep.RegionHeld3
import Derived.Deep.QuietTactic
import Derived.BigQuiet
set_option maxRecDepth 100000
set_option maxHeartbeats 8000000
namespace Go.Proofs.YtmkdgnmmebldgabGreatDoor
open Go.RowKit Go.Deep
structure MPart where
 piece:Int
 lo:Int
 hi:Int
structure MFlank where
 place:Int
 kind:Int
 of:Int
 lie:Int
structure Only (S:Nat→Prop)(w w':World):Prop where
 os:w'.os=w.os
 tape:w'.tape=w.tape
 output:w'.output=w.output
 size:w.heap.size≤w'.heap.size
 block:∀ k,k<w.heap.size→¬ S k→w'.heap[k]? = w.heap[k]?
theorem Only.refl (S:Nat→Prop)(w:World):Only S w w:=⟨rfl,rfl,rfl,Nat.le_refl _,fun _ _ _=>rfl⟩
theorem Only.trans {S:Nat→Prop}{a b c:World}(h:Only S a b)(k:Only S b c):Only S a c:=
 ⟨k.os.trans h.os,k.tape.trans h.tape,k.output.trans h.output,Nat.le_trans h.size k.size,fun i hi hs=>(k.block i (Nat.lt_of_lt_of_le hi h.size) hs).trans (h.block i hi hs)⟩
theorem Only.mono {S S':Nat→Prop}{w w':World}(h:Only S w w')(hs:∀ k,S k→S' k):Only S' w w':=⟨h.os,h.tape,h.output,h.size,fun k hk hn=>h.block k hk (fun e=>hn (hs k e))⟩
theorem Only.of_below {S:Nat→Prop}{w w':World}(h:Below w.heap.size w w'):Only S w w':=⟨h.os,h.tape,h.output,h.size,fun k hk _=>h.block k hk⟩
theorem Only.below {S:Nat→Prop}{B:Nat}{w w':World}(h:Only S w w')(hB:B≤w.heap.size)(hs:∀ k,k<B→¬ S k):Below B w w':=⟨h.os,h.tape,h.output,h.size,fun k hk=>h.block k (Nat.lt_of_lt_of_le hk hB) (hs k hk)⟩
theorem Only.of_grown {S:Nat→Prop}{w w':World}{row:Option Nat}(h:w.grownBy w' row)(hs:∀ k,row=some k→S k):Only S w w':=⟨h.os,h.tape,h.output,h.size,fun k hk hn=>h.block k hk (fun e=>hn (hs k e.symm))⟩
theorem Only.drew {S:Nat→Prop}{a w:World}(h:Only S a w):Only S a w.drew:=⟨h.os,h.tape,h.output,h.size,h.block⟩
theorem Only.setCell {S:Nat→Prop}{a w:World}(h:Only S a w){p:Addr}(hp:S p.block∨a.heap.size≤p.block)(u:Value):Only S a (w.setCell p u):=
 ⟨h.os,h.tape,h.output,by have:=h.size;simpa [World.setCell] using this,fun k hk hn=>(Below.heap_setCell _ _ _ _ (by rintro rfl;rcases hp with hp | hp;exact hn hp;omega)).trans (h.block k hk hn)⟩
theorem Only.cell {S:Nat→Prop}{w w':World}(h:Only S w w'){p:Addr}{v:Value}(hc:w.cell? p=some v)(hs:¬ S p.block):w'.cell? p=some v:=
 (World.cell?_of_block (w:=w) (h.block p.block (cellLt hc) hs)).trans hc
def NumCells (w:World)(b off:Nat)(es:List Int):Prop := ∀ i (h:i<es.length),w.cell? ⟨b,off+i,none⟩=some (.int .i64 es[i])
theorem NumCells.below {w w':World}{b off:Nat}{es:List Int}(h:NumCells w b off es)(hb:Below w.heap.size w w'):NumCells w' b off es:=by
 intro i hi
 have h0:=h i hi
 exact cell_later hb h0
def NumsAt (w:World)(a:Option Addr)(es:List Int):Prop:=es.length≤maxLen∧(es=[]∨∃ b off,a=some ⟨b,off,none⟩∧NumCells w b off es)
theorem NumsAt.below {w w':World}{a:Option Addr}{es:List Int}(h:NumsAt w a es)(hb:Below w.heap.size w w'):NumsAt w' a es:=by
 obtain ⟨h1,h3⟩:=h
 refine ⟨h1,?_⟩
 rcases h3 with h3 | ⟨b,off,h3,h4⟩
 ·exact Or.inl h3
 ·exact Or.inr ⟨b,off,h3,h4.below hb⟩
def PartCells (w:World)(b off:Nat)(es:List MPart):Prop := ∀ i (h:i<es.length),w.cell? ⟨b,off+i*3,none⟩=some (.int .i64 es[i].piece)∧w.cell? ⟨b,off+i*3+1,none⟩=some (.int .i64 es[i].lo)∧w.cell? ⟨b,off+i*3+2,none⟩=some (.int .i64 es[i].hi)
theorem PartCells.below {w w':World}{b off:Nat}{es:List MPart}(h:PartCells w b off es)(hb:Below w.heap.size w w'):PartCells w' b off es:=by
 intro i hi
 obtain ⟨h0,h1,h2⟩:=h i hi
 exact ⟨cell_later hb h0,cell_later hb h1,cell_later hb h2⟩
def PartsAt (w:World)(a:Option Addr)(es:List MPart):Prop:=es.length≤maxLen∧(es=[]∨∃ b off,a=some ⟨b,off,none⟩∧PartCells w b off es)
theorem PartsAt.below {w w':World}{a:Option Addr}{es:List MPart}(h:PartsAt w a es)(hb:Below w.heap.size w w'):PartsAt w' a es:=by
 obtain ⟨h1,h3⟩:=h
 refine ⟨h1,?_⟩
 rcases h3 with h3 | ⟨b,off,h3,h4⟩
 ·exact Or.inl h3
 ·exact Or.inr ⟨b,off,h3,h4.below hb⟩
def FlankCells (w:World)(b off:Nat)(es:List MFlank):Prop := ∀ i (h:i<es.length),w.cell? ⟨b,off+i*4,none⟩=some (.int .i64 es[i].place)∧w.cell? ⟨b,off+i*4+1,none⟩=some (.int .i64 es[i].kind)∧w.cell? ⟨b,off+i*4+2,none⟩=some (.int .i64 es[i].of)∧w.cell? ⟨b,off+i*4+3,none⟩=some (.int .i64 es[i].lie)
theorem FlankCells.below {w w':World}{b off:Nat}{es:List MFlank}(h:FlankCells w b off es)(hb:Below w.heap.size w w'):FlankCells w' b off es:=by
 intro i hi
 obtain ⟨h0,h1,h2,h3⟩:=h i hi
 exact ⟨cell_later hb h0,cell_later hb h1,cell_later hb h2,cell_later hb h3⟩
def FlanksAt (w:World)(a:Option Addr)(es:List MFlank):Prop:=es.length≤maxLen∧(es=[]∨∃ b off,a=some ⟨b,off,none⟩∧FlankCells w b off es)
theorem FlanksAt.below {w w':World}{a:Option Addr}{es:List MFlank}(h:FlanksAt w a es)(hb:Below w.heap.size w w'):FlanksAt w' a es:=by
 obtain ⟨h1,h3⟩:=h
 refine ⟨h1,?_⟩
 rcases h3 with h3 | ⟨b,off,h3,h4⟩
 ·exact Or.inl h3
 ·exact Or.inr ⟨b,off,h3,h4.below hb⟩
theorem EndsAt.kept {w w':World}{a:Option Addr}{es:List MEnd}(h:EndsAt w a es)(hb:es=[]∨∀ b off,a=some ⟨b,off,none⟩→w'.heap[b]? = w.heap[b]?):EndsAt w' a es:=by
 obtain ⟨h1,h3⟩:=h
 refine ⟨h1,?_⟩
 rcases h3 with h3 | ⟨b,off,h3,h4⟩
 ·exact Or.inl h3
 ·rcases hb with hb | hb
  ·exact Or.inl hb
  ·have e:=hb b off h3
   exact Or.inr ⟨b,off,h3,fun i hi=>by obtain ⟨c1,c2⟩:=h4 i hi;exact ⟨(World.cell?_of_block (w:=w) e).trans c1,(World.cell?_of_block (w:=w) e).trans c2⟩⟩
theorem NumsAt.kept {w w':World}{a:Option Addr}{es:List Int}(h:NumsAt w a es)(hb:es=[]∨∀ b off,a=some ⟨b,off,none⟩→w'.heap[b]? = w.heap[b]?):NumsAt w' a es:=by
 obtain ⟨h1,h3⟩:=h
 refine ⟨h1,?_⟩
 rcases h3 with h3 | ⟨b,off,h3,h4⟩
 ·exact Or.inl h3
 ·rcases hb with hb | hb
  ·exact Or.inl hb
  ·have e:=hb b off h3
   exact Or.inr ⟨b,off,h3,fun i hi=>(World.cell?_of_block (w:=w) e).trans (h4 i hi)⟩
theorem PartsAt.kept {w w':World}{a:Option Addr}{es:List MPart}(h:PartsAt w a es)(hb:es=[]∨∀ b off,a=some ⟨b,off,none⟩→w'.heap[b]? = w.heap[b]?):PartsAt w' a es:=by
 obtain ⟨h1,h3⟩:=h
 refine ⟨h1,?_⟩
 rcases h3 with h3 | ⟨b,off,h3,h4⟩
 ·exact Or.inl h3
 ·rcases hb with hb | hb
  ·exact Or.inl hb
  ·have e:=hb b off h3
   exact Or.inr ⟨b,off,h3,fun i hi=>by obtain ⟨c0,c1,c2⟩:=h4 i hi;exact ⟨(World.cell?_of_block (w:=w) e).trans c0,(World.cell?_of_block (w:=w) e).trans c1,(World.cell?_of_block (w:=w) e).trans c2⟩⟩
theorem FlanksAt.kept {w w':World}{a:Option Addr}{es:List MFlank}(h:FlanksAt w a es)(hb:es=[]∨∀ b off,a=some ⟨b,off,none⟩→w'.heap[b]? = w.heap[b]?):FlanksAt w' a es:=by
 obtain ⟨h1,h3⟩:=h
 refine ⟨h1,?_⟩
 rcases h3 with h3 | ⟨b,off,h3,h4⟩
 ·exact Or.inl h3
 ·rcases hb with hb | hb
  ·exact Or.inl hb
  ·have e:=hb b off h3
   exact Or.inr ⟨b,off,h3,fun i hi=>by obtain ⟨c0,c1,c2,c3⟩:=h4 i hi;exact ⟨(World.cell?_of_block (w:=w) e).trans c0,(World.cell?_of_block (w:=w) e).trans c1,(World.cell?_of_block (w:=w) e).trans c2,(World.cell?_of_block (w:=w) e).trans c3⟩⟩
structure MRoute where
 start:Int
 stop:Int
 steps:List MEnd
 lies:List MEnd
 crosses:List Int
 parts:List MPart
 over:List MPart
 flanks:List MFlank
structure RAddr where
 a0:Option Addr
 c0:Nat
 a1:Option Addr
 c1:Nat
 a2:Option Addr
 c2:Nat
 a3:Option Addr
 c3:Nat
 a4:Option Addr
 c4:Nat
 a5:Option Addr
 c5:Nat
structure RListsAt (w:World)(d:RAddr)(r:MRoute):Prop where
 steps:EndsAt w d.a0 r.steps
 lies:EndsAt w d.a1 r.lies
 crosses:NumsAt w d.a2 r.crosses
 parts:PartsAt w d.a3 r.parts
 over:PartsAt w d.a4 r.over
 flanks:FlanksAt w d.a5 r.flanks
 nil1:d.a1=none→d.c1=0
theorem RListsAt.below {w w':World}{d:RAddr}{r:MRoute}(h:RListsAt w d r)(hb:Below w.heap.size w w'):RListsAt w' d r:=
 ⟨h.steps.below hb,h.lies.below hb,h.crosses.below hb,h.parts.below hb,h.over.below hb,h.flanks.below hb,h.nil1⟩
def routeV (d:RAddr)(r:MRoute):Value:=
 .agg #[.int .i64 r.start,.int .i64 r.stop,.slice d.a0 r.steps.length d.c0,.slice d.a1 r.lies.length d.c1,.slice d.a2 r.crosses.length d.c2,.slice d.a3 r.parts.length d.c3,.slice d.a4 r.over.length d.c4,.slice d.a5 r.flanks.length d.c5]
structure RouteCell (w:World)(b o:Nat)(d:RAddr)(r:MRoute):Prop where
 k0:w.cell? ⟨b,o,none⟩=some (.int .i64 r.start)
 k1:w.cell? ⟨b,o+1,none⟩=some (.int .i64 r.stop)
 k2:w.cell? ⟨b,o+2,none⟩=some (.slice d.a0 r.steps.length d.c0)
 k3:w.cell? ⟨b,o+3,none⟩=some (.slice d.a1 r.lies.length d.c1)
 k4:w.cell? ⟨b,o+4,none⟩=some (.slice d.a2 r.crosses.length d.c2)
 k5:w.cell? ⟨b,o+5,none⟩=some (.slice d.a3 r.parts.length d.c3)
 k6:w.cell? ⟨b,o+6,none⟩=some (.slice d.a4 r.over.length d.c4)
 k7:w.cell? ⟨b,o+7,none⟩=some (.slice d.a5 r.flanks.length d.c5)
theorem RouteCell.kept {w w':World}{b o:Nat}{d:RAddr}{r:MRoute}(h:RouteCell w b o d r)(e:w'.heap[b]? = w.heap[b]?):RouteCell w' b o d r:=
 ⟨(World.cell?_of_block (w:=w) e).trans h.k0,(World.cell?_of_block (w:=w) e).trans h.k1,(World.cell?_of_block (w:=w) e).trans h.k2,(World.cell?_of_block (w:=w) e).trans h.k3,
 (World.cell?_of_block (w:=w) e).trans h.k4,(World.cell?_of_block (w:=w) e).trans h.k5,(World.cell?_of_block (w:=w) e).trans h.k6,(World.cell?_of_block (w:=w) e).trans h.k7⟩
theorem RouteCell.below {w w':World}{b o:Nat}{d:RAddr}{r:MRoute}(h:RouteCell w b o d r)(hb:Below w.heap.size w w'):RouteCell w' b o d r:=
 h.kept (hb.block b (cellLt h.k0))
def RouteCells (w:World)(b off:Nat)(rs:List MRoute):Prop := ∀ i (h:i<rs.length),∃ d,RouteCell w b (off+i*8) d rs[i]∧RListsAt w d rs[i]
theorem RouteCells.below {w w':World}{b off:Nat}{rs:List MRoute}(h:RouteCells w b off rs)(hb:Below w.heap.size w w'):RouteCells w' b off rs:=by
 intro i hi
 obtain ⟨d,h1,h2⟩:=h i hi
 exact ⟨d,h1.below hb,h2.below hb⟩
def RoutesAt (w:World)(a:Option Addr)(rs:List MRoute):Prop:=rs.length≤maxLen∧(rs=[]∨∃ b off,a=some ⟨b,off,none⟩∧RouteCells w b off rs)
theorem RoutesAt.below {w w':World}{a:Option Addr}{rs:List MRoute}(h:RoutesAt w a rs)(hb:Below w.heap.size w w'):RoutesAt w' a rs:=by
 obtain ⟨h1,h3⟩:=h
 refine ⟨h1,?_⟩
 rcases h3 with h3 | ⟨b,off,h3,h4⟩
 ·exact Or.inl h3
 ·exact Or.inr ⟨b,off,h3,h4.below hb⟩
theorem eqPieceS_walk (a b:Option Addr)(ac bc:Nat)(ps:List MPiece)(w:World)(ha:Hid (PiecesAt w a ps))(hb:Hid (PiecesAt w b ps)):
  Calls Tryz.prog 43 #[.slice a ps.length ac,.slice b ps.length bc] w fun e w'=>e = .returned (.bool true)∧Below w.heap.size w w':=by
 have hl:=ha.out.1
 unfold maxLen at hl
 go_enter Tryz.func43,Tryz.ntmps43
 go_wp2_with fail
 go_loopw [5] (fun i wr => ∃ (k:Nat),k≤ps.length∧i = .int .i64 k∧Below w.heap.size w wr) (fun i _=>ps.length-(intOf i).toNat)
 case atStart=>exact ⟨0,Nat.zero_le _,rfl,blo⟩
 case round =>
  obtain ⟨k,hk,rfl,hbw⟩:=hrel
  by_cases hk':k<ps.length
  ·obtain ⟨b1,off1,rfl,hpc1⟩:=ha.out.2.2.resolve_left (nz hk')
   obtain ⟨b2,off2,rfl,hpc2⟩:=hb.out.2.2.resolve_left (nz hk')
   obtain ⟨c1,c2,c3,c4⟩:=(hpc1.below hbw) k hk'
   obtain ⟨d1,d2,d3,d4⟩:=(hpc2.below hbw) k hk'
   clear hpc1 hpc2
   go_wp2_with fail
   go_region_with (go_at_call 79;refine (eqPiece_any _ _ _ _ _).mono ?_;rintro e w2 ⟨rfl,hb2⟩)
   all_goals
    go_wp2_with fail
    go_roundw
    case rel=>exact ⟨k+1,by omega,by go_num,hbw.drew.trans (hb2.mono hbw.size)⟩
    case measure=>simp [intOf];omega
  ·go_wp2
   go_ret
   exact ⟨rfl,hbw⟩
theorem eqEndS_walk (a b:Option Addr)(ac bc:Nat)(ps:List MEnd)(w:World)(ha:Hid (EndsAt w a ps))(hb:Hid (EndsAt w b ps)):
  Calls Tryz.prog 121 #[.slice a ps.length ac,.slice b ps.length bc] w fun e w'=>e = .returned (.bool true)∧Below w.heap.size w w':=by
 have hl:=ha.out.1
 unfold maxLen at hl
 go_enter Tryz.func121,Tryz.ntmps121
 go_wp2_with fail
 go_loopw [5] (fun i wr => ∃ (k:Nat),k≤ps.length∧i = .int .i64 k∧Below w.heap.size w wr) (fun i _=>ps.length-(intOf i).toNat)
 case atStart=>exact ⟨0,Nat.zero_le _,rfl,blo⟩
 case round =>
  obtain ⟨k,hk,rfl,hbw⟩:=hrel
  by_cases hk':k<ps.length
  ·obtain ⟨b1,off1,rfl,hpc1⟩:=ha.out.2.resolve_left (nz hk')
   obtain ⟨b2,off2,rfl,hpc2⟩:=hb.out.2.resolve_left (nz hk')
   obtain ⟨c1,c2⟩:=(hpc1.below hbw) k hk'
   obtain ⟨d1,d2⟩:=(hpc2.below hbw) k hk'
   clear hpc1 hpc2
   go_wp2_with fail
   go_region_with (go_at_call 157;refine (eqEnd_any _ _ _).mono ?_;rintro e w2 ⟨rfl,hb2⟩)
   all_goals
    go_wp2_with fail
    go_roundw
    case rel=>exact ⟨k+1,by omega,by go_num,hbw.drew.trans (hb2.mono hbw.size)⟩
    case measure=>simp [intOf];omega
  ·go_wp2
   go_ret
   exact ⟨rfl,hbw⟩
theorem eqJoint_any (kd:Int)(s:ByteArray)(a b:Option Addr)(ac bc:Nat)(ps:List MEnd)(w:World)(ha:Hid (EndsAt w a ps))(hb:Hid (EndsAt w b ps)):
  Calls Tryz.prog 80 #[.agg #[.int .i64 kd,.string s,.slice a ps.length ac],.agg #[.int .i64 kd,.string s,.slice b ps.length bc]] w fun e w'=>e = .returned (.bool true)∧Below w.heap.size w w':=by
 go_enter Tryz.func80,Tryz.ntmps80
 go_wp2_with fail
 refine (eqEndS_walk _ _ _ _ _ _ (ha.out.below blo) (hb.out.below blo)).mono ?_
 rintro e w2 ⟨rfl,hb2⟩
 have hb3:Below w.heap.size w w2:=Below.trans blo (hb2.mono (by simp;omega))
 clear hb2
 go_wp2_with fail
 go_ret
 exact ⟨rfl,hb3⟩
theorem eqJointS_walk (a b:Option Addr)(ac bc:Nat)(ps:List MJoint)(w:World)(ha:Hid (JointsAt w a ps))(hb:Hid (JointsAt w b ps)):
  Calls Tryz.prog 44 #[.slice a ps.length ac,.slice b ps.length bc] w fun e w'=>e = .returned (.bool true)∧Below w.heap.size w w':=by
 have hl:=ha.out.1
 unfold maxLen at hl
 go_enter Tryz.func44,Tryz.ntmps44
 go_wp2_with fail
 go_loopw [5] (fun i wr => ∃ (k:Nat),k≤ps.length∧i = .int .i64 k∧Below w.heap.size w wr) (fun i _=>ps.length-(intOf i).toNat)
 case atStart=>exact ⟨0,Nat.zero_le _,rfl,blo⟩
 case round =>
  obtain ⟨k,hk,rfl,hbw⟩:=hrel
  by_cases hk':k<ps.length
  ·obtain ⟨b1,off1,rfl,hpc1⟩:=ha.out.2.2.resolve_left (nz hk')
   obtain ⟨b2,off2,rfl,hpc2⟩:=hb.out.2.2.resolve_left (nz hk')
   obtain ⟨c1,c2,ea,ec,c3,c4⟩:=(hpc1.below hbw) k hk'
   obtain ⟨d1,d2,eb,ed,d3,d4⟩:=(hpc2.below hbw) k hk'
   have C4:=hidP c4
   have D4:=hidP d4
   clear hpc1 hpc2 c4 d4
   go_wp2_with fail
   go_region_with (go_at_call 80;refine (eqJoint_any _ _ _ _ _ _ _ _ (C4.out.below (Below.refl _ _).drew) (D4.out.below (Below.refl _ _).drew)).mono ?_;rintro e w2 ⟨rfl,hb2⟩)
   all_goals
    go_wp2_with fail
    go_roundw
    case rel=>exact ⟨k+1,by omega,by go_num,hbw.drew.trans (hb2.mono hbw.size)⟩
    case measure=>simp [intOf];omega
  ·go_wp2
   go_ret
   exact ⟨rfl,hbw⟩
theorem eqNet_any (pa ja pb jb:Option Addr)(pac jac pbc jbc:Nat)(ps:List MPiece)(js:List MJoint)(w:World)(hpa:Hid (PiecesAt w pa ps))(hja:Hid (JointsAt w ja js))(hpb:Hid (PiecesAt w pb ps))(hjb:Hid (JointsAt w jb js)):
  Calls Tryz.prog 17 #[.agg #[.slice pa ps.length pac,.slice ja js.length jac],.agg #[.slice pb ps.length pbc,.slice jb js.length jbc]] w fun e w'=>e = .returned (.bool true)∧Below w.heap.size w w':=by
 go_enter Tryz.func17,Tryz.ntmps17
 go_wp2_with fail
 refine (eqPieceS_walk _ _ _ _ _ _ (hpa.out.below blo) (hpb.out.below blo)).mono ?_
 rintro e w2 ⟨rfl,hb2⟩
 have hb3:Below w.heap.size w w2:=Below.trans blo (hb2.mono (by simp;omega))
 obtain ⟨hc,hf⟩:=bcell hb2
 have hz:w.heap.size+2≤w2.heap.size:=by have:=hb2.size;simpa using this
 clear hb2
 go_wp2_with fail
 refine (eqJointS_walk _ _ _ _ _ _ (hja.out.below hb3) (hjb.out.below hb3)).mono ?_
 rintro e w3 ⟨rfl,hb4⟩
 have hb5:Below w.heap.size w w3:=hb3.trans (hb4.mono hb3.size)
 clear hb4 hc hf
 go_wp2_with fail
 go_ret
 exact ⟨rfl,hb5⟩
def SzOk (ps:List MPiece)(js:List MJoint):Prop:=ps.length≤1048576∧js.length≤1048576∧∀ j,j ∈ js→j.ends.length≤1048576
theorem szP_le:∀ (ps:List MPiece)(left:Int),0≤left→szP left ps≤left ∧ -1≤szP left ps
 | [],left,h=>⟨Int.le_refl _,by simp only [szP];omega⟩
 | p::r,left,h=>by
  simp only [szP]
  by_cases h1:left<p.name.size
  ·rw [if_pos h1];omega
  ·rw [if_neg h1]
   have:=szP_le r (left-p.name.size) (by omega)
   omega
theorem szJ_le:∀ (ps:List MJoint)(left:Int),0≤left→szJ left ps≤left ∧ -1≤szJ left ps∧(0≤szJ left ps→∀ j,j ∈ ps→(j.ends.length:Int)≤left)
 | [],left,h=>⟨Int.le_refl _,by simp only [szJ];omega,fun _ j hj=>absurd hj List.not_mem_nil⟩
 | p::r,left,h=>by
  simp only [szJ]
  by_cases h1:left<p.name.size
  ·rw [if_pos h1];exact ⟨by omega,by omega,fun h=>absurd h (by omega)⟩
  ·rw [if_neg h1]
   by_cases h2:left-p.name.size<p.ends.length
   ·rw [if_pos h2];exact ⟨by omega,by omega,fun h=>absurd h (by omega)⟩
   ·rw [if_neg h2]
    have:=szJ_le r (left-p.name.size-p.ends.length) (by omega)
    refine ⟨by omega,by omega,fun h3 j hj=>?_⟩
    rcases List.mem_cons.1 hj with rfl | hj
    ·omega
    ·have:=this.2.2 h3 j hj
     omega
theorem szNet_any (pa ja:Option Addr)(pc jc:Nat)(ps:List MPiece)(js:List MJoint)(left:Int)(w:World)(hp:Hid (PiecesAt w pa ps))(hj:Hid (JointsAt w ja js))(h0:0≤left)(h1:left≤1048576):
  Calls Tryz.prog 6 #[.agg #[.slice pa ps.length pc,.slice ja js.length jc],.int .i64 left] w fun e w' => ∃ r:Int,e = .returned (.int .i64 r)∧r≤1048576∧(0≤r→SzOk ps js)∧Below w.heap.size w w':=by
 have hr:∃ r1:Int,(if left<ps.length then -1 else szP (left-ps.length) ps)=r1∧r1≤left ∧ -1≤r1∧(0≤r1→(ps.length:Int)≤1048576):=by
  refine ⟨_,rfl,?_⟩
  by_cases h:left<ps.length
  ·rw [if_pos h];exact ⟨by omega,by omega,fun h=>absurd h (by omega)⟩
  ·rw [if_neg h]
   have:=szP_le ps (left-ps.length) (by omega)
   exact ⟨by omega,by omega,fun _=>by omega⟩
 obtain ⟨r1,hr1,hr2,hr3,hr4⟩:=hr
 have HR1:=hidP hr1
 have HR4:=hidP hr4
 clear hr1 hr4
 go_enter Tryz.func6,Tryz.ntmps6
 go_wp2_with fail
 refine (szPieceS_any _ _ _ _ _ (hp.out.below blo) h0 h1).mono ?_
 rintro e w1 ⟨rfl,hb1⟩
 rw [HR1.out]
 have hb2:Below w.heap.size w w1:=Below.trans blo (hb1.mono (by simp))
 obtain ⟨hc,hf⟩:=bcell hb1
 clear hb1
 by_cases hn:r1<0
 ·go_wp2_with fail
  go_ret
  exact ⟨-1,rfl,by omega,fun h=>absurd h (by omega),hb2⟩
 ·have hs:∃ r2:Int,(if r1<js.length then -1 else szJ (r1-js.length) js)=r2∧r2≤r1 ∧ -1≤r2∧(0≤r2→(js.length:Int)≤1048576∧∀ j,j ∈ js→(j.ends.length:Int)≤1048576):=by
   refine ⟨_,rfl,?_⟩
   by_cases h:r1<js.length
   ·rw [if_pos h];exact ⟨by omega,by omega,fun h=>absurd h (by omega)⟩
   ·rw [if_neg h]
    have:=szJ_le js (r1-js.length) (by omega)
    exact ⟨by omega,by omega,fun h3=>⟨by omega,fun j hj=>by have:=this.2.2 h3 j hj;omega⟩⟩
  obtain ⟨r2,hs1,hs2,hs3,hs4⟩:=hs
  have HS1:=hidP hs1
  have HS4:=hidP hs4
  clear hs1 hs4
  go_wp2_with fail
  refine (szJointS_any _ _ _ _ _ (hj.out.below hb2) (by omega) (by omega)).mono ?_
  rintro e w2 ⟨rfl,hb3⟩
  rw [HS1.out]
  have hb4:Below w.heap.size w w2:=hb2.trans (hb3.mono hb2.size)
  clear hb3 hc hf
  by_cases hn2:r2<0
  ·go_wp2_with fail
   go_ret
   exact ⟨-1,rfl,by omega,fun h=>absurd h (by omega),hb4⟩
  ·go_wp2_with fail
   go_ret
   refine ⟨r2,rfl,by omega,fun h=>?_,hb4⟩
   have a1:=HR4.out (by omega)
   have a2:=HS4.out h
   exact ⟨by omega,by omega,fun j hj=>by have:=a2.2 j hj;omega⟩
theorem eqStep_any (x0 x1:Int)(w:World):
  Calls Tryz.prog 122 #[.agg #[.int .i64 x0,.int .i64 x1],.agg #[.int .i64 x0,.int .i64 x1]] w fun e w'=>e = .returned (.bool true)∧Below w.heap.size w w':=by
 go_enter Tryz.func122,Tryz.ntmps122
 go_wp2
 go_ret
 exact ⟨rfl,blo⟩
theorem eqLie_any (x0 x1:Int)(w:World):
  Calls Tryz.prog 123 #[.agg #[.int .i64 x0,.int .i64 x1],.agg #[.int .i64 x0,.int .i64 x1]] w fun e w'=>e = .returned (.bool true)∧Below w.heap.size w w':=by
 go_enter Tryz.func123,Tryz.ntmps123
 go_wp2
 go_ret
 exact ⟨rfl,blo⟩
theorem eqPart_any (x0 x1 x2:Int)(w:World):
  Calls Tryz.prog 124 #[.agg #[.int .i64 x0,.int .i64 x1,.int .i64 x2],.agg #[.int .i64 x0,.int .i64 x1,.int .i64 x2]] w fun e w'=>e = .returned (.bool true)∧Below w.heap.size w w':=by
 go_enter Tryz.func124,Tryz.ntmps124
 go_wp2
 go_ret
 exact ⟨rfl,blo⟩
theorem eqFlank_any (x0 x1 x2 x3:Int)(w:World):
  Calls Tryz.prog 125 #[.agg #[.int .i64 x0,.int .i64 x1,.int .i64 x2,.int .i64 x3],.agg #[.int .i64 x0,.int .i64 x1,.int .i64 x2,.int .i64 x3]] w fun e w'=>e = .returned (.bool true)∧Below w.heap.size w w':=by
 go_enter Tryz.func125,Tryz.ntmps125
 go_wp2
 go_ret
 exact ⟨rfl,blo⟩
theorem eqStepS_walk (a b:Option Addr)(ac bc:Nat)(ps:List MEnd)(w:World)(ha:Hid (EndsAt w a ps))(hb:Hid (EndsAt w b ps)):
  Calls Tryz.prog 81 #[.slice a ps.length ac,.slice b ps.length bc] w fun e w'=>e = .returned (.bool true)∧Below w.heap.size w w':=by
 have hl:=ha.out.1
 unfold maxLen at hl
 go_enter Tryz.func81,Tryz.ntmps81
 go_wp2_with fail
 go_loopw [5] (fun i wr => ∃ (k:Nat),k≤ps.length∧i = .int .i64 k∧Below w.heap.size w wr) (fun i _=>ps.length-(intOf i).toNat)
 case atStart=>exact ⟨0,Nat.zero_le _,rfl,blo⟩
 case round =>
  obtain ⟨k,hk,rfl,hbw⟩:=hrel
  by_cases hk':k<ps.length
  ·obtain ⟨b1,off1,rfl,hpc1⟩:=ha.out.2.resolve_left (nz hk')
   obtain ⟨b2,off2,rfl,hpc2⟩:=hb.out.2.resolve_left (nz hk')
   obtain ⟨c0,c1⟩:=(hpc1.below hbw) k hk'
   obtain ⟨d0,d1⟩:=(hpc2.below hbw) k hk'
   clear hpc1 hpc2
   go_wp2_with fail
   go_region_with (go_at_call 122;refine (eqStep_any _ _ _).mono ?_;rintro e w2 ⟨rfl,hb2⟩)
   all_goals
    go_wp2_with fail
    go_roundw
    case rel=>exact ⟨k+1,by omega,by go_num,hbw.drew.trans (hb2.mono hbw.size)⟩
    case measure=>simp [intOf];omega
  ·go_wp2
   go_ret
   exact ⟨rfl,hbw⟩
theorem eqLieS_walk (a b:Option Addr)(ac bc:Nat)(ps:List MEnd)(w:World)(ha:Hid (EndsAt w a ps))(hb:Hid (EndsAt w b ps)):
  Calls Tryz.prog 82 #[.slice a ps.length ac,.slice b ps.length bc] w fun e w'=>e = .returned (.bool true)∧Below w.heap.size w w':=by
 have hl:=ha.out.1
 unfold maxLen at hl
 go_enter Tryz.func82,Tryz.ntmps82
 go_wp2_with fail
 go_loopw [5] (fun i wr => ∃ (k:Nat),k≤ps.length∧i = .int .i64 k∧Below w.heap.size w wr) (fun i _=>ps.length-(intOf i).toNat)
 case atStart=>exact ⟨0,Nat.zero_le _,rfl,blo⟩
 case round =>
  obtain ⟨k,hk,rfl,hbw⟩:=hrel
  by_cases hk':k<ps.length
  ·obtain ⟨b1,off1,rfl,hpc1⟩:=ha.out.2.resolve_left (nz hk')
   obtain ⟨b2,off2,rfl,hpc2⟩:=hb.out.2.resolve_left (nz hk')
   obtain ⟨c0,c1⟩:=(hpc1.below hbw) k hk'
   obtain ⟨d0,d1⟩:=(hpc2.below hbw) k hk'
   clear hpc1 hpc2
   go_wp2_with fail
   go_region_with (go_at_call 123;refine (eqLie_any _ _ _).mono ?_;rintro e w2 ⟨rfl,hb2⟩)
   all_goals
    go_wp2_with fail
    go_roundw
    case rel=>exact ⟨k+1,by omega,by go_num,hbw.drew.trans (hb2.mono hbw.size)⟩
    case measure=>simp [intOf];omega
  ·go_wp2
   go_ret
   exact ⟨rfl,hbw⟩
theorem eqIntS_walk (a b:Option Addr)(ac bc:Nat)(ps:List Int)(w:World)(ha:Hid (NumsAt w a ps))(hb:Hid (NumsAt w b ps)):
  Calls Tryz.prog 26 #[.slice a ps.length ac,.slice b ps.length bc] w fun e w'=>e = .returned (.bool true)∧Below w.heap.size w w':=by
 have hl:=ha.out.1
 unfold maxLen at hl
 go_enter Tryz.func26,Tryz.ntmps26
 go_wp2_with fail
 go_loopw [5] (fun i wr => ∃ (k:Nat),k≤ps.length∧i = .int .i64 k∧Below w.heap.size w wr) (fun i _=>ps.length-(intOf i).toNat)
 case atStart=>exact ⟨0,Nat.zero_le _,rfl,blo⟩
 case round =>
  obtain ⟨k,hk,rfl,hbw⟩:=hrel
  by_cases hk':k<ps.length
  ·obtain ⟨b1,off1,rfl,hpc1⟩:=ha.out.2.resolve_left (nz hk')
   obtain ⟨b2,off2,rfl,hpc2⟩:=hb.out.2.resolve_left (nz hk')
   have c0:=(hpc1.below hbw) k hk'
   have d0:=(hpc2.below hbw) k hk'
   clear hpc1 hpc2
   go_wp2_with fail
   go_quiet (fail)
   go_wp2_with fail
   go_roundw
   case rel=>exact ⟨k+1,by omega,by go_num,blo⟩
   case measure=>simp [intOf];omega
  ·go_wp2
   go_ret
   exact ⟨rfl,hbw⟩
theorem eqPartS_walk (a b:Option Addr)(ac bc:Nat)(ps:List MPart)(w:World)(ha:Hid (PartsAt w a ps))(hb:Hid (PartsAt w b ps)):
  Calls Tryz.prog 83 #[.slice a ps.length ac,.slice b ps.length bc] w fun e w'=>e = .returned (.bool true)∧Below w.heap.size w w':=by
 have hl:=ha.out.1
 unfold maxLen at hl
 go_enter Tryz.func83,Tryz.ntmps83
 go_wp2_with fail
 go_loopw [5] (fun i wr => ∃ (k:Nat),k≤ps.length∧i = .int .i64 k∧Below w.heap.size w wr) (fun i _=>ps.length-(intOf i).toNat)
 case atStart=>exact ⟨0,Nat.zero_le _,rfl,blo⟩
 case round =>
  obtain ⟨k,hk,rfl,hbw⟩:=hrel
  by_cases hk':k<ps.length
  ·obtain ⟨b1,off1,rfl,hpc1⟩:=ha.out.2.resolve_left (nz hk')
   obtain ⟨b2,off2,rfl,hpc2⟩:=hb.out.2.resolve_left (nz hk')
   obtain ⟨c0,c1,c2⟩:=(hpc1.below hbw) k hk'
   obtain ⟨d0,d1,d2⟩:=(hpc2.below hbw) k hk'
   clear hpc1 hpc2
   go_wp2_with fail
   go_region_with (go_at_call 124;refine (eqPart_any _ _ _ _).mono ?_;rintro e w2 ⟨rfl,hb2⟩)
   all_goals
    go_wp2_with fail
    go_roundw
    case rel=>exact ⟨k+1,by omega,by go_num,hbw.drew.trans (hb2.mono hbw.size)⟩
    case measure=>simp [intOf];omega
  ·go_wp2
   go_ret
   exact ⟨rfl,hbw⟩
theorem eqFlankS_walk (a b:Option Addr)(ac bc:Nat)(ps:List MFlank)(w:World)(ha:Hid (FlanksAt w a ps))(hb:Hid (FlanksAt w b ps)):
  Calls Tryz.prog 84 #[.slice a ps.length ac,.slice b ps.length bc] w fun e w'=>e = .returned (.bool true)∧Below w.heap.size w w':=by
 have hl:=ha.out.1
 unfold maxLen at hl
 go_enter Tryz.func84,Tryz.ntmps84
 go_wp2_with fail
 go_loopw [5] (fun i wr => ∃ (k:Nat),k≤ps.length∧i = .int .i64 k∧Below w.heap.size w wr) (fun i _=>ps.length-(intOf i).toNat)
 case atStart=>exact ⟨0,Nat.zero_le _,rfl,blo⟩
 case round =>
  obtain ⟨k,hk,rfl,hbw⟩:=hrel
  by_cases hk':k<ps.length
  ·obtain ⟨b1,off1,rfl,hpc1⟩:=ha.out.2.resolve_left (nz hk')
   obtain ⟨b2,off2,rfl,hpc2⟩:=hb.out.2.resolve_left (nz hk')
   obtain ⟨c0,c1,c2,c3⟩:=(hpc1.below hbw) k hk'
   obtain ⟨d0,d1,d2,d3⟩:=(hpc2.below hbw) k hk'
   clear hpc1 hpc2
   go_wp2_with fail
   go_region_with (go_at_call 125;refine (eqFlank_any _ _ _ _ _).mono ?_;rintro e w2 ⟨rfl,hb2⟩)
   all_goals
    go_wp2_with fail
    go_roundw
    case rel=>exact ⟨k+1,by omega,by go_num,hbw.drew.trans (hb2.mono hbw.size)⟩
    case measure=>simp [intOf];omega
  ·go_wp2
   go_ret
   exact ⟨rfl,hbw⟩
theorem eqRoute_any (d d':RAddr)(r:MRoute)(w:World)(ha:Hid (RListsAt w d r))(hb:Hid (RListsAt w d' r)):
  Calls Tryz.prog 46 #[routeV d r,routeV d' r] w fun e w'=>e = .returned (.bool true)∧Below w.heap.size w w':=by
 unfold routeV
 go_enter Tryz.func46,Tryz.ntmps46
 go_wp2_with fail
 generalize hW:(w.alloc _).alloc _=W
 have x0:W.cell? ⟨w.heap.size,0,none⟩=some (.int .i64 r.start):=by rw [← hW];simp [go_sem]
 have x1:W.cell? ⟨w.heap.size,1,none⟩=some (.int .i64 r.stop):=by rw [← hW];simp [go_sem]
 have x2:W.cell? ⟨w.heap.size,2,none⟩=some (.slice d.a0 r.steps.length d.c0):=by rw [← hW];simp [go_sem]
 have x3:W.cell? ⟨w.heap.size,3,none⟩=some (.slice d.a1 r.lies.length d.c1):=by rw [← hW];simp [go_sem]
 have x4:W.cell? ⟨w.heap.size,4,none⟩=some (.slice d.a2 r.crosses.length d.c2):=by rw [← hW];simp [go_sem]
 have x5:W.cell? ⟨w.heap.size,5,none⟩=some (.slice d.a3 r.parts.length d.c3):=by rw [← hW];simp [go_sem]
 have x6:W.cell? ⟨w.heap.size,6,none⟩=some (.slice d.a4 r.over.length d.c4):=by rw [← hW];simp [go_sem]
 have x7:W.cell? ⟨w.heap.size,7,none⟩=some (.slice d.a5 r.flanks.length d.c5):=by rw [← hW];simp [go_sem]
 have y0:W.cell? ⟨w.heap.size+1,0,none⟩=some (.int .i64 r.start):=by rw [← hW];simp [go_sem]
 have y1:W.cell? ⟨w.heap.size+1,1,none⟩=some (.int .i64 r.stop):=by rw [← hW];simp [go_sem]
 have y2:W.cell? ⟨w.heap.size+1,2,none⟩=some (.slice d'.a0 r.steps.length d'.c0):=by rw [← hW];simp [go_sem]
 have y3:W.cell? ⟨w.heap.size+1,3,none⟩=some (.slice d'.a1 r.lies.length d'.c1):=by rw [← hW];simp [go_sem]
 have y4:W.cell? ⟨w.heap.size+1,4,none⟩=some (.slice d'.a2 r.crosses.length d'.c2):=by rw [← hW];simp [go_sem]
 have y5:W.cell? ⟨w.heap.size+1,5,none⟩=some (.slice d'.a3 r.parts.length d'.c3):=by rw [← hW];simp [go_sem]
 have y6:W.cell? ⟨w.heap.size+1,6,none⟩=some (.slice d'.a4 r.over.length d'.c4):=by rw [← hW];simp [go_sem]
 have y7:W.cell? ⟨w.heap.size+1,7,none⟩=some (.slice d'.a5 r.flanks.length d'.c5):=by rw [← hW];simp [go_sem]
 have hz:w.heap.size+2≤W.heap.size:=by rw [← hW];simp
 have hbW:Below w.heap.size w W:=by rw [← hW];exact blo
 have HA:=hidP (ha.out.below hbW)
 have HB:=hidP (hb.out.below hbW)
 clear hW
 refine (eqStepS_walk _ _ _ _ _ _ (HA.out.steps) (HB.out.steps)).mono ?_
 rintro e w0 ⟨rfl,hb0⟩
 have hB0:Below W.heap.size W w0:=hb0
 replace x3:=cell_later hb0 x3
 replace x4:=cell_later hb0 x4
 replace x5:=cell_later hb0 x5
 replace x6:=cell_later hb0 x6
 replace x7:=cell_later hb0 x7
 replace y3:=cell_later hb0 y3
 replace y4:=cell_later hb0 y4
 replace y5:=cell_later hb0 y5
 replace y6:=cell_later hb0 y6
 replace y7:=cell_later hb0 y7
 have hz0:w.heap.size+2≤w0.heap.size:=by have:=hB0.size;omega
 clear hb0 x2 y2
 go_wp2_with fail
 refine (eqLieS_walk _ _ _ _ _ _ ((HA.out.below hB0).lies) ((HB.out.below hB0).lies)).mono ?_
 rintro e w1 ⟨rfl,hb1⟩
 have hB1:Below W.heap.size W w1:=hB0.trans (hb1.mono hB0.size)
 replace x4:=cell_later hb1 x4
 replace x5:=cell_later hb1 x5
 replace x6:=cell_later hb1 x6
 replace x7:=cell_later hb1 x7
 replace y4:=cell_later hb1 y4
 replace y5:=cell_later hb1 y5
 replace y6:=cell_later hb1 y6
 replace y7:=cell_later hb1 y7
 have hz1:w.heap.size+2≤w1.heap.size:=by have:=hB1.size;omega
 clear hb1 hB0 hz0 x3 y3
 go_wp2_with fail
 refine (eqIntS_walk _ _ _ _ _ _ ((HA.out.below hB1).crosses) ((HB.out.below hB1).crosses)).mono ?_
 rintro e w2 ⟨rfl,hb2⟩
 have hB2:Below W.heap.size W w2:=hB1.trans (hb2.mono hB1.size)
 replace x5:=cell_later hb2 x5
 replace x6:=cell_later hb2 x6
 replace x7:=cell_later hb2 x7
 replace y5:=cell_later hb2 y5
 replace y6:=cell_later hb2 y6
 replace y7:=cell_later hb2 y7
 have hz2:w.heap.size+2≤w2.heap.size:=by have:=hB2.size;omega
 clear hb2 hB1 hz1 x4 y4
 go_wp2_with fail
 refine (eqPartS_walk _ _ _ _ _ _ ((HA.out.below hB2).parts) ((HB.out.below hB2).parts)).mono ?_
 rintro e w3 ⟨rfl,hb3⟩
 have hB3:Below W.heap.size W w3:=hB2.trans (hb3.mono hB2.size)
 replace x6:=cell_later hb3 x6
 replace x7:=cell_later hb3 x7
 replace y6:=cell_later hb3 y6
 replace y7:=cell_later hb3 y7
 have hz3:w.heap.size+2≤w3.heap.size:=by have:=hB3.size;omega
 clear hb3 hB2 hz2 x5 y5
 go_wp2_with fail
 refine (eqPartS_walk _ _ _ _ _ _ ((HA.out.below hB3).over) ((HB.out.below hB3).over)).mono ?_
 rintro e w4 ⟨rfl,hb4⟩
 have hB4:Below W.heap.size W w4:=hB3.trans (hb4.mono hB3.size)
 replace x7:=cell_later hb4 x7
 replace y7:=cell_later hb4 y7
 have hz4:w.heap.size+2≤w4.heap.size:=by have:=hB4.size;omega
 clear hb4 hB3 hz3 x6 y6
 go_wp2_with fail
 refine (eqFlankS_walk _ _ _ _ _ _ ((HA.out.below hB4).flanks) ((HB.out.below hB4).flanks)).mono ?_
 rintro e w5 ⟨rfl,hb5⟩
 have hB5:Below W.heap.size W w5:=hB4.trans (hb5.mono hB4.size)
 have hz5:w.heap.size+2≤w5.heap.size:=by have:=hB5.size;omega
 clear hb5 hB4 hz4 x7 y7
 go_wp2_with fail
 go_ret
 exact ⟨rfl,hbW.trans (hB5.mono hbW.size)⟩
theorem eqRouteS_walk (a b:Option Addr)(ac bc:Nat)(ps:List MRoute)(w:World)(ha:Hid (RoutesAt w a ps))(hb:Hid (RoutesAt w b ps)):
  Calls Tryz.prog 19 #[.slice a ps.length ac,.slice b ps.length bc] w fun e w'=>e = .returned (.bool true)∧Below w.heap.size w w':=by
 have hl:=ha.out.1
 unfold maxLen at hl
 go_enter Tryz.func19,Tryz.ntmps19
 go_wp2_with fail
 go_loopw [5] (fun i wr => ∃ (k:Nat),k≤ps.length∧i = .int .i64 k∧Below w.heap.size w wr) (fun i _=>ps.length-(intOf i).toNat)
 case atStart=>exact ⟨0,Nat.zero_le _,rfl,blo⟩
 case round =>
  obtain ⟨k,hk,rfl,hbw⟩:=hrel
  by_cases hk':k<ps.length
  ·obtain ⟨b1,off1,rfl,hpc1⟩:=ha.out.2.resolve_left (nz hk')
   obtain ⟨b2,off2,rfl,hpc2⟩:=hb.out.2.resolve_left (nz hk')
   obtain ⟨d1,⟨c0,c1,c2,c3,c4,c5,c6,c7⟩,l1⟩:=(hpc1.below hbw) k hk'
   obtain ⟨d2,⟨x0,x1,x2,x3,x4,x5,x6,x7⟩,l2⟩:=(hpc2.below hbw) k hk'
   have L1:=hidP l1
   have L2:=hidP l2
   clear hpc1 hpc2 l1 l2
   go_wp2_with fail
   go_region_with (go_at_call 46;refine (eqRoute_any d1 d2 ps[k] _ (L1.out.below (Below.refl _ _).drew) (L2.out.below (Below.refl _ _).drew)).mono ?_;rintro e w2 ⟨rfl,hb2⟩)
   all_goals
    go_wp2_with fail
    go_roundw
    case rel=>exact ⟨k+1,by omega,by go_num,hbw.drew.trans (hb2.mono hbw.size)⟩
    case measure=>simp [intOf];omega
  ·go_wp2
   go_ret
   exact ⟨rfl,hbw⟩
def BlkOf (a:Option Addr)(n:Nat)(b:Nat):Prop:=n≠0∧∃ o s,a=some ⟨b,o,s⟩
end Go.Proofs.YtmkdgnmmebldgabGreatDoor
