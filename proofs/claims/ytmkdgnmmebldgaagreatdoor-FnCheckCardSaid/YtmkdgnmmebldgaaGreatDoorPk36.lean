import Derived.Test.YtmkdgnmmebldgaaGreatDoorPk13
import Derived.Laws.ShiftsVarLaws
import Derived.Laws.IdiomStrings
import Derived.Test.YtmkdgnmmebldgaaGreatDoorPk15
import Derived.Test.YtmkdgnmmebldgaaGreatDoorPk16
set_option maxRecDepth 100000
set_option maxHeartbeats 8000000
open Go.Proofs.Tryz
namespace Go.Proofs.YtmkdgnmmebldgaaGreatDoor
open Go.RowKit Go.Deep
variable {b t:Nat}{w w':World}
def jr (w:World)(b off:Nat)(bs:List Int):Prop := ∀ i (h:i<bs.length),w.cell? ⟨b,off+i,none⟩=some (.int .u8 bs[i])
structure Cur (w:World)(C:Nat)(ca:Option Addr)(cc:Nat)(bs:List Int)(at_:Nat):Prop where
 c0:w.cell? ⟨C,0,none⟩=some (.slice ca bs.length cc)
 c1:w.cell? ⟨C,1,none⟩=some (.int .i64 (at_:Int))
 c2:∃ s,w.cell? ⟨C,2,none⟩=some (.int .u64 s)
 z:∀ o,w.frozen? ⟨C,o,none⟩=false
 lie:bs=[]\/∃ b off,ca=some ⟨b,off,none⟩/\b≠C/\jr w b off bs
 small:∀ x ∈ bs,0<=x/\x<256
 len:bs.length<=1048576
 sz:∀ o,3<=o->w.cell? ⟨C,o,none⟩=none
section
variable {w w':World} {C:Nat} {ca:Option Addr} {cc:Nat} {bs:List Int} {at_:Nat}
theorem Cur.lt (h:Cur w C ca cc bs at_):C<w.heap.size:=ai h.c0
theorem Cur.below (h:Cur w C ca cc bs at_)(hb:Cx w w'):Cur w' C ca cc bs at_:=by
 obtain ⟨s,hs⟩:=h.c2;refine ⟨cell_later hb h.c0,cell_later hb h.c1,⟨s,cell_later hb hs⟩,fun o=>(hb.frozen (p:=⟨C,o,none⟩) h.lt).trans (h.z o),?_,h.small,h.len,fun o ho=>(World.cell?_of_block (w:=w) (hb.block C h.lt)).trans (h.sz o ho)⟩
 rcases h.lie with h1 | ⟨b,off,h1,h2,h3⟩
 ·exact Or.inl h1
 ·exact Or.inr ⟨b,off,h1,h2,fun i hi=>cell_later hb (h3 i hi)⟩
theorem Cur.bytes_set (h:Cur w C ca cc bs at_)(o:Nat)(v:Value):bs=[]\/∃ b off,ca=some ⟨b,off,none⟩/\b≠C/\jr (w.setCell ⟨C,o,none⟩ v) b off bs:=by
 rcases h.lie with h1 | ⟨b,off,h1,h2,h3⟩
 ·exact Or.inl h1
 ·refine Or.inr ⟨b,off,h1,h2,fun i hi=>?_⟩
  refine (World.cell?_of_block (w:=w) ?_).trans (h3 i hi);exact Below.heap_setCell _ _ _ _ h2
theorem Cur.set1 (h:Cur w C ca cc bs at_)(n:Nat):Cur (w.setCell ⟨C,1,none⟩ (.int .i64 (n:Int))) C ca cc bs n:=by
 obtain ⟨s0,hs⟩:=h.c2;refine ⟨?_,World.cell?_setCell_same _ _ _ h.c1,⟨s0,?_⟩,fun o=>by rw [World.frozen?_setCell];exact h.z o,h.bytes_set _ _,h.small,h.len,fun o ho=>by rw [World.cell?_setCell_other _ _ _ _ (by intro e;injection e;omega)];exact h.sz o ho⟩
 ·rw [World.cell?_setCell_other _ _ _ _ CI];exact h.c0
 ·rw [World.cell?_setCell_other _ _ _ _ CI];exact hs
theorem Cur.set2 (h:Cur w C ca cc bs at_)(s:Int):Cur (w.setCell ⟨C,2,none⟩ (.int .u64 s)) C ca cc bs at_:=by
 obtain ⟨s0,hs⟩:=h.c2;refine ⟨?_,?_,⟨s,World.cell?_setCell_same _ _ _ hs⟩,fun o=>by rw [World.frozen?_setCell];exact h.z o,h.bytes_set _ _,h.small,h.len,fun o ho=>by rw [World.cell?_setCell_other _ _ _ _ (by intro e;injection e;omega)];exact h.sz o ho⟩
 ·rw [World.cell?_setCell_other _ _ _ _ CI];exact h.c0
 ·rw [World.cell?_setCell_other _ _ _ _ CI];exact h.c1
end
theorem BX (a:Int)(h0:0<=a)(h1:a<18446744073709551616):∃ x:Nat,x<256/\wrap64 (bits .and .u64 a 255)=(x:Int):=by
 obtain ⟨n,rfl⟩:∃ n:Nat,a=n:=⟨a.toNat,CG⟩
 have e:bits .and .u64 (n:Int) 255=((n &&& 255:Nat):Int):=u64_and_nat n 255 CG CG
 have hl:n &&& 255<=255:=Nat.and_le_right;refine ⟨n &&& 255,CG,?_⟩
 rw [e];generalize n &&& 255=m at hl;unfold wrap64;omega
theorem rG (x:Int):0<=IntKind.u64.wrap x / 1099511627776/\IntKind.u64.wrap x / 1099511627776<18446744073709551616:=by
 rw [IntKind.wrap_u64];omega
theorem lG (C:Nat)(ca:Option Addr)(cc:Nat)(bs:List Int)(at_:Nat)(w:World)(h:Hid (Cur w C ca cc bs at_))(ha:at_<=1000000000):
  Calls prog 74 #[.pointer (some ⟨C,0,none⟩)] w fun e w' => ∃ x:Nat,x<256/\e = .returned (.int .i64 (x:Int))/\Cur w' C ca cc bs (at_+1)/\ag (fun k=>k=C) w w':=by
 have c0:=h.out.c0;have c1:=h.out.c1;obtain ⟨s,c2⟩:=h.out.c2;have z1:=h.out.z 1;have z2:=h.out.z 2;have c:=h.out.len
 go_enter func74,ntmps74
 by_cases hc:at_<bs.length
 ·obtain ⟨b,off,d,hne,a⟩:=h.out.lie.resolve_left (nz hc);subst d;have d0:=a at_ hc;have f:=h.out.small _ (List.getElem_mem hc);have g:(at_:Int)<bs.length:=CG
  have l:=h.out.lt;have i:=ai d0;dsimp only at i;generalize bs[at_]=bv at d0 f;obtain ⟨bn,j⟩:∃ bn:Nat,bv=bn:=⟨bv.toNat,CG⟩
  subst j;clear a
  go_wp2_with fail
  go_quiet (fail)
  go_wp2_with fail
  go_quiet (fail)
  go_wp2_with fail
  refine bodyPost_ret (v:=.int .i64 (bn:Int)) (by simp [results,results74,go_sem]) rfl ⟨bn,CG,rfl,?_,?_⟩
  ·refine Cur.set2 (Cur.set1 (h.out.below ?_) (at_+1)) _;exact blo
  ·refine ag.setCell (S:=fun k=>k=C) (p:=⟨C,2,none⟩) (ag.setCell (S:=fun k=>k=C) (p:=⟨C,1,none⟩) (ag.of_below ?_) (Or.inl rfl) _) (Or.inl rfl) _
   exact blo
 ·have g:¬ (at_:Int)<bs.length:=CG
  go_wp2_with fail
  go_quiet (fail)
  go_wp2_with fail
  obtain ⟨x,hx,e⟩:=BX (IntKind.u64.wrap (IntKind.u64.wrap (s*6364136223846793005)+1442695040888963407) / 1099511627776) (rG _).1 (rG _).2;rw [e];refine bodyPost_ret (v:=.int .i64 (x:Int)) (by simp [results,results74,go_sem]) rfl ⟨x,hx,rfl,?_,?_⟩
  ·refine Cur.set1 (Cur.set2 (h.out.below ?_) _) (at_+1);exact blo
  ·refine ag.setCell (S:=fun k=>k=C) (p:=⟨C,1,none⟩) (ag.setCell (S:=fun k=>k=C) (p:=⟨C,2,none⟩) (ag.of_below ?_) (Or.inl rfl) _) (Or.inl rfl) _
   exact blo
theorem jR (z:Nat){n:Int}(h:0<n):∃ r:Nat,(z:Int) % n=r/\(r:Int)<n:=by
 have h1:=Int.emod_nonneg (z:Int) (show n≠0 by omega)
 have h2:=Int.emod_lt_of_pos (z:Int) h;exact ⟨((z:Int) % n).toNat,CG,CG⟩
def Cf (C:Nat)(ca:Option Addr)(cc:Nat)(bs:List Int)(at_ k:Nat)(n:Int)(w:World)(e:Ending)(w':World):Prop:=
 ∃ (x at':Nat),(x:Int)<n/\e = .returned (.int .i64 (x:Int))/\at'<=at_+k/\Cur w' C ca cc bs at'/\ag (fun k=>k=C) w w'
theorem aJ (C:Nat)(ca:Option Addr)(cc:Nat)(bs:List Int)(at_:Nat)(n:Int)(w:World)(h:Hid (Cur w C ca cc bs at_))(ha:at_<=900000000)(hn:n<=100000):
  Calls prog 32 #[.pointer (some ⟨C,0,none⟩),.int .i64 n] w (Cf C ca cc bs at_ 2 (max n 1) w):=by
 go_enter func32,ntmps32
 by_cases h1:n<=1
 ·go_wp2_with fail
  refine bodyPost_ret (v:=.int .i64 ((0:Nat):Int)) (by simp [results,results32,go_sem]) rfl ⟨0,at_,CG,rfl,CG,h.out,ag.refl _ _⟩
 ·have k:¬ n<=1:=h1
  go_wp2_with fail
  refine (lG C ca cc bs at_ w h CG).mono ?_
  rintro e w1 ⟨x,hx,rfl,a,b⟩;have c:=aa a;clear a
  by_cases h2:200<n
  ·go_wp2_with fail
   refine (lG C ca cc bs (at_+1) w1 c CG).mono ?_
   rintro e w2 ⟨y,hy,rfl,d,f⟩;have g:=aa d;clear d;have i:∃ z:Nat,(x:Int)*256+y=z/\z<65536:=⟨x*256+y,CG,CG⟩
   obtain ⟨z,hz,l⟩:=i
   go_wp2_with fail
   obtain ⟨r,hr,j⟩:=jR z (show 0<n by omega)
   rw [hr];refine bodyPost_ret (v:=.int .i64 (r:Int)) (by simp [results,results32,go_sem]) rfl ⟨r,at_+1+1,CG,rfl,CG,g.out,b.trans f⟩
  ·go_wp2_with fail
   obtain ⟨r,hr,j⟩:=jR x (show 0<n by omega)
   rw [hr];refine bodyPost_ret (v:=.int .i64 (r:Int)) (by simp [results,results32,go_sem]) rfl ⟨r,at_+1,CG,rfl,CG,c.out,b⟩
theorem iu (C:Nat)(ca:Option Addr)(cc:Nat)(bs:List Int)(at_:Nat)(n:Int)(w:World)(h:Hid (Cur w C ca cc bs at_))(ha:at_<=900000000)(hn:1<=n):
  Calls prog 31 #[.pointer (some ⟨C,0,none⟩),.int .i64 n] w (Cf C ca cc bs at_ 2 n w):=by
 go_enter func31,ntmps31
 go_wp2_with fail
 refine (lG C ca cc bs at_ w h CG).mono ?_
 rintro e w1 ⟨x,hx,rfl,a,c⟩;have d:=aa a;clear a
 go_wp2_with fail
 refine (lG C ca cc bs (at_+1) w1 d CG).mono ?_
 rintro e w2 ⟨y,hy,rfl,b,f⟩;have g:=aa b;clear b;have i:∃ z:Nat,(x:Int)*256+y=z/\z<65536:=⟨x*256+y,CG,CG⟩
 obtain ⟨z,hz,k⟩:=i;have l:n≠0:=CG
 go_wp2_with fail
 obtain ⟨r,hr,j⟩:=jR z (show 0<n by omega)
 rw [hr];refine bodyPost_ret (v:=.int .i64 (r:Int)) (by simp [results,results31,go_sem]) rfl ⟨r,at_+1+1,j,rfl,CG,g.out,c.trans f⟩
def sT (n:Int):ByteArray:=ByteArray.empty.push (UInt8.ofNat n.toNat)
theorem jQ (n:Int):(sT n).size=1:=rfl
theorem vY (w:World)(n:Int):
  (convert 22 9 (.slice (some ⟨w.heap.size,0,none⟩) 1 1)).run prog (w.alloc (.cells #[.int .u8 n] 5)) = .ok (.string (sT n)) (w.alloc (.cells #[.int .u8 n] 5)):=by
 rw [run_convert_bytes_string _ _ _ 5 _ _ _ underlying22 underlying5 underlying9];have hl:=run_loadCells_list (P:=prog) (w.alloc (.cells #[.int .u8 n] 5)) ⟨w.heap.size,0,none⟩ ([n].map (Value.int .u8)) (fun j v hj=>by
  match j,hj with
  | 0,hj=>simp at hj;subst hj;simp [Addr.add,go_sem])
 exact run_bytesToString _ _ 1 1 [n] hl
theorem oY (k:Int)(w:World)(h0:0<=k)(h1:k<=1000000):
  Calls prog 55 #[.int .i64 k] w fun e w'=>(∃ s:ByteArray,e = .returned (.string s)/\s.size<=1000001)/\Cx w w':=by
 by_cases hk:k=0
 ·subst hk
  go_enter func55,ntmps55
  go_wp2_with fail
  go_ret
  exact ⟨⟨_,rfl,CJ⟩,Below.refl _ _⟩
 ·have a:(k==0)=false:=by simp [hk]
  have b:¬ k<0:=CG
  go_enter func55,ntmps55
  go_wp2_with fail
  go_loopw [0,4] (fun kk o wr => ∃ (m:Int) (s:ByteArray),kk = .int .i64 m/\o = .string s/\0<=m/\(s.size:Int)+m<=1000000/\Cx w wr) (fun kk _ _=>(intOf kk).toNat)
  case atStart=>exact ⟨k,_,rfl,rfl,CG,by show (0:Int)+k<=_;omega,Below.refl _ _⟩
  case round =>
   obtain ⟨m,s,rfl,rfl,c,d,hb⟩:=hrel
   by_cases hm:0<m
   ·have f:=vY;have g:=jQ
    go_wp2_with fail
    go_roundw
    case rel =>
     have h:=hb.size;refine ⟨_,_,rfl,rfl,?_,?_,blo⟩
     ·omega
     ·have h2:=jQ (48+m % 10);simp only [ByteArray.size_append,h2];omega
    case measure=>simp [intOf];omega
   ·go_wp2_with fail
    go_ret
    exact ⟨⟨_,rfl,CG⟩,hb⟩
theorem Bp (W:World)(g:Nat)(n:Int)(h:W.cell? ⟨g,0,none⟩=some (.int .u8 n)):
  (convert 22 9 (.slice (some ⟨g,0,none⟩) 1 1)).run prog W = .ok (.string (sT n)) W:=by
 rw [run_convert_bytes_string _ _ _ 5 _ _ _ underlying22 underlying5 underlying9];have hl:=run_loadCells_list (P:=prog) W ⟨g,0,none⟩ ([n].map (Value.int .u8)) (fun j v hj=>by
  match j,hj with
  | 0,hj=>simp at hj;subst hj;simpa [Addr.add] using h)
 exact run_bytesToString _ _ 1 1 [n] hl
theorem gQ (c:Value)(i:Nat)(w:World)(h1:i<=100000):
  Calls prog 73 #[c,.int .i64 i] w fun e w'=>(∃ s:ByteArray,e = .returned (.string s)/\s.size<=1000002)/\Cx w w':=by
 obtain ⟨r0,b⟩:∃ r0:Int,(i:Int).tmod 26=r0:=⟨_,rfl⟩;have l:0<=r0/\r0<26:=by
  rw [<-b,Int.tmod_eq_emod_of_nonneg CG]
  omega
 obtain ⟨n0,d⟩:∃ n0:Int,IntKind.i64.wrap (97+r0)=n0:=⟨_,rfl⟩;have m:97<=n0/\n0<123:=by
  rw [<-d,IntKind.wrap_i64];omega
 have n:IntKind.u8.wrap n0=n0:=by
  rw [IntKind.wrap_u8];omega
 have f:Hid (Calls prog 55 #[.int .i64 i] ((w.alloc (.cells #[.int .u8 n0] 5)).drew) fun e w'=>(∃ s:ByteArray,e = .returned (.string s)/\s.size<=1000001)/\w'.cell? ⟨w.heap.size,0,none⟩=some (.int .u8 n0)/\Cx w w'):=
  (oY i _ CG CG).mono (fun e w' h=>⟨h.1,cell_later h.2 CO,Below.trans (CU.drew) (h.2.mono CI)⟩)
 have j:Hid (Calls prog 55 #[.int .i64 i] w.drew fun e w'=>(∃ s:ByteArray,e = .returned (.string s)/\s.size<=1000001)/\Cx w w'):=
  (oY i _ CG CG).mono (fun e w' h=>⟨h.1,Below.trans (CV.drew) (h.2.mono CI)⟩)
 have o:∀ (W:World) (g:Nat),W.cell? ⟨g,0,none⟩=some (.int .u8 n0)->(convert 22 9 (.slice (some ⟨g,0,none⟩) 1 1)).run prog W = .ok (.string (sT n0)) W:=fun W g h=>Bp W g _ h
 have p:=jQ;have q:(0:Int)<=i:=CG
 go_enter func73,ntmps73
 go_wp2_with fail
 go_region_with (go_at_call 55;first | (refine f.out.mono ?_;rintro e w1 ⟨⟨s,rfl,hs⟩,k0,a⟩;have k:=a.size) | (refine j.out.mono ?_;rintro e w1 ⟨⟨s,rfl,hs⟩,a⟩;have k:=a.size))
 all_goals
  go_wp2_with fail
  go_ret
  refine ⟨⟨_,rfl,?_⟩,?_⟩
  ·simp only [ByteArray.size_append,jQ];omega
  ·first
    | exact a
    | exact a.alloc CG _
    | exact blo
theorem Tryz.infoPiece:(prog.info? 133).map (fun i=>(i.zero,i.size,i.bytes))=some (some (.agg #[.string ⟨#[]⟩,.int .i64 0,.int .i64 0,.int .i64 0]),4,40):=CH
theorem Tryz.infoJoint:(prog.info? 109).map (fun i=>(i.zero,i.size,i.bytes))=some (some (.agg #[.int .i64 0,.string ⟨#[]⟩,.slice none 0 0]),3,48):=CH
theorem Tryz.infoEnd:(prog.info? 114).map (fun i=>(i.zero,i.size,i.bytes))=some (some (.agg #[.int .i64 0,.int .i64 0]),2,16):=CH
def dY (p:af):List Value:=[.string p.name,.int .i64 p.len,.int .i64 p.CD,.int .i64 p.CC]
def bd (ps:List af):List Value:=ps.flatMap dY
theorem eK (ps:List af)(p:af):bd ps++[.string p.name,.int .i64 p.len,.int .i64 p.CD,.int .i64 p.CC]=bd (ps++[p]):=by simp [bd,dY]
abbrev MJ:=Option Addr × Nat × aj
def fD (x:MJ):List Value:=[.int .i64 x.2.2.kind,.string x.2.2.name,.slice x.1 x.2.2.ends.length x.2.1]
def cq (js:List MJ):List Value:=js.flatMap fD
theorem fw (js:List MJ)(x:MJ):cq js++[.int .i64 x.2.2.kind,.string x.2.2.name,.slice x.1 x.2.2.ends.length x.2.1]=cq (js++[x]):=by simp [cq,fD]
def IsT (w:World)(t b:Nat):Prop := ∃ cur,w.heap[b]? = some (.cells cur t (0,0))
theorem IsT.lt (h:IsT w t b):b<w.heap.size:=by
 obtain ⟨a,h⟩:=h;exact (Array.getElem?_eq_some_iff.1 h).1
theorem IsT.kept (h:IsT w t b)(e:w'.heap[b]? = w.heap[b]?):IsT w' t b:=by
 obtain ⟨a,h⟩:=h;exact ⟨a,e.trans h⟩
theorem IsT.ne {B e s n:Nat}{v:Value}{xs:List Value}(h:IsT w t b)(ho:w.ownsRow B e s v n xs)(he:e≠t):v.ownBlock≠some b:=by
 rcases ho.2 with ⟨rfl,_⟩ | ⟨g,c,d,rfl,_,hg,_⟩
 ·simp [Value.ownBlock]
 ·simp only [Value.ownBlock,ne_eq,Option.some.injEq];rintro rfl;obtain ⟨a,h⟩:=h;rw [hg] at h;simp only [Option.some.injEq,Obj.cells.injEq] at h;exact he h.2.1
def gR (w:World)(N:Nat)(x:MJ):Prop:=aT w x.1 x.2.2.ends/\(x.2.2.ends=[]\/∀ b off,x.1=some ⟨b,off,none⟩->N<b/\IsT w 114 b)/\x.2.2.ends.length<=4
theorem gR.kept {N:Nat}{x:MJ}(h:gR w N x)(hk:∀ b,N<b->IsT w 114 b->w'.heap[b]? = w.heap[b]?):gR w' N x:=by
 obtain ⟨h1,h2,h3⟩:=h;refine ⟨h1.kept (h2.imp id (fun h2 b off e=>hk b (h2 b off e).1 (h2 b off e).2)),h2.imp id (fun h2 b off e=>⟨(h2 b off e).1,(h2 b off e).2.kept (hk b (h2 b off e).1 (h2 b off e).2)⟩),h3⟩
structure dv (w:World)(C N:Nat)(xp:Option Addr)(yp:Nat)(xj:Option Addr)(yj:Nat)(ps:List af)(js:List MJ):Prop where
 cn:C<N
 c0:w.cell? ⟨N,0,none⟩=some (.slice xp ps.length yp)
 c1:w.cell? ⟨N,1,none⟩=some (.slice xj js.length yj)
 z:∀ o,w.frozen? ⟨N,o,none⟩=false
 op:w.ownsRow (N+1) 133 4 (.slice xp ps.length yp) ps.length (bd ps)
 oj:w.ownsRow (N+1) 109 3 (.slice xj js.length yj) js.length (cq js)
 je:∀ x ∈ js,gR w N x
 pn:∀ p ∈ ps,p.name.size<=1000002/\1<=p.len/\p.len<=400
 jn:∀ x ∈ js,x.2.2.name.size<=1000002
section
variable {w w':World} {C N:Nat} {xp xj:Option Addr} {yp yj:Nat} {ps:List af} {js:List MJ}
theorem dv.lt (h:dv w C N xp yp xj yj ps js):N<w.heap.size:=ai h.c0
theorem dv.kept (h:dv w C N xp yp xj yj ps js)(hk:∀ b,N<=b->b<w.heap.size->w'.heap[b]? = w.heap[b]?):dv w' C N xp yp xj yj ps js:=by
 have hN:=hk N CW h.lt;refine ⟨h.cn,(World.cell?_of_block (w:=w) hN).trans h.c0,(World.cell?_of_block (w:=w) hN).trans h.c1,fun o=>?_,ax h.op (fun b hb=>hk b (by have:=(h.op.lt b hb).1;omega) (h.op.lt b hb).2),ax h.oj (fun b hb=>hk b (by have:=(h.oj.lt b hb).1;omega) (h.oj.lt b hb).2),fun x hx=>(h.je x hx).kept (fun b h1 h2=>hk b CG h2.lt),h.pn,h.jn⟩
 exact (World.frozen?_of_block (w:=w) hN).trans (h.z o)
theorem dv.below (h:dv w C N xp yp xj yj ps js)(hb:Cx w w'):dv w' C N xp yp xj yj ps js:=h.kept (fun b _ hz=>hb.block b hz)
theorem dv.only (h:dv w C N xp yp xj yj ps js)(hb:ag (fun k=>k=C) w w'):dv w' C N xp yp xj yj ps js:=h.kept (fun b h1 hz=>hb.block b hz (by have:=h.cn;omega))
theorem dv.pushP (h:dv w C N xp yp xj yj ps js){p:af}{x':Option Addr}{y':Nat}(hg:w.grownBy w' (Value.slice xp ps.length yp).ownBlock)(ho:w'.ownsRow (N+1) 133 4 (.slice x' (ps.length+1) y') (ps.length+1) (bd (ps++[p])))(hp:p.name.size<=1000002/\1<=p.len/\p.len<=400):
  dv (w'.setCell ⟨N,0,none⟩ (.slice x' (ps.length+1) y')) C N x' y' xj yj (ps++[p]) js:=by
 have hl:=h.lt;have hN:w'.heap[N]? = w.heap[N]? := hg.block N h.lt (fun e=>by have:=(h.op.lt N e.symm).1;omega)
 have el:(ps++[p]).length=ps.length+1:=CI
 have a:∀ b,N≠b->(w'.setCell ⟨N,0,none⟩ (.slice x' (ps.length+1) y')).heap[b]? = w'.heap[b]? := fun b hb=>Below.heap_setCell _ _ _ _ (fun e=>hb e.symm)
 refine ⟨h.cn,?_,?_,fun o=>?_,?_,?_,fun x hx=>?_,?_,h.jn⟩
 ·rw [el];exact World.cell?_setCell_same _ _ _ ((World.cell?_of_block (w:=w) hN).trans h.c0)
 ·rw [World.cell?_setCell_other _ _ _ _ CI]
  exact (World.cell?_of_block (w:=w) hN).trans h.c1
 ·rw [World.frozen?_setCell];exact (World.frozen?_of_block (w:=w) hN).trans (h.z o)
 ·rw [el];exact ownsRow_setCell_below ho (Nat.lt_succ_self N) _
 ·refine ownsRow_setCell_below (ax h.oj (fun b hb=>hg.block b (h.oj.lt b hb).2 (fun e=>?_))) (Nat.lt_succ_self N) _
  rcases aV (e:=109) (e':=133) CJ h.oj h.op with h1 | h1
  ·rw [h1] at hb;cases hb
  ·exact h1 (hb.trans e)
 ·refine (h.je x hx).kept (fun b h1 h2=>(a b CG).trans (hg.block b h2.lt (fun e=>h2.ne h.op CJ e.symm)))
 ·intro q hq;rcases List.mem_append.1 hq with hq | hq
  ·exact h.pn q hq
  ·have:q=p:=by simpa using hq
   rw [this];exact hp
theorem dv.pushJ (h:dv w C N xp yp xj yj ps js){x:MJ}{x':Option Addr}{y':Nat}(hg:w.grownBy w' (Value.slice xj js.length yj).ownBlock)(ho:w'.ownsRow (N+1) 109 3 (.slice x' (js.length+1) y') (js.length+1) (cq (js++[x])))(hx:x.2.2.name.size<=1000002)(hE:gR w N x):
  dv (w'.setCell ⟨N,1,none⟩ (.slice x' (js.length+1) y')) C N xp yp x' y' ps (js++[x]):=by
 have hl:=h.lt;have hN:w'.heap[N]? = w.heap[N]? := hg.block N h.lt (fun e=>by have:=(h.oj.lt N e.symm).1;omega)
 have el:(js++[x]).length=js.length+1:=CI
 have c:∀ b,N≠b->(w'.setCell ⟨N,1,none⟩ (.slice x' (js.length+1) y')).heap[b]? = w'.heap[b]? := fun b hb=>Below.heap_setCell _ _ _ _ (fun e=>hb e.symm)
 have a:∀ b,N<b->IsT w 114 b->(w'.setCell ⟨N,1,none⟩ (.slice x' (js.length+1) y')).heap[b]? = w.heap[b]? := fun b h1 h2=>(c b CG).trans (hg.block b h2.lt (fun e=>h2.ne h.oj CJ e.symm))
 refine ⟨h.cn,?_,?_,fun o=>?_,?_,?_,fun z hz=>?_,h.pn,?_⟩
 ·rw [World.cell?_setCell_other _ _ _ _ CI]
  exact (World.cell?_of_block (w:=w) hN).trans h.c0
 ·rw [el];exact World.cell?_setCell_same _ _ _ ((World.cell?_of_block (w:=w) hN).trans h.c1)
 ·rw [World.frozen?_setCell];exact (World.frozen?_of_block (w:=w) hN).trans (h.z o)
 ·refine ownsRow_setCell_below (ax h.op (fun b hb=>hg.block b (h.op.lt b hb).2 (fun e=>?_))) (Nat.lt_succ_self N) _
  rcases aV (e:=133) (e':=109) CJ h.op h.oj with h1 | h1
  ·rw [h1] at hb;cases hb
  ·exact h1 (hb.trans e)
 ·rw [el];exact ownsRow_setCell_below ho (Nat.lt_succ_self N) _
 ·rcases List.mem_append.1 hz with hz | hz
  ·exact (h.je z hz).kept a
  ·have:z=x:=by simpa using hz
   rw [this];exact hE.kept a
 ·intro q hq;rcases List.mem_append.1 hq with hq | hq
  ·exact h.jn q hq
  ·have:q=x:=by simpa using hq
   rw [this];exact hx
end
def eQ (C:Nat)(ca:Option Addr)(bs:List Int):Prop:=bs=[]\/∀ b off,ca=some ⟨b,off,none⟩->b<C
theorem Cur.above {C:Nat}{ca:Option Addr}{cc:Nat}{bs:List Int}{at_:Nat}(h:Cur w C ca cc bs at_)(hl:eQ C ca bs)(hk:∀ k,k<=C->w'.heap[k]? = w.heap[k]?):Cur w' C ca cc bs at_:=by
 have hC:=hk C CW;obtain ⟨s,hs⟩:=h.c2;refine ⟨(World.cell?_of_block (w:=w) hC).trans h.c0,(World.cell?_of_block (w:=w) hC).trans h.c1,⟨s,(World.cell?_of_block (w:=w) hC).trans hs⟩,fun o=>(World.frozen?_of_block (w:=w) hC).trans (h.z o),?_,h.small,h.len,fun o ho=>(World.cell?_of_block (w:=w) hC).trans (h.sz o ho)⟩
 rcases h.lie with h1 | ⟨b,off,h1,h2,h3⟩
 ·exact Or.inl h1
 ·rcases hl with hl | hl
  ·exact Or.inl hl
  ·exact Or.inr ⟨b,off,h1,h2,fun i hi=>(World.cell?_of_block (w:=w) (hk b (by have:=hl b off h1;omega))).trans (h3 i hi)⟩
theorem yS (D C N:Nat)(ca:Option Addr)(cc:Nat)(bs:List Int)(at_:Nat)(xp:Option Addr)(yp:Nat)(xj:Option Addr)(yj:Nat)(ps:List af)(js:List MJ)(w:World)(h:Hid (dv w C N xp yp xj yj ps js))(hc:Hid (Cur w C ca cc bs at_))(hlow:Hid (eQ C ca bs))(d0:w.cell? ⟨D,0,none⟩=some (.pointer (some ⟨C,0,none⟩)))(hD:Hid (C<D/\D≠N/\IsT w 257 D))(ha:at_<=800000000)(hl:ps.length<=1000):
  Calls prog 109 #[.pointer (some ⟨D,0,none⟩),.pointer (some ⟨N,0,none⟩)] w fun e w'=>e = .returned (.int .i64 ps.length)/\∃ xp' yp' p at',dv w' C N xp' yp' xj yj (ps++[p]) js/\Cur w' C ca cc bs at'/\at'<=at_+2/\w'.cell? ⟨D,0,none⟩=some (.pointer (some ⟨C,0,none⟩))/\IsT w' 257 D/\ag (fun k=>k=C\/N<=k) w w':=by
 have c0:=h.out.c0;have Y:=h.out.lt;have t:=ai d0;dsimp only at t;have Z:=h.out.cn
 go_enter func109,ntmps109
 go_wp2_with fail
 obtain ⟨S,hS⟩:∃ S:World->Prop,∀ u,S u↔(u.cell? ⟨N,0,none⟩=some (.slice xp ps.length yp)/\u.cell? ⟨D,0,none⟩=some (.pointer (some ⟨C,0,none⟩))):=⟨_,fun _=>Iff.rfl⟩
 have b:=aa hS;have r0:∀ u:an S,World.cell? u.val ⟨N,0,none⟩=some (.slice xp ps.length yp):=fun u=>((hS u.val).1 u.2).1
 have r1:∀ u:an S,World.cell? u.val ⟨D,0,none⟩=some (.pointer (some ⟨C,0,none⟩)):=fun u=>((hS u.val).1 u.2).2
 have q:S w.drew:=(hS _).2 ⟨c0,d0⟩;have hne:=aQ q;clear hS;refine bW 20 q ?_
 (refine ae 0 ?_;intro K hK;go_big_quiet_op;go_big_quiet_on);(refine ae 1 ?_;intro K hK;go_big_quiet_op;go_big_quiet_on);(refine ae 2 ?_;intro K hK;go_big_quiet_op;go_big_quiet_on);(refine ae 3 ?_;intro K hK;go_big_quiet_op;go_big_quiet_on);(refine ae 4 ?_;intro K hK;go_big_quiet_op;go_big_quiet_on);(refine ae 5 ?_;intro K hK;go_big_quiet_op;go_big_quiet_on);(refine ae 6 ?_;intro K hK;go_big_quiet_op;go_big_quiet_on);(refine ae 7 ?_;intro K hK;go_big_quiet_op;go_big_quiet_on);(refine ae 8 ?_;intro K hK;go_big_quiet_op;go_big_quiet_on);(refine ae 9 ?_;intro K hK;go_big_quiet_op;go_big_quiet_on)
 (refine ae 11 ?_;intro K hK;go_big_quiet_op;go_big_quiet_on);(refine ae 12 ?_;intro K hK;go_big_quiet_op;go_big_quiet_on);(refine ae 13 ?_;intro K hK;go_big_quiet_op;go_big_quiet_on);(refine ae 14 ?_;intro K hK;go_big_quiet_op;go_big_quiet_on)
 refine az 10 ?_;intro K hK
 go_wp2_with (go_at_call 73;refine (gQ _ ps.length _ CG).mono ?_;rintro e w2 ⟨⟨s,rfl,F⟩,j⟩)
 have d:Cx w w2:=CV.drew.trans j;have r:S w2:=(b.out _).2 ⟨cell_later d c0,cell_later d d0⟩;have G:=aa (h.out.below d);have H:=aa (hc.out.below d);have I:Hid (IsT w2 257 D):=hD.out.2.2.kept (d.block D t);have ab:=d.size;have J:=aa d;clear j d;refine hK _ _ (ak r) ?_;clear hK K;refine az 15 ?_;intro K hK
 go_wp2_with (go_at_call 31;refine (iu C ca cc bs at_ 300 w2 H CG CG).mono ?_;rintro e w3 ⟨x,at',hx,rfl,L,v,f⟩)
 have n:S w3:=by
  obtain ⟨s1,s2⟩:=(b.out _).1 r;exact (b.out _).2 ⟨f.cell s1 (by show ¬ N=C;omega),f.cell s2 (by have:=hD.out.1;show ¬ D=C;omega)⟩
 have i:=aa (G.out.only f);have M:=aa v;have y:Hid (IsT w3 257 D):=I.out.kept (f.block D CG (by have:=hD.out.1;omega))
 have ac:=f.size;have O:Hid (ag (fun k=>k=C\/N<=k) w w3):=(ag.of_below J.out).trans (f.mono (fun k hk=>Or.inl hk))
 clear v f;refine hK _ _ (ak n) ?_;clear hK K
 (refine ae 16 ?_;intro K hK;go_big_quiet_op;go_big_quiet_on);(refine ae 17 ?_;intro K hK;go_big_quiet_op;go_big_quiet_on)
 refine az 18 ?_;intro K hK
 go_wp2_with fail
 obtain ⟨p,hp⟩:∃ p:af,p=⟨s,20+(x:Int),100,20⟩:=⟨_,rfl⟩;have g:∀ o,S (World.alloc w3 o):=fun o=>by
  obtain ⟨s1,s2⟩:=(b.out _).1 n;have hb:=(Below.refl w3.heap.size w3).alloc CW o;exact (b.out _).2 ⟨cell_later hb s1,cell_later hb s2⟩
 refine hK _ _ (ak (g _)) ?_;clear hK K g;refine az 19 ?_;intro K hK;refine aU rfl (.tmp 15) (.tmp 29) 23 rfl (N+1) 133 _ 4 40 underlying23 Tryz.infoPiece rfl CJ (.slice xp ps.length yp) ps.length (bd ps) rfl i.out.op w3.heap.size rfl [.string s,.int .i64 (20+(x:Int)),.int .i64 100,.int .i64 20] rfl rfl CL CK CG CG ?_
 intro xp' yp' w4 A c;have l:w4.ownsRow (N+1) 133 4 (.slice xp' (ps.length+1) yp') (ps.length+1) (bd (ps++[p])):=by rw [<-eK,hp];exact A
 have R:=aa (i.out.pushP c l (by rw [hp];exact ⟨F,by show (1:Int)<=20+x;omega,by show (20:Int)+x<=400;omega⟩))
 have m:∀ k,k<=N->(Value.slice xp ps.length yp).ownBlock≠some k:=fun k hk e=>by have:=(i.out.op.lt k e).1;omega
 have B:w4.heap[N]? = w3.heap[N]? := c.block N i.out.lt (fun e=>m N CW e.symm)
 have E:w4.heap[D]? = w3.heap[D]? := c.block D CG (fun e=>y.out.ne i.out.op CJ e.symm)
 have g:S w4:=by
  obtain ⟨s1,s2⟩:=(b.out _).1 n;exact (b.out _).2 ⟨(World.cell?_of_block (w:=w3) B).trans s1,(World.cell?_of_block (w:=w3) E).trans s2⟩
 have n4:w4.cell? ⟨N,0,none⟩=some (.slice xp ps.length yp):=((b.out _).1 g).1;have d4:w4.cell? ⟨D,0,none⟩=some (.pointer (some ⟨C,0,none⟩)):=((b.out _).1 g).2;have z4:w4.frozen? ⟨N,0,none⟩=false:=(World.frozen?_of_block (w:=w3) B).trans (i.out.z 0);have T:=c.size;have U:=hD.out.2.1;have a:∀ k,k<N->(w4.setCell ⟨N,0,none⟩ (.slice xp' (ps.length+1) yp')).heap[k]? = w3.heap[k]? := fun k hk=>(Below.heap_setCell _ _ _ _ (show k≠N by omega)).trans (c.block k CG (fun e=>m k CG e.symm))
 have V:Hid (Cur (w4.setCell ⟨N,0,none⟩ (.slice xp' (ps.length+1) yp')) C ca cc bs at'):=M.out.above hlow.out (fun k hk=>a k CG)
 have W:Hid (IsT (w4.setCell ⟨N,0,none⟩ (.slice xp' (ps.length+1) yp')) 257 D):=y.out.kept ((Below.heap_setCell _ _ _ _ U).trans E);have X:Hid (ag (fun k=>k=C\/N<=k) w (w4.setCell ⟨N,0,none⟩ (.slice xp' (ps.length+1) yp'))):=O.out.trans ⟨c.os,c.tape,c.output,(by simpa using T),fun k _ hn=>a k (Nat.lt_of_not_le (fun h=>hn (Or.inr h)))⟩
 refine wpList_nil ⟨rfl,?_⟩;refine hK _ _ (ak g) ?_;clear hK K hne r0 r1 g n r q c A l a;refine a9 ?_;simp only [List.drop_succ_cons,List.drop_zero]
 go_wp2_with fail
 go_ret
 refine ⟨rfl,xp',yp',p,at',R.out,V.out,L,?_,W.out,X.out⟩;rw [World.cell?_setCell_other _ _ _ _ CI]
 exact d4
end Go.Proofs.YtmkdgnmmebldgaaGreatDoor
