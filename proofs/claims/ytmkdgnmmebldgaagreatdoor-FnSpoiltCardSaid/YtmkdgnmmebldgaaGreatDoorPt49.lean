import Derived.Test.YtmkdgnmmebldgaaGreatDoorPt53
import Derived.Test.YtmkdgnmmebldgaaGreatDoorPt48
import Derived.Deep.DeepCutAuto
import Derived.Deep.CutBlock
import Derived.Great.BuildSlice
set_option maxRecDepth 100000
set_option maxHeartbeats 200000000
namespace Go.Proofs.YtmkdgnmmebldgaaGreatDoor
open Go.RowKit Go.Deep
structure NetW (w:World)(C N B:Nat)(xp:Option Addr)(yp:Nat)(xj:Option Addr)(yj:Nat)(ps:List MPiece)(js:List MJ):Prop where
 cn:C<N
 nb:N<B
 c0:w.cell? ⟨N,0,none⟩=some (.slice xp ps.length yp)
 c1:w.cell? ⟨N,1,none⟩=some (.slice xj js.length yj)
 op:w.ownsRow B 133 4 (.slice xp ps.length yp) ps.length (flatPc ps)
 oj:w.ownsRow B 109 3 (.slice xj js.length yj) js.length (flatJ js)
 je:∀ x ∈ js,w.ownsRow B 114 2 (.slice x.1 x.2.2.ends.length x.2.1) x.2.2.ends.length (flatE x.2.2.ends)∧x.2.2.ends.length≤6
 pn:∀ p ∈ ps,p.name.size≤maxLen
 jn:∀ x ∈ js,x.2.2.name.size≤maxLen
def SgBk (w:World)(b:Nat):Prop := ∃ cur fz,w.heap[b]? = some (.cells cur 62 fz)
def NetKeepT (B:Nat)(w':World)(xp xj:Option Addr)(ps:List MPiece)(js:List MJoint):Prop := ∀ u:World,(∀ b,B≤b→b<w'.heap.size→¬ SgBk w' b→u.heap[b]? = w'.heap[b]?)→PiecesAt u xp ps∧JointsAt u xj js
theorem owns_noSig {w:World}{B e s n:Nat}{v:Value}{xs:List Value}(h:w.ownsRow B e s v n xs)(he:e≠62){b:Nat}(hb:v.ownBlock=some b):¬ SgBk w b:=by
 rintro ⟨cur,fz,e1⟩
 rcases h.2 with ⟨hv,_⟩ | ⟨g,cap,c2,hv,_,hg,_⟩
 ·rw [hv] at hb
  cases hb
 ·rw [hv] at hb
  cases hb
  rw [hg] at e1
  injection e1 with e1
  injection e1 with _ e2 _
  exact he e2
theorem owns_sig {w:World}{B s n:Nat}{v:Value}{xs:List Value}(h:w.ownsRow B 62 s v n xs){b:Nat}(hb:v.ownBlock=some b):SgBk w b:=by
 rcases h.2 with ⟨hv,_⟩ | ⟨g,cap,c2,hv,_,hg,_⟩
 ·rw [hv] at hb
  cases hb
 ·rw [hv] at hb
  cases hb
  exact ⟨_,_,hg⟩
def Sp (W:World)(C N B:Nat)(ca:Option Addr)(cc:Nat)(bs:List Int)(top:Nat)(wx:World):Prop:=
 ∃ xp yp xj yj ps js at_,NetW wx C N B xp yp xj yj ps js∧at_≤top∧Cur wx C ca cc bs at_∧Only (fun k=>k=C∨k=N∨B≤k) W wx∧ps.length≤2000
def Sq (W:World)(C N B:Nat)(ca:Option Addr)(cc:Nat)(bs:List Int)(at_:Nat)(wx:World):Prop:=
 ∃ xp yp xj yj ps js at',NetG wx C N B xp yp xj yj ps js∧ps.length≤1000∧js.length≤1000+ps.length∧at'≤at_+4+2*ps.length∧Cur wx C ca cc bs at'∧Only (fun k=>k=C∨k=N∨B≤k) W wx
def lenNp (w:World)(N:Nat):Nat:=match w.cell? ⟨N,0,none⟩ with
 | some (.slice _ n _)=>n
 | _=>0
theorem endsAt_row {w:World}{B y:Nat}{x:Option Addr}{es:List MEnd}(h:w.ownsRow B 114 2 (.slice x es.length y) es.length (flatE es))(hl:es.length≤6):EndsAt w x es:=by
 obtain ⟨a,cap,e1,e2,_,_⟩:=ownE (es:=es) h (by unfold maxLen;omega)
 injection e1 with e1 _ _
 rw [e1]
 exact e2
section
variable {w w':World} {C N B:Nat} {xp xj:Option Addr} {yp yj:Nat} {ps:List MPiece} {js:List MJ}
theorem NetG.toW (h:NetG w C N B xp yp xj yj ps js):NetW w C N B xp yp xj yj ps js:=⟨h.cn,h.nb,h.c0,h.c1,h.op,h.oj,fun x hx=>⟨(h.je x hx).1,by have:=(h.je x hx).2;omega⟩,h.pn,h.jn⟩
theorem NetG.nilP (h:NetG w C N B xp yp xj yj ps js):NetG (w.setCell ⟨N,0,none⟩ (.slice none 0 0)) C N B none 0 xj yj [] js:=by
 have hset:∀ b,N≠b→(w.setCell ⟨N,0,none⟩ (.slice none 0 0)).heap[b]? = w.heap[b]? := fun b hb=>Below.heap_setCell _ _ _ _ (fun e=>hb e.symm)
 refine ⟨h.cn,h.nb,World.cell?_setCell_same _ _ _ h.c0,?_,fun o=>by rw [World.frozen?_setCell];exact h.z o,World.ownsRow_nil _ _ _ _,ownsRow_setCell_below h.oj h.nb _,fun x hx=>(h.je x hx).kept (fun b h1 _=>hset b (by have:=h.nb;omega)),h.ap,fun p hp=>(by cases hp),h.jn⟩
 rw [World.cell?_setCell_other _ _ _ _ (by simp)];exact h.c1
theorem NetG.cutJ {g:Nat}(h:NetG w C N B xp yp (some ⟨g,0,none⟩) yj ps js){n:Nat}(hn:js.length=n+1):NetG (w.setCell ⟨N,1,none⟩ (.slice (some ⟨g,0,none⟩) n yj)) C N B xp yp (some ⟨g,0,none⟩) yj ps (js.take n):=by
 have hset:∀ b,N≠b→(w.setCell ⟨N,1,none⟩ (.slice (some ⟨g,0,none⟩) n yj)).heap[b]? = w.heap[b]? := fun b hb=>Below.heap_setCell _ _ _ _ (fun e=>hb e.symm)
 have hl:(js.take n).length=n:=by rw [List.length_take];omega
 have hoj:=h.oj
 rw [hn] at hoj
 have hoj:=owns_shrink hoj
 have hf:(flatJ js).take (n*3)=flatJ (js.take n):=by
  have e:flatJ js=flatJ (js.take n)++flatJ (js.drop n):=by unfold flatJ;rw [← List.flatMap_append,List.take_append_drop]
  have e2:(flatJ (js.take n)).length=n*3:=by
   have:=flat_len encJ 3 (fun _=>rfl) (js.take n)
   rw [hl] at this
   exact this
  rw [e,List.take_append_of_le_length (by omega),List.take_of_length_le (by omega)]
 rw [hf] at hoj
 refine ⟨h.cn,h.nb,?_,?_,fun o=>by rw [World.frozen?_setCell];exact h.z o,ownsRow_setCell_below h.op h.nb _,by rw [hl];exact ownsRow_setCell_below hoj h.nb _,fun x hx=>(h.je x (List.mem_of_mem_take hx)).kept (fun b h1 _=>hset b (by have:=h.nb;omega)),h.ap.sublist (List.take_sublist _ _),h.pn,fun x hx=>h.jn x (List.mem_of_mem_take hx)⟩
 ·rw [World.cell?_setCell_other _ _ _ _ (by simp)];exact h.c0
 ·rw [hl];exact World.cell?_setCell_same _ _ _ h.c1
theorem NetG.growE {gj:Nat}(h:NetG w C N B xp yp (some ⟨gj,0,none⟩) yj ps js){i:Nat}(hi:i<js.length){e:MEnd}{x':Option Addr}{y':Nat}(hg:w.grownBy w' (ownJ js[i]))(ho:w'.ownsRow B 114 2 (.slice x' (js[i].2.2.ends.length+1) y') (js[i].2.2.ends.length+1) (flatE (js[i].2.2.ends++[e]))):
  NetW (w'.setCell ⟨gj,i*3+2,none⟩ (.slice x' (js[i].2.2.ends.length+1) y')) C N B xp yp (some ⟨gj,0,none⟩) yj ps (js.set i (x',y',⟨js[i].2.2.kind,js[i].2.2.name,js[i].2.2.ends++[e]⟩)):=by
 obtain ⟨a0,a1,a2,a3,a4,a5⟩:=h.turnE hi hg
 obtain ⟨h1,h2⟩:=a4.stored (i*3+2) (.slice x' (js[i].2.2.ends.length+1) y')
 rw [show (flatJ js).set (i*3+2) (.slice x' (js[i].2.2.ends.length+1) y')=flatJ (js.set i (x',y',⟨js[i].2.2.kind,js[i].2.2.name,js[i].2.2.ends++[e]⟩)) from (flat_set encJ 3 (fun _=>rfl) js i 2 hi (by omega) _ _ (by simp [encJ])).symm] at h1
 have hN:=h2.block N (by have:=(a4.lt gj rfl).2;have:=(a4.lt gj rfl).1;have:=h.nb;omega) (fun e=>by injection e with e;have:=(a4.lt gj rfl).1;have:=h.nb;omega)
 have hne:∀ b,gj≠b→(w'.setCell ⟨gj,i*3+2,none⟩ (.slice x' (js[i].2.2.ends.length+1) y')).heap[b]? = w'.heap[b]? := fun b hb=>Below.heap_setCell _ _ _ _ (fun e=>hb e.symm)
 have hlen:(js.set i (x',y',⟨js[i].2.2.kind,js[i].2.2.name,js[i].2.2.ends++[e]⟩)).length=js.length:=by simp
 have hnj:∀ {v:Value} {n:Nat} {xs:List Value},w'.ownsRow B 114 2 v n xs→(w'.setCell ⟨gj,i*3+2,none⟩ (.slice x' (js[i].2.2.ends.length+1) y')).ownsRow B 114 2 v n xs:=fun hv=>hv.kept h2 (owns_ne (e:=114) (e':=109) (by decide) hv a4)
 refine ⟨h.cn,h.nb,(World.cell?_of_block (w:=w') hN).trans a0,by rw [hlen];exact (World.cell?_of_block (w:=w') hN).trans a1,a3.kept h2 (owns_ne (e:=133) (e':=109) (by decide) a3 a4),by rw [hlen];exact h1,fun x hm=>?_,h.pn,fun x hm=>?_⟩
 ·obtain ⟨k,hk,rfl⟩:=List.getElem_of_mem hm
  rw [List.getElem_set]
  split
  ·refine ⟨hnj (by simpa using ho),?_⟩
   have:=(h.je _ (List.getElem_mem hi)).2
   show (js[i].2.2.ends++[e]).length≤6
   simp
   omega
  ·have hE:=a5 k (by simpa using hk) (by omega)
   exact ⟨hnj hE.1,by have:=hE.2;omega⟩
 ·rcases List.mem_or_eq_of_mem_set hm with hm | rfl
  ·exact h.jn x hm
  ·have h9:=h.jn js[i] (List.getElem_mem hi)
   exact h9
theorem NetG.setE2 (h:NetG w C N B xp yp xj yj ps js){i q:Nat}(hi:i<js.length)(hq:q<js[i].2.2.ends.length){g:Nat}(hx:js[i].1=some ⟨g,0,none⟩)(a b:Int):∃ js2,NetG ((w.setCell ⟨g,q*2,none⟩ (.int .i64 a)).setCell ⟨g,q*2+1,none⟩ (.int .i64 b)) C N B xp yp xj yj ps js2:=by
 obtain ⟨h1,_⟩:=h.setE hi hq (j:=0) (by omega) hx (e':=⟨a,js[i].2.2.ends[q].side⟩) (u:=.int .i64 a) rfl
 generalize hL:js.set i _=L at h1
 have hLl:i<L.length:=by rw [← hL];simpa using hi
 have hLi:L[i]=(js[i].1,js[i].2.1,⟨js[i].2.2.kind,js[i].2.2.name,js[i].2.2.ends.set q ⟨a,js[i].2.2.ends[q].side⟩⟩):=by
  have:L[i]? = some (js[i].1,js[i].2.1,⟨js[i].2.2.kind,js[i].2.2.name,js[i].2.2.ends.set q ⟨a,js[i].2.2.ends[q].side⟩⟩):=by rw [← hL];simp [hi]
  rw [List.getElem?_eq_getElem hLl] at this
  exact Option.some.inj this
 obtain ⟨h2,_⟩:=h1.setE (i:=i) hLl (q:=q) (by rw [hLi];simpa using hq) (j:=1) (by omega) (g:=g) (by rw [hLi];exact hx) (e':=⟨a,b⟩) (u:=.int .i64 b) (by simp [hLi,encE])
 exact ⟨_,h2⟩
theorem NetW.keep (h:NetW w C N B xp yp xj yj ps js){B':Nat}(hB:B'≤B):NetKeepT B' w xp xj ps (js.map (fun z=>z.2.2)):=by
 intro u hu
 have hop:=owns_kept2 (w':=u) h.op (fun b hb=>hu b (by have:=(h.op.lt b hb).1;omega) (h.op.lt b hb).2 (owns_noSig h.op (by decide) hb))
 have hoj:=owns_kept2 (w':=u) h.oj (fun b hb=>hu b (by have:=(h.oj.lt b hb).1;omega) (h.oj.lt b hb).2 (owns_noSig h.oj (by decide) hb))
 exact ⟨piecesAtG hop h.pn,jointsAtG hoj h.jn (fun x hx=>endsAt_row (owns_kept2 (w':=u) (h.je x hx).1 (fun b hb=>hu b (by have:=((h.je x hx).1.lt b hb).1;omega) ((h.je x hx).1.lt b hb).2 (owns_noSig (h.je x hx).1 (by decide) hb))) (h.je x hx).2)⟩
end
theorem wpList_moveOp {P:Program}{ops:Array Oper}{rest:List Oper}{o:Oper}{a:Act}{w:World}{Q:Exit→Act→World→Prop}(hg:o.guard=none)(x:Operand)(ho:o.op = .move x)(h:wpList P ops Q rest (a.put o.dst (a.eval x)) w):wpList P ops Q (o::rest) a w:=
 wpList_plain hg fun K hK=>by
  unfold Oper.wp execOp
  simp only [ho]
  exact hK _ _ h
theorem Tryz.infoStr:(Tryz.prog.info? 9).map (fun i=>(i.zero,i.size,i.bytes))=some (some (.string ⟨#[]⟩),1,16):=by kernel_rfl
theorem built6 (s1 s2 s3 s4 s5:ByteArray):Instr.fill (fun i=>some (i*1,1)) ((Array.range (6*1)).map ((Value.string ⟨#[]⟩).cells[· % (Value.string ⟨#[]⟩).cells.size]!)) [(0,.string ⟨#[]⟩),(1,.string s1),(2,.string s2),(3,.string s3),(4,.string s4),(5,.string s5)]=some #[.string ⟨#[]⟩,.string s1,.string s2,.string s3,.string s4,.string s5]:=by kernel_rfl
theorem wpList_six {ops:Array Oper}{rest:List Oper}{o:Oper}{a:Act}{w:World}{Q:Exit→Act→World→Prop}(hg:o.guard=none)(parts:Array (Nat × Operand))(ho:o.op = .buildSlice 183 6 parts)(s1 s2 s3 s4 s5:ByteArray)(hp:(parts.map fun (i,x)=>(i,a.eval x)).toList=[(0,.string ⟨#[]⟩),(1,.string s1),(2,.string s2),(3,.string s3),(4,.string s4),(5,.string s5)])
  (h:wpList Tryz.prog ops Q rest (a.put o.dst (.slice (some ⟨w.heap.size,0,none⟩) 6 6)) (w.alloc (.cells #[.string ⟨#[]⟩,.string s1,.string s2,.string s3,.string s4,.string s5] 9))):wpList Tryz.prog ops Q (o::rest) a w:=by
 obtain ⟨i,hi1,hi2,hi3,_⟩:=info_parts Tryz.infoStr
 refine Go.wpList_buildSlice hg 183 9 6 parts ho _ i _ Tryz.underlying183 hi1 hi2 (by rw [hi3];decide) (by rw [hi3];decide) ?_ h
 rw [hp,hi3]
 exact built6 s1 s2 s3 s4 s5
theorem parts6 (a:Act)(s1 s2 s3 s4 s5:ByteArray):((#[(0,Operand.const (.string ⟨#[]⟩)),(1,.const (.string s1)),(2,.const (.string s2)),(3,.const (.string s3)),(4,.const (.string s4)),(5,.const (.string s5))]:Array (Nat × Operand)).map fun (i,x)=>(i,a.eval x)).toList=[(0,.string ⟨#[]⟩),(1,.string s1),(2,.string s2),(3,.string s3),(4,.string s4),(5,.string s5)]:=by simp [Act.eval]
theorem lit_cell (w:World)(cs:Array Value)(t:TypeId)(y:Nat):(w.alloc (.cells cs t)).cell? ⟨w.heap.size,y,none⟩=cs[y]? := cell_of_row _ _ _ _ _ _ (heap_alloc_new w _)
theorem owns_cap {w:World}{B e s n g y:Nat}{xs:List Value}(h:w.ownsRow B e s (.slice (some ⟨g,0,none⟩) n y) n xs):n≤y∧y≤maxLen:=by
 rcases h.2 with ⟨h1,_⟩ | ⟨g,cap,cur,h1,_,_,h4,h5,_⟩
 ·cases h1
 ·injection h1 with _ _ h1
  subst h1
  exact ⟨h4,h5⟩
theorem owns_addr {w:World}{B e s n y:Nat}{x:Option Addr}{xs:List Value}(h:w.ownsRow B e s (.slice x n y) n xs)(h0:0<n):∃ g,x=some ⟨g,0,none⟩:=by
 rcases h.2 with ⟨_,h2⟩ | ⟨g,cap,cur,h1,_⟩
 ·omega
 ·injection h1 with h1
  exact ⟨g,h1⟩
section
variable {W w w':World} {C N B:Nat} {ca:Option Addr} {cc:Nat} {bs:List Int} {at_ top:Nat} {xp xj:Option Addr} {yp yj:Nat} {ps:List MPiece} {js:List MJ}
theorem Sp.mk' (hg:NetW w' C N B xp yp xj yj ps js)(hc:Cur w C ca cc bs at_)(hl:LowB C ca bs)(ho:Only (fun k=>k=C∨k=N∨B≤k) W w)(hat:at_≤top)(hgr:Only (fun k=>k=N∨B≤k) w w')(hps:ps.length≤2000:=by first | omega | (simp;done) | (simp;omega)):Sp W C N B ca cc bs top w':=by
 refine ⟨_,_,_,_,_,_,_,hg,hat,hc.above hl (fun k hk=>hgr.block k (by have:=hc.lt;omega) ?_),ho.trans (hgr.mono (fun k hk=>Or.inr hk)),hps⟩
 have:=hg.cn
 have:=hg.nb
 omega
theorem Sp.same (hg:NetG w C N B xp yp xj yj ps js)(hc:Cur w C ca cc bs at_)(ho:Only (fun k=>k=C∨k=N∨B≤k) W w)(hat:at_≤top)(hps:ps.length≤2000:=by first | omega | (simp;done) | (simp;omega)):Sp W C N B ca cc bs top w:=⟨_,_,_,_,_,_,_,hg.toW,hat,hc,ho,hps⟩
theorem Sp.setP {g:Nat}(hg:NetG w C N B (some ⟨g,0,none⟩) yp xj yj ps js)(hc:Cur w C ca cc bs at_)(hl:LowB C ca bs)(ho:Only (fun k=>k=C∨k=N∨B≤k) W w)(hat:at_≤top){i j:Nat}(hi:i<ps.length)(hj:j<4)(p':MPiece){u:Value}(he:encPc p'=(encPc ps[i]).set j u)(hn:p'.name.size≤maxLen)(hps:ps.length≤2000:=by first | omega | (simp;done) | (simp;omega)):Sp W C N B ca cc bs top (w.setCell ⟨g,i*4+j,none⟩ u):=by
 obtain ⟨h1,h2⟩:=hg.setP hi hj he hn
 exact Sp.mk' h1.toW hc hl ho hat (Only.grown h2 (fun b e=>Or.inr (by cases e;exact (hg.op.lt g rfl).1))) (by simpa using hps)
theorem Sp.setJ {g:Nat}(hg:NetG w C N B xp yp (some ⟨g,0,none⟩) yj ps js)(hc:Cur w C ca cc bs at_)(hl:LowB C ca bs)(ho:Only (fun k=>k=C∨k=N∨B≤k) W w)(hat:at_≤top){i j:Nat}(hi:i<js.length)(hj:j<3)(x':MJ){u:Value}(he:encJ x'=(encJ js[i]).set j u)(hn:x'.2.2.name.size≤maxLen)(hE:EndsO w B x')(hap:∀ k (_:k<js.length),k≠i→ownJ js[k]=none∨ownJ x'=none∨ownJ js[k]≠ownJ x')(hps:ps.length≤2000:=by first | omega | (simp;done) | (simp;omega)):Sp W C N B ca cc bs top (w.setCell ⟨g,i*3+j,none⟩ u):=by
 obtain ⟨h1,h2⟩:=hg.setJ hi hj he hn hE hap
 exact Sp.mk' h1.toW hc hl ho hat (Only.grown h2 (fun b e=>Or.inr (by cases e;exact (hg.oj.lt g rfl).1))) hps
end
theorem NetG.cellP {w:World}{C N B g yp yj:Nat}{xj:Option Addr}{ps:List MPiece}{js:List MJ}(h:NetG w C N B (some ⟨g,0,none⟩) yp xj yj ps js){i:Nat}(hi:i<ps.length)(j:Nat)(hj:j<4){u:Value}(hu:(encPc ps[i])[j]? = some u):w.cell? ⟨g,i*4+j,none⟩=some u∧w.frozen? ⟨g,i*4+j,none⟩=false:=
 ⟨(h.op.cellAt (i*4+j) (by omega)).trans ((flat_get encPc 4 (fun _=>rfl) ps i j hi hj).trans hu),h.op.frozenAt _⟩
theorem NetG.cellJ {w:World}{C N B g yp yj:Nat}{xp:Option Addr}{ps:List MPiece}{js:List MJ}(h:NetG w C N B xp yp (some ⟨g,0,none⟩) yj ps js){i:Nat}(hi:i<js.length)(j:Nat)(hj:j<3){u:Value}(hu:(encJ js[i])[j]? = some u):w.cell? ⟨g,i*3+j,none⟩=some u∧w.frozen? ⟨g,i*3+j,none⟩=false:=
 ⟨(h.oj.cellAt (i*3+j) (by omega)).trans ((flat_get encJ 3 (fun _=>rfl) js i j hi hj).trans hu),h.oj.frozenAt _⟩
theorem spoil_any (C:Nat)(ca:Option Addr)(cc:Nat)(bs:List Int)(at_:Nat)(pa:Option Addr)(pc:Nat)(ja:Option Addr)(jc:Nat)(ps:List MPiece)(js:List MJoint)(w:World)(hc:Hid (Cur w C ca cc bs at_))(hlow:Hid (LowB C ca bs))(ha:at_≤500000000)(hP:Hid (PiecesAt w pa ps))(hJ:Hid (JointsAt w ja js))(hp1:ps.length≤1000)(hj1:js.length≤1000)(hje:Hid (∀ j ∈ js,j.ends.length≤4)):
  Calls Tryz.prog 57 #[.pointer (some ⟨C,0,none⟩),.agg #[.slice pa ps.length pc,.slice ja js.length jc]] w fun e w' => ∃ xp yp xj yj ps' js' at',e = .returned (.agg #[.slice xp (ps':List MPiece).length yp,.slice xj (js':List MJoint).length yj])∧NetKeepT w.heap.size w' xp xj ps' js'∧at'≤at_+100000000∧Cur w' C ca cc bs at'∧Only (fun k=>k=C) w w'∧ps'.length≤2000:=by
 have hCz:=hc.out.lt
 go_enter Tryz.func57,Tryz.ntmps57
 go_wp2_with fail
 generalize hW:World.alloc (World.alloc w _) _=W
 have hbW:Below w.heap.size w W:=by rw [← hW];exact blo
 have n0:W.cell? ⟨w.heap.size,0,none⟩=some (.slice pa ps.length pc):=by rw [← hW];simp [go_sem]
 have n1:W.cell? ⟨w.heap.size,1,none⟩=some (.slice ja js.length jc):=by rw [← hW];simp [go_sem]
 have HNZ:Hid (∀ o,W.frozen? ⟨w.heap.size,o,none⟩=false):=fun o=>by rw [← hW];simp [go_sem]
 have R0:W.cell? ⟨w.heap.size+1,0,none⟩=some (.slice none 0 0):=by rw [← hW];simp [go_sem]
 have R1:W.cell? ⟨w.heap.size+1,1,none⟩=some (.slice none 0 0):=by rw [← hW];simp [go_sem]
 have HRZ:Hid (∀ o,W.frozen? ⟨w.heap.size+1,o,none⟩=false):=fun o=>by rw [← hW];simp [go_sem]
 have hzW:W.heap.size=w.heap.size+2:=by rw [← hW];simp
 have HBW:=hidP hbW
 clear hW hbW
 obtain ⟨N,hN⟩:∃ N,w.heap.size=N:=⟨_,rfl⟩
 obtain ⟨R,hR⟩:∃ R,N+1=R:=⟨_,rfl⟩
 rw [hN] at n0 n1 HNZ R0 R1 HRZ hzW hCz ⊢
 rw [hR] at R0 R1 HRZ ⊢
 have HNw:Hid (w.heap.size=N):=hN
 have HP1:=hidP (hP.out.below HBW.out)
 have HJ1:=hidP (hJ.out.below HBW.out)
 clear hN
 refine (l5copy_any pa pc ja jc ps js W HP1 HJ1 hp1 hj1 hje).mono ?_
 rintro e w1 ⟨xp,yp,xj,yj,js',rfl,hjs,hown,hb1⟩
 have HJS:=hidP hjs
 have HOWN:=hidP hown
 have HB1:=hidP hb1
 have m0:=cell_later hb1 n0
 have m1:=cell_later hb1 n1
 have z0:=(hb1.frozen (p:=⟨N,0,none⟩) (by show N<W.heap.size;omega)).trans (HNZ.out 0)
 have z1:=(hb1.frozen (p:=⟨N,1,none⟩) (by show N<W.heap.size;omega)).trans (HNZ.out 1)
 have hz1:=hb1.size
 have hjl:js'.length=js.length:=by rw [← hjs,List.length_map]
 clear hjs hown hb1 n0 n1
 go_upto_region 2 with fail
 generalize hW2:World.setCell (World.setCell w1 _ _) _ _=W2
 have hk2:∀ b,b≠N→W2.heap[b]? = w1.heap[b]? := fun b hb=>by rw [← hW2];exact (Below.heap_setCell _ _ _ _ hb).trans (Below.heap_setCell _ _ _ _ hb)
 have hz2:W2.heap.size=w1.heap.size:=by rw [← hW2];simp
 have HG:Hid (NetG W2 C N (N+2) xp yp xj yj ps js'):=by
  have hop:=HOWN.out.op
  have hoj:=HOWN.out.oj
  rw [hzW] at hop hoj
  refine ⟨hCz,by omega,by rw [← hW2];simp [go_sem,m0],by rw [← hW2,hjl];simp [go_sem,m1],fun o=>?_,owns_kept2 hop (fun b hb=>hk2 b (by have:=(hop.lt b hb).1;omega)),?_,fun x hx=>?_,HOWN.out.ap,hP.out.2.1,fun x hx=>hJ.out.2.1 _ ?_⟩
  ·rw [← hW2,World.frozen?_setCell,World.frozen?_setCell]
   exact (HB1.out.frozen (p:=⟨N,o,none⟩) (by show N<W.heap.size;omega)).trans (HNZ.out o)
  ·rw [hjl]
   rw [hjl] at hoj
   exact owns_kept2 hoj (fun b hb=>hk2 b (by have:=(hoj.lt b hb).1;omega))
  ·have hE:=HOWN.out.je x hx
   rw [hzW] at hE
   exact hE.kept (fun b h1 _=>hk2 b (by omega))
  ·rw [← HJS.out];exact List.mem_map_of_mem hx
 have HC2:Hid (Cur W2 C ca cc bs at_):=(hc.out.below (HBW.out.trans (HB1.out.mono HBW.out.size))).above hlow.out (fun k hk=>hk2 k (by omega))
 have hR2:W2.heap[R]? = W.heap[R]? := (hk2 R (by omega)).trans (HB1.out.block R (by omega))
 have HLOW:Hid (Only (fun k=>k=C) w W2):=by
  have h0:=HBW.out.trans (HB1.out.mono HBW.out.size)
  exact ⟨by rw [← hW2];exact h0.os,by rw [← hW2];exact h0.tape,by rw [← hW2];exact h0.output,by have:=h0.size;omega,fun b hb _=>(hk2 b (by have:=HNw.out;omega)).trans (h0.block b hb)⟩
 have q0:=(World.cell?_of_block (w:=W) (a:=⟨R,0,none⟩) hR2).trans R0
 have q1:=(World.cell?_of_block (w:=W) (a:=⟨R,1,none⟩) hR2).trans R1
 have HQZ:Hid (∀ o,W2.frozen? ⟨R,o,none⟩=false):=fun o=>(World.frozen?_of_block (w:=W) (a:=⟨R,o,none⟩) hR2).trans (HRZ.out o)
 have hzN:N+2≤W2.heap.size:=by omega
 have hjl':js'.length≤1000:=by omega
 have HJL:=hidP hjl
 clear hW2 hk2 R0 R1 hR2 HRZ HNZ HB1 HOWN HJS m0 m1 z0 z1 HBW HP1 HJ1 hz1 hz2 hzW hP hJ hje hjl hc
 go_wp2_with fail
 refine (pick_any C ca cc bs at_ 10 W2 HC2 (by omega) (by omega)).mono ?_
 rintro e w3 ⟨x,at3,hx,rfl,hat3,hc3,ho3⟩
 have HC3:=hidP hc3
 have HO3:=hidP ho3
 have HG3:=hidP (HG.out.only ho3)
 clear hc3 ho3 HG HC2
 have hx':x=0∨x=1∨(2≤x∧x≤5)∨x=6∨x=7∨x=8∨x=9:=by omega
 go_upto_block 0 with fail
 go_cut [] (fun wx=>Hid (Sp W2 C N (N+2) ca cc bs (at_+10000) wx))
 case first =>
  have HOP:Hid (∀ u,Only (fun k=>k=C) w3 u→Only (fun k=>k=C∨k=N∨N+2≤k) W2 u):=fun u hu=>(HO3.out.trans hu).mono (fun k hk=>Or.inl hk)
  rcases hx' with rfl | rfl | hxx | rfl | rfl | rfl | rfl
  ·as_aux_lemma =>
   have c0:=HG3.out.c0
   by_cases hp0:ps.length=0
   ·have hp0':¬ (0:Int)<ps.length:=by omega
    clear hp0
    go_wp2_with fail
    go_meet
    exact Sp.same HG3.out HC3.out (HOP.out _ (Only.refl _ _)) (by omega)
   ·have hp0':(0:Int)<ps.length:=by omega
    obtain ⟨g,rfl⟩:=owns_addr HG3.out.op (by omega)
    have hNz:=HG3.out.lt
    go_upto_region 9 with fail
    obtain ⟨S,hS⟩:∃ S:World→Prop,∀ u,S u↔u.cell? ⟨N,0,none⟩=some (.slice (some ⟨g,0,none⟩) ps.length yp):=⟨_,fun _=>Iff.rfl⟩
    have HS0:=hidP hS
    have r0:∀ u:Held S,World.cell? u.val ⟨N,0,none⟩=some (.slice (some ⟨g,0,none⟩) ps.length yp):=fun u=>(hS u.val).1 u.2
    have hS1:S w3.drew:=(hS _).2 c0
    have hne:=held_ne hS1
    clear hS
    refine wp_region_tree (fun w' => ∃ u:Held S,w'=u.val) 8 (by kernel_rfl) (by kernel_rfl) (held_some hS1) ?_
    (refine wpT_sea 0 ?_;intro K hK;go_big_quiet_op;go_big_quiet_on);(refine wpT_sea 1 ?_;intro K hK;go_big_quiet_op;go_big_quiet_on);(refine wpT_sea 2 ?_;intro K hK;go_big_quiet_op;go_big_quiet_on);(refine wpT_sea 3 ?_;intro K hK;go_big_quiet_op;go_big_quiet_on);(refine wpT_sea 4 ?_;intro K hK;go_big_quiet_op;go_big_quiet_on);(refine wpT_sea 5 ?_;intro K hK;go_big_quiet_op;go_big_quiet_on)
    refine wpT_loud 6 (by rfl) (by kernel_rfl) (by kernel_rfl) ?_
    intro K hK
    go_wp2_with (go_at_call 32;refine (pick_any C ca cc bs at3 ps.length _ (HC3.out.below ((Below.refl _ _).drew)) (by omega) (by omega)).mono ?_;rintro e w4 ⟨i,at4,hi4,rfl,hat4,hc4,ho4⟩)
    have HO4:Hid (Only (fun k=>k=C) w3 w4):=((Only.refl _ _).drew).trans ho4
    have HC4:=hidP hc4
    have HG4:=hidP (HG3.out.only HO4.out)
    have hS4:S w4:=(HS0.out _).2 HG4.out.c0
    have hil:i<ps.length:=by omega
    have hii:(i:Int)<ps.length:=by omega
    clear hc4 ho4
    refine hK _ _ (held_some hS4) ?_
    clear hK K
    have hne:=held_ne hS4
    (refine wpT_sea 7 ?_;intro K hK;go_big_quiet_op;go_big_quiet_on)
    refine wpT_done (by kernel_rfl) ?_
    simp only [List.drop_succ_cons,List.drop_zero]
    clear r0 hne hS1 hS4 HS0 c0
    go_wp2_with fail
    refine (pick_any C ca cc bs at4 4 w4 HC4 (by omega) (by omega)).mono ?_
    rintro e w5 ⟨y0,at5,hy5,rfl,hat5,hc5,ho5⟩
    have HO5:=hidP ho5
    have HC5:=hidP hc5
    have HG5:=hidP (HG4.out.only ho5)
    have hC5:=hc5.lt
    clear hc5 ho5
    have hy':y0=0∨y0=1∨y0=2∨y0=3:=by omega
    rcases hy' with rfl | rfl | rfl | rfl
    ·go_wp2_with fail
     generalize hWk:World.alloc w5 _=Wk
     have hbk:Below w5.heap.size w5 Wk:=by rw [← hWk];exact (Below.refl _ _).alloc (Nat.le_refl _) _
     have HKC:Hid (∀ y:Nat,y<4→∃ kv:Int,Wk.cell? ⟨w5.heap.size,y,none⟩=some (.int .i64 kv)):=by
      intro y hy
      rw [← hWk]
      have h7:y=0∨y=1∨y=2∨y=3:=by omega
      rcases h7 with rfl | rfl | rfl | rfl
      ·exact ⟨0,(lit_cell _ _ _ 0).trans rfl⟩
      ·exact ⟨-1,(lit_cell _ _ _ 1).trans rfl⟩
      ·exact ⟨10000000,(lit_cell _ _ _ 2).trans rfl⟩
      ·exact ⟨10000001,(lit_cell _ _ _ 3).trans rfl⟩
     have HBk:=hidP hbk
     clear hWk hbk
     refine (pick_any C ca cc bs at5 4 Wk (HC5.out.below HBk.out) (by omega) (by omega)).mono ?_
     rintro e w6 ⟨y,at6,hy,rfl,hat6,hc6,ho6⟩
     have hyn:y<4:=by omega
     obtain ⟨kv,hkv⟩:=HKC.out y hyn
     have kc:=ho6.cell hkv (by show ¬ w5.heap.size=C;omega)
     have hzk:=cellLt kc
     dsimp only at hzk
     have HO6:Hid (Only (fun k=>k=C) w5 w6):=(Only.of_below HBk.out).trans ho6
     have HG6:=hidP (HG5.out.only HO6.out)
     have HC6:=hidP hc6
     clear hkv hc6 ho6 HKC
     obtain ⟨sc,sz⟩:=HG6.out.cellP hil 1 (by omega) rfl
     have hgz:=cellLt sc
     dsimp only at hgz
     go_wp2_with fail
     go_meet
     exact Sp.setP HG6.out HC6.out hlow.out (HOP.out _ ((HO4.out.trans HO5.out).trans HO6.out)) (by omega) hil (j:=1) (by omega) ⟨ps[i].name,kv,ps[i].speed,ps[i].brake⟩ rfl (HG6.out.pn ps[i] (List.getElem_mem hil))
    ·go_wp2_with fail
     generalize hWk:World.alloc w5 _=Wk
     have hbk:Below w5.heap.size w5 Wk:=by rw [← hWk];exact (Below.refl _ _).alloc (Nat.le_refl _) _
     have HKC:Hid (∀ y:Nat,y<3→∃ kv:Int,Wk.cell? ⟨w5.heap.size,y,none⟩=some (.int .i64 kv)):=by
      intro y hy
      rw [← hWk]
      have h7:y=0∨y=1∨y=2:=by omega
      rcases h7 with rfl | rfl | rfl
      ·exact ⟨0,(lit_cell _ _ _ 0).trans rfl⟩
      ·exact ⟨10000,(lit_cell _ _ _ 1).trans rfl⟩
      ·exact ⟨10001,(lit_cell _ _ _ 2).trans rfl⟩
     have HBk:=hidP hbk
     clear hWk hbk
     refine (pick_any C ca cc bs at5 3 Wk (HC5.out.below HBk.out) (by omega) (by omega)).mono ?_
     rintro e w6 ⟨y,at6,hy,rfl,hat6,hc6,ho6⟩
     have hyn:y<3:=by omega
     obtain ⟨kv,hkv⟩:=HKC.out y hyn
     have kc:=ho6.cell hkv (by show ¬ w5.heap.size=C;omega)
     have hzk:=cellLt kc
     dsimp only at hzk
     have HO6:Hid (Only (fun k=>k=C) w5 w6):=(Only.of_below HBk.out).trans ho6
     have HG6:=hidP (HG5.out.only HO6.out)
     have HC6:=hidP hc6
     clear hkv hc6 ho6 HKC
     obtain ⟨sc,sz⟩:=HG6.out.cellP hil 2 (by omega) rfl
     have hgz:=cellLt sc
     dsimp only at hgz
     go_wp2_with fail
     go_meet
     exact Sp.setP HG6.out HC6.out hlow.out (HOP.out _ ((HO4.out.trans HO5.out).trans HO6.out)) (by omega) hil (j:=2) (by omega) ⟨ps[i].name,ps[i].len,kv,ps[i].brake⟩ rfl (HG6.out.pn ps[i] (List.getElem_mem hil))
    ·go_wp2_with fail
     generalize hWk:World.alloc w5 _=Wk
     have hbk:Below w5.heap.size w5 Wk:=by rw [← hWk];exact (Below.refl _ _).alloc (Nat.le_refl _) _
     have HKC:Hid (∀ y:Nat,y<3→∃ kv:Int,Wk.cell? ⟨w5.heap.size,y,none⟩=some (.int .i64 kv)):=by
      intro y hy
      rw [← hWk]
      have h7:y=0∨y=1∨y=2:=by omega
      rcases h7 with rfl | rfl | rfl
      ·exact ⟨0,(lit_cell _ _ _ 0).trans rfl⟩
      ·exact ⟨1000,(lit_cell _ _ _ 1).trans rfl⟩
      ·exact ⟨1001,(lit_cell _ _ _ 2).trans rfl⟩
     have HBk:=hidP hbk
     clear hWk hbk
     refine (pick_any C ca cc bs at5 3 Wk (HC5.out.below HBk.out) (by omega) (by omega)).mono ?_
     rintro e w6 ⟨y,at6,hy,rfl,hat6,hc6,ho6⟩
     have hyn:y<3:=by omega
     obtain ⟨kv,hkv⟩:=HKC.out y hyn
     have kc:=ho6.cell hkv (by show ¬ w5.heap.size=C;omega)
     have hzk:=cellLt kc
     dsimp only at hzk
     have HO6:Hid (Only (fun k=>k=C) w5 w6):=(Only.of_below HBk.out).trans ho6
     have HG6:=hidP (HG5.out.only HO6.out)
     have HC6:=hidP hc6
     clear hkv hc6 ho6 HKC
     obtain ⟨sc,sz⟩:=HG6.out.cellP hil 3 (by omega) rfl
     have hgz:=cellLt sc
     dsimp only at hgz
     go_wp2_with fail
     go_meet
     exact Sp.setP HG6.out HC6.out hlow.out (HOP.out _ ((HO4.out.trans HO5.out).trans HO6.out)) (by omega) hil (j:=3) (by omega) ⟨ps[i].name,ps[i].len,ps[i].speed,kv⟩ rfl (HG6.out.pn ps[i] (List.getElem_mem hil))
    ·go_upto_region 11 with fail
     obtain ⟨s5,hs5⟩:∃ s:ByteArray,ByteArray.mk #[97,98,99,100,101,102,103,104,105,106,107,108,109,110,111,112,113,114,115,116,117]=s:=⟨_,rfl⟩
     rw [hs5]
     have hz5:s5.size≤maxLen:=by rw [← hs5];show (21:Nat)≤maxLen;unfold maxLen;omega
     clear hs5
     obtain ⟨s4,hs4⟩:∃ s:ByteArray,ByteArray.mk #[97,98,99,100,101,102,103,104,105,106,107,108,109,110,111,112,113,114,115,116]=s:=⟨_,rfl⟩
     rw [hs4]
     have hz4:s4.size≤maxLen:=by rw [← hs4];show (20:Nat)≤maxLen;unfold maxLen;omega
     clear hs4
     obtain ⟨s3,hs3⟩:∃ s:ByteArray,ByteArray.mk #[97,32,98]=s:=⟨_,rfl⟩
     rw [hs3]
     have hz3:s3.size≤maxLen:=by rw [← hs3];show (3:Nat)≤maxLen;unfold maxLen;omega
     clear hs3
     obtain ⟨s2,hs2⟩:∃ s:ByteArray,ByteArray.mk #[97,48]=s:=⟨_,rfl⟩
     rw [hs2]
     have hz2:s2.size≤maxLen:=by rw [← hs2];show (2:Nat)≤maxLen;unfold maxLen;omega
     clear hs2
     obtain ⟨s1,hs1⟩:∃ s:ByteArray,ByteArray.mk #[65]=s:=⟨_,rfl⟩
     rw [hs1]
     have hz1:s1.size≤maxLen:=by rw [← hs1];show (1:Nat)≤maxLen;unfold maxLen;omega
     clear hs1
     refine wp_region_lit ?_
     refine wpList_moveOp rfl (.tmp 5) rfl ?_
     refine wpList_six rfl _ rfl s1 s2 s3 s4 s5 (parts6 _ s1 s2 s3 s4 s5) ?_
     go_wp2_with fail
     generalize hWk:World.alloc w5 _=Wk
     have hbk:Below w5.heap.size w5 Wk:=by rw [← hWk];exact (Below.refl _ _).alloc (Nat.le_refl _) _
     have HKC:Hid (∀ y:Nat,y<6→∃ kv:ByteArray,Wk.cell? ⟨w5.heap.size,y,none⟩=some (.string kv)∧kv.size≤maxLen):=by
      intro y hy
      rw [← hWk]
      have h7:y=0∨y=1∨y=2∨y=3∨y=4∨y=5:=by omega
      rcases h7 with rfl | rfl | rfl | rfl | rfl | rfl
      ·exact ⟨⟨#[]⟩,(lit_cell _ _ _ 0).trans rfl,by show (0:Nat)≤maxLen;unfold maxLen;omega⟩
      ·exact ⟨s1,(lit_cell _ _ _ 1).trans rfl,hz1⟩
      ·exact ⟨s2,(lit_cell _ _ _ 2).trans rfl,hz2⟩
      ·exact ⟨s3,(lit_cell _ _ _ 3).trans rfl,hz3⟩
      ·exact ⟨s4,(lit_cell _ _ _ 4).trans rfl,hz4⟩
      ·exact ⟨s5,(lit_cell _ _ _ 5).trans rfl,hz5⟩
     have HBk:=hidP hbk
     clear hWk hbk
     refine (pick_any C ca cc bs at5 6 Wk (HC5.out.below HBk.out) (by omega) (by omega)).mono ?_
     rintro e w6 ⟨y,at6,hy,rfl,hat6,hc6,ho6⟩
     have hyn:y<6:=by omega
     obtain ⟨kv,hkv,hks⟩:=HKC.out y hyn
     have kc:=ho6.cell hkv (by show ¬ w5.heap.size=C;omega)
     have hzk:=cellLt kc
     dsimp only at hzk
     have HO6:Hid (Only (fun k=>k=C) w5 w6):=(Only.of_below HBk.out).trans ho6
     have HG6:=hidP (HG5.out.only HO6.out)
     have HC6:=hidP hc6
     clear hkv hc6 ho6 HKC
     obtain ⟨sc,sz⟩:=HG6.out.cellP hil 0 (by omega) rfl
     rw [Nat.add_zero] at sc sz
     have hgz:=cellLt sc
     dsimp only at hgz
     go_wp2_with fail
     go_meet
     exact Sp.setP HG6.out HC6.out hlow.out (HOP.out _ ((HO4.out.trans HO5.out).trans HO6.out)) (by omega) hil (j:=0) (by omega) ⟨kv,ps[i].len,ps[i].speed,ps[i].brake⟩ rfl hks
  ·as_aux_lemma =>
   have c0:=HG3.out.c0
   have z0:=HG3.out.z 0
   have hNz:=HG3.out.lt
   go_wp2_with fail
   go_meet
   exact Sp.mk' HG3.out.nilP.toW HC3.out hlow.out (HOP.out _ (Only.refl _ _)) (by omega) ((Only.refl _ _).setCell (p:=⟨N,0,none⟩) (Or.inl (Or.inl rfl)) _)
  ·
   have h4:x=2∨x=3∨x=4∨x=5:=by omega
   clear hxx
   rcases h4 with rfl | rfl | rfl | rfl
   all_goals
    as_aux_lemma =>
    have hjn:=HJL.out
    have c0:=HG3.out.c1
    rw [hjn] at c0
    by_cases hp0:js.length=0
    ·have hp0':¬ (0:Int)<js.length:=by omega
     clear hp0
     go_wp2_with fail
     go_meet
     exact Sp.same HG3.out HC3.out (HOP.out _ (Only.refl _ _)) (by omega)
    ·have hp0':(0:Int)<js.length:=by omega
     obtain ⟨g,rfl⟩:=owns_addr HG3.out.oj (by omega)
     have hNz:=HG3.out.lt
     go_upto_region 25 with fail
     obtain ⟨S,hS⟩:∃ S:World→Prop,∀ u,S u↔u.cell? ⟨N,1,none⟩=some (.slice (some ⟨g,0,none⟩) js.length yj):=⟨_,fun _=>Iff.rfl⟩
     have HS0:=hidP hS
     have r0:∀ u:Held S,World.cell? u.val ⟨N,1,none⟩=some (.slice (some ⟨g,0,none⟩) js.length yj):=fun u=>(hS u.val).1 u.2
     have hS1:S w3.drew:=(hS _).2 c0
     have hne:=held_ne hS1
     clear hS
     refine wp_region_tree (fun w' => ∃ u:Held S,w'=u.val) 8 (by kernel_rfl) (by kernel_rfl) (held_some hS1) ?_
     (refine wpT_sea 0 ?_;intro K hK;go_big_quiet_op;go_big_quiet_on);(refine wpT_sea 1 ?_;intro K hK;go_big_quiet_op;go_big_quiet_on);(refine wpT_sea 2 ?_;intro K hK;go_big_quiet_op;go_big_quiet_on);(refine wpT_sea 3 ?_;intro K hK;go_big_quiet_op;go_big_quiet_on);(refine wpT_sea 4 ?_;intro K hK;go_big_quiet_op;go_big_quiet_on);(refine wpT_sea 5 ?_;intro K hK;go_big_quiet_op;go_big_quiet_on)
     refine wpT_loud 6 (by rfl) (by kernel_rfl) (by kernel_rfl) ?_
     intro K hK
     go_wp2_with (go_at_call 32;refine (pick_any C ca cc bs at3 js.length _ (HC3.out.below ((Below.refl _ _).drew)) (by omega) (by omega)).mono ?_;rintro e w4 ⟨i,at4,hi4,rfl,hat4,hc4,ho4⟩)
     have HO4:Hid (Only (fun k=>k=C) w3 w4):=((Only.refl _ _).drew).trans ho4
     have HC4:=hidP hc4
     have HG4:=hidP (HG3.out.only HO4.out)
     have hS4:S w4:=(HS0.out _).2 (by have h:=HG4.out.c1;rw [hjn] at h;exact h)
     have hil:i<js.length:=by omega
     have hii:(i:Int)<js.length:=by omega
     clear hc4 ho4
     refine hK _ _ (held_some hS4) ?_
     clear hK K
     have hne:=held_ne hS4
     (refine wpT_sea 7 ?_;intro K hK;go_big_quiet_op;go_big_quiet_on)
     refine wpT_done (by kernel_rfl) ?_
     simp only [List.drop_succ_cons,List.drop_zero]
     clear r0 hne hS1 hS4 HS0 c0
     go_wp2_with fail
     refine (pick_any C ca cc bs at4 5 w4 HC4 (by omega) (by omega)).mono ?_
     rintro e w5 ⟨y0,at5,hy5,rfl,hat5,hc5,ho5⟩
     have HO5:=hidP ho5
     have HC5:=hidP hc5
     have HG5:=hidP (HG4.out.only ho5)
     have hC5:=hc5.lt
     clear hc5 ho5
     have hy':y0=0∨y0=1∨y0=2∨y0=3∨y0=4:=by omega
     have hilJ:i<js'.length:=by rw [hjn];exact hil
     rcases hy' with rfl | rfl | rfl | rfl | rfl
     ·go_wp2_with fail
      refine (pick_any C ca cc bs at5 6 w5 HC5 (by omega) (by omega)).mono ?_
      rintro e w6 ⟨kv,at6,hy,rfl,hat6,hc6,ho6⟩
      have HO6:=hidP ho6
      have HG6:=hidP (HG5.out.only ho6)
      have HC6:=hidP hc6
      clear hc6 ho6
      obtain ⟨sc,sz⟩:=HG6.out.cellJ hilJ 0 (by omega) rfl
      rw [Nat.add_zero] at sc sz
      have hgz:=cellLt sc
      dsimp only at hgz
      go_wp2_with fail
      go_meet
      exact Sp.setJ HG6.out HC6.out hlow.out (HOP.out _ ((HO4.out.trans HO5.out).trans HO6.out)) (by omega) hilJ (j:=0) (by omega) (js'[i].1,js'[i].2.1,⟨kv,js'[i].2.2.name,js'[i].2.2.ends⟩) rfl (HG6.out.jn js'[i] (List.getElem_mem hilJ)) (HG6.out.je js'[i] (List.getElem_mem hilJ)) (fun k hk hne=>((HG6.out.apart hilJ hk hne).imp id Or.inr))
     ·go_wp2_with fail
      generalize hWk:World.alloc w5 _=Wk
      have hbk:Below w5.heap.size w5 Wk:=by rw [← hWk];exact (Below.refl _ _).alloc (Nat.le_refl _) _
      have HKC:Hid (∀ y:Nat,y<4→∃ kv:ByteArray,Wk.cell? ⟨w5.heap.size,y,none⟩=some (.string kv)∧kv.size≤maxLen):=by
       intro y hy
       rw [← hWk]
       have h7:y=0∨y=1∨y=2∨y=3:=by omega
       rcases h7 with rfl | rfl | rfl | rfl
       ·exact ⟨⟨#[]⟩,(lit_cell _ _ _ 0).trans rfl,by show (0:Nat)≤maxLen;unfold maxLen;omega⟩
       ·exact ⟨⟨#[119]⟩,(lit_cell _ _ _ 1).trans rfl,by show (1:Nat)≤maxLen;unfold maxLen;omega⟩
       ·exact ⟨⟨#[87]⟩,(lit_cell _ _ _ 2).trans rfl,by show (1:Nat)≤maxLen;unfold maxLen;omega⟩
       ·exact ⟨⟨#[120,49,48,48]⟩,(lit_cell _ _ _ 3).trans rfl,by show (4:Nat)≤maxLen;unfold maxLen;omega⟩
      have HBk:=hidP hbk
      clear hWk hbk
      refine (pick_any C ca cc bs at5 4 Wk (HC5.out.below HBk.out) (by omega) (by omega)).mono ?_
      rintro e w6 ⟨y,at6,hy,rfl,hat6,hc6,ho6⟩
      have hyn:y<4:=by omega
      obtain ⟨kv,hkv,hks⟩:=HKC.out y hyn
      have kc:=ho6.cell hkv (by show ¬ w5.heap.size=C;omega)
      have hzk:=cellLt kc
      dsimp only at hzk
      have HO6:Hid (Only (fun k=>k=C) w5 w6):=(Only.of_below HBk.out).trans ho6
      have HG6:=hidP (HG5.out.only HO6.out)
      have HC6:=hidP hc6
      clear hkv hc6 ho6 HKC
      obtain ⟨sc,sz⟩:=HG6.out.cellJ hilJ 1 (by omega) rfl
      have hgz:=cellLt sc
      dsimp only at hgz
      go_wp2_with fail
      go_meet
      exact Sp.setJ HG6.out HC6.out hlow.out (HOP.out _ ((HO4.out.trans HO5.out).trans HO6.out)) (by omega) hilJ (j:=1) (by omega) (js'[i].1,js'[i].2.1,⟨js'[i].2.2.kind,kv,js'[i].2.2.ends⟩) rfl hks (HG6.out.je js'[i] (List.getElem_mem hilJ)) (fun k hk hne=>((HG6.out.apart hilJ hk hne).imp id Or.inr))
     ·obtain ⟨sc,sz⟩:=HG5.out.cellJ hilJ 2 (by omega) rfl
      have hgz:=cellLt sc
      dsimp only at hgz
      have hgC:g≠C:=by have h1:=(HG5.out.oj.lt g rfl).1;omega
      by_cases he0:js'[i].2.2.ends.length=0
      ·have he0':¬ (0:Int)<js'[i].2.2.ends.length:=by omega
       clear he0
       go_wp2_with fail
       go_meet
       exact Sp.same HG5.out HC5.out (HOP.out _ (HO4.out.trans HO5.out)) (by omega)
      ·obtain ⟨ge,hge⟩:=owns_addr (HG5.out.je js'[i] (List.getElem_mem hilJ)).1 (by omega)
       have hel:=(HG5.out.je js'[i] (List.getElem_mem hilJ)).2
       rw [hge] at sc
       obtain ⟨ne,hne⟩:∃ ne,js'[i].2.2.ends.length=ne:=⟨_,rfl⟩
       have HFIN:Hid (∀ (w':World) (q:Nat) (a b:Int) (at':Nat),Only (fun k=>k=C) w5 w'→q<ne→Cur w' C ca cc bs at'→at'≤at5+10→Sp W2 C N (N+2) ca cc bs (at_+10000) ((w'.setCell ⟨ge,q*2,none⟩ (.int .i64 a)).setCell ⟨ge,q*2+1,none⟩ (.int .i64 b))∧(∃ v0 v1,w'.cell? ⟨ge,q*2,none⟩=some (.int .i64 v0)∧w'.cell? ⟨ge,q*2+1,none⟩=some (.int .i64 v1))∧w'.frozen? ⟨ge,q*2,none⟩=false∧w'.frozen? ⟨ge,q*2+1,none⟩=false):=by
        intro w' q a b at' ho hq hc hat
        rw [← hne] at hq
        have hG:=HG5.out.only ho
        obtain ⟨js2,h2⟩:=hG.setE2 hilJ hq hge a b
        have hrow:=(hG.je js'[i] (List.getElem_mem hilJ)).1
        rw [hge] at hrow
        exact ⟨Sp.mk' h2.toW hc hlow.out (HOP.out _ ((HO4.out.trans HO5.out).trans ho)) (by omega) (((Only.refl _ _).setCell (p:=⟨ge,q*2,none⟩) (Or.inl (Or.inr (hrow.lt ge rfl).1)) _).setCell (p:=⟨ge,q*2+1,none⟩) (Or.inl (Or.inr (hrow.lt ge rfl).1)) _),⟨_,_,(hrow.cellAt (q*2) (by omega)).trans ((flat_get encE 2 (fun _=>rfl) js'[i].2.2.ends q 0 hq (by omega)).trans rfl),(hrow.cellAt (q*2+1) (by omega)).trans ((flat_get encE 2 (fun _=>rfl) js'[i].2.2.ends q 1 hq (by omega)).trans rfl)⟩,hrow.frozenAt _,hrow.frozenAt _⟩
       rw [hne] at sc hel he0
       generalize js'[i].2.1=ye at sc
       have he0':(0:Int)<ne:=by omega
       have c5:=HG5.out.c0
       clear hne hge
       go_upto_region 34 with fail
       obtain ⟨S,hS⟩:∃ S:World→Prop,∀ u,S u↔(u.cell? ⟨N,0,none⟩=some (.slice xp ps.length yp)∧u.cell? ⟨g,i*3+2,none⟩=some (.slice (some ⟨ge,0,none⟩) ne ye)):=⟨_,fun _=>Iff.rfl⟩
       have HS0:=hidP hS
       have r0:∀ u:Held S,World.cell? u.val ⟨N,0,none⟩=some (.slice xp ps.length yp):=fun u=>((hS u.val).1 u.2).1
       have r1:∀ u:Held S,World.cell? u.val ⟨g,i*3+2,none⟩=some (.slice (some ⟨ge,0,none⟩) ne ye):=fun u=>((hS u.val).1 u.2).2
       have hS1:S w5.drew:=(hS _).2 ⟨c5,sc⟩
       have hne:=held_ne hS1
       clear hS
       refine wp_region_tree (fun w' => ∃ u:Held S,w'=u.val) 22 (by kernel_rfl) (by kernel_rfl) (held_some hS1) ?_
       (refine wpT_sea 0 ?_;intro K hK;go_big_quiet_op;go_big_quiet_on);(refine wpT_sea 1 ?_;intro K hK;go_big_quiet_op;go_big_quiet_on);(refine wpT_sea 2 ?_;intro K hK;go_big_quiet_op;go_big_quiet_on);(refine wpT_sea 3 ?_;intro K hK;go_big_quiet_op;go_big_quiet_on);(refine wpT_sea 4 ?_;intro K hK;go_big_quiet_op;go_big_quiet_on);(refine wpT_sea 5 ?_;intro K hK;go_big_quiet_op;go_big_quiet_on);(refine wpT_sea 6 ?_;intro K hK;go_big_quiet_op;go_big_quiet_on);(refine wpT_sea 7 ?_;intro K hK;go_big_quiet_op;go_big_quiet_on);(refine wpT_sea 8 ?_;intro K hK;go_big_quiet_op;go_big_quiet_on);(refine wpT_sea 9 ?_;intro K hK;go_big_quiet_op;go_big_quiet_on)
       (refine wpT_sea 11 ?_;intro K hK;go_big_quiet_op;go_big_quiet_on);(refine wpT_sea 12 ?_;intro K hK;go_big_quiet_op;go_big_quiet_on);(refine wpT_sea 13 ?_;intro K hK;go_big_quiet_op;go_big_quiet_on);(refine wpT_sea 14 ?_;intro K hK;go_big_quiet_op;go_big_quiet_on);(refine wpT_sea 15 ?_;intro K hK;go_big_quiet_op;go_big_quiet_on)
       (refine wpT_sea 18 ?_;intro K hK;go_big_quiet_op;go_big_quiet_on)
       refine wpT_loud 10 (by rfl) (by kernel_rfl) (by kernel_rfl) ?_
       intro K hK
       go_wp2_with (go_at_call 32;refine (pick_any C ca cc bs at5 ne _ (HC5.out.below ((Below.refl _ _).drew)) (by omega) (by omega)).mono ?_;rintro e w6 ⟨q,at6,hq6,rfl,hat6,hc6,ho6⟩)
       have HO6:Hid (Only (fun k=>k=C) w5 w6):=((Only.refl _ _).drew).trans ho6
       have HC6:=hidP hc6
       have hS6:S w6:=(HS0.out _).2 ⟨HO6.out.cell c5 (by show ¬ N=C;omega),HO6.out.cell sc hgC⟩
       have hqn:q<ne:=by omega
       have hqi:(q:Int)<ne:=by omega
       clear hc6 ho6
       refine hK _ _ (held_some hS6) ?_
       clear hK K
       refine wpT_loud 16 (by rfl) (by kernel_rfl) (by kernel_rfl) ?_
       intro K hK
       go_wp2_with (go_at_call 32;refine (pick_any C ca cc bs at6 (ps.length+2) _ HC6 (by omega) (by omega)).mono ?_;rintro e w7 ⟨x1,at7,hq7,rfl,hat7,hc7,ho7⟩)
       have HO7:Hid (Only (fun k=>k=C) w5 w7):=HO6.out.trans ho7
       have HC7:=hidP hc7
       have hS7:S w7:=(HS0.out _).2 ⟨HO7.out.cell c5 (by show ¬ N=C;omega),HO7.out.cell sc hgC⟩
       have hx1:(x1:Int)≤1002:=by omega
       clear hc7 ho7
       refine hK _ _ (held_some hS7) ?_
       clear hK K
       (refine wpT_sea 17 ?_;intro K hK;go_big_quiet_op;go_big_quiet_on)
       refine wpT_loud 19 (by rfl) (by kernel_rfl) (by kernel_rfl) ?_
       intro K hK
       go_wp2_with (go_at_call 32;refine (pick_any C ca cc bs at7 4 _ HC7 (by omega) (by omega)).mono ?_;rintro e w8 ⟨x2,at8,hq8,rfl,hat8,hc8,ho8⟩)
       have HO8:Hid (Only (fun k=>k=C) w5 w8):=HO7.out.trans ho8
       have HC8:=hidP hc8
       have hS8:S w8:=(HS0.out _).2 ⟨HO8.out.cell c5 (by show ¬ N=C;omega),HO8.out.cell sc hgC⟩
       have hx2:(x2:Int)<4:=by omega
       clear hc8 ho8
       refine hK _ _ (held_some hS8) ?_
       clear hK K
       have hne:=held_ne hS8
       (refine wpT_sea 20 ?_;intro K hK;go_big_quiet_op;go_big_quiet_on);(refine wpT_sea 21 ?_;intro K hK;go_big_quiet_op;go_big_quiet_on)
       refine wpT_done (by kernel_rfl) ?_
       simp only [List.drop_succ_cons,List.drop_zero]
       obtain ⟨hsp,⟨v0,v1,e0,e1⟩,f0,f1⟩:=HFIN.out w8 q ((x1:Int)-1) ((x2:Int)-1) at8 HO8.out hqn HC8.out (by omega)
       have HSP:=hidP hsp
       have hez:=cellLt e0
       dsimp only at hez
       clear r0 r1 hne hS1 hS6 hS7 hS8 HS0 c5 sc sz hsp HFIN
       go_wp2_with fail
       go_meet
       exact HSP.out
     ·obtain ⟨sc,sz⟩:=HG5.out.cellJ hilJ 2 (by omega) rfl
      have hgz:=cellLt sc
      dsimp only at hgz
      have hrow:=(HG5.out.je _ (List.getElem_mem hilJ)).1
      have hel:=(HG5.out.je _ (List.getElem_mem hilJ)).2
      obtain ⟨ne,hne⟩:∃ ne,js'[i].2.2.ends.length=ne:=⟨_,rfl⟩
      have HGROW:Hid (∀ (w':World) (x':Option Addr) (y':Nat),w5.grownBy w' (Value.slice js'[i].1 ne js'[i].2.1).ownBlock→w'.ownsRow (N+2) 114 2 (.slice x' (ne+1) y') (ne+1) (flatE (js'[i].2.2.ends++[⟨0,0⟩]))→Sp W2 C N (N+2) ca cc bs (at_+10000) (w'.setCell ⟨g,i*3+2,none⟩ (.slice x' (ne+1) y'))∧w'.cell? ⟨g,i*3+2,none⟩=some (.slice js'[i].1 ne js'[i].2.1)∧w'.frozen? ⟨g,i*3+2,none⟩=false):=by
       intro w' x' y' hg ho
       rw [← hne] at hg ho ⊢
       have hnet:=HG5.out.growE hilJ hg ho
       have hrw:=HG5.out.turnE hilJ hg
       have hoj:=hrw.2.2.2.2.1
       refine ⟨Sp.mk' hnet HC5.out hlow.out (HOP.out _ (HO4.out.trans HO5.out)) (by omega) ((Only.grown hg (fun b e=>Or.inr (hrow.lt b e).1)).setCell (p:=⟨g,i*3+2,none⟩) (Or.inl (Or.inr (hoj.lt g rfl).1)) _),(hoj.cellAt (i*3+2) (by omega)).trans ((flat_get encJ 3 (fun _=>rfl) js' i 2 hilJ (by omega)).trans rfl),hoj.frozenAt _⟩
      have HROW:=hidP hrow
      rw [hne] at sc hel HROW
      have HPS:=hidP (flatE_push js'[i].2.2.ends ⟨0,0⟩)
      generalize js'[i].1=xe at sc HROW HGROW
      generalize js'[i].2.1=ye at sc HROW HGROW
      generalize js'[i].2.2.ends=es at HROW HGROW HPS
      clear hrow hne
      have hz5:N+2≤w5.heap.size:=by have h1:=HO3.out.size;have h2:=HO4.out.size;have h3:=HO5.out.size;omega
      go_wp2_with (at_builtin;refine wpList_push (Wp:=w5) rfl (.tmp 175) (.tmp 177) 83 rfl (N+2) 114 _ 2 16 Tryz.underlying83 Tryz.infoEnd rfl (by decide) (.slice xe ne ye) ne (flatE es) rfl HROW.out w5.heap.size rfl [.int .i64 0,.int .i64 0] rfl rfl (by simp [Value.oneCell']) (by unfold maxLen;omega) (by omega) hz5 ?_;intro xe8 ye8 w8 ho8 hg8;have ho9:w8.ownsRow (N+2) 114 2 (.slice xe8 (ne+1) ye8) (ne+1) (flatE (es++[⟨0,0⟩])):=(by rw [← HPS.out];exact ho8);obtain ⟨hsp,sc8,sz8⟩:=HGROW.out w8 xe8 ye8 hg8 ho9;have HSP:=hidP hsp;clear hsp ho8 ho9 hg8)
      go_meet
      exact HSP.out
     ·obtain ⟨sc,sz⟩:=HG5.out.cellJ hilJ 2 (by omega) rfl
      have hgz:=cellLt sc
      dsimp only at hgz
      go_wp2_with fail
      go_meet
      exact Sp.setJ HG5.out HC5.out hlow.out (HOP.out _ (HO4.out.trans HO5.out)) (by omega) hilJ (j:=2) (by omega) (none,0,⟨js'[i].2.2.kind,js'[i].2.2.name,[]⟩) rfl (HG5.out.jn js'[i] (List.getElem_mem hilJ)) ⟨World.ownsRow_nil _ _ _ _,by simp⟩ (fun k hk hne=>Or.inr (Or.inl rfl))
  ·as_aux_lemma =>
   have hjn:=HJL.out
   have c0:=HG3.out.c1
   rw [hjn] at c0
   by_cases hp0:js.length=0
   ·have hp0':¬ (0:Int)<js.length:=by omega
    clear hp0
    go_wp2_with fail
    go_meet
    exact Sp.same HG3.out HC3.out (HOP.out _ (Only.refl _ _)) (by omega)
   ·have hp0':(0:Int)<js.length:=by omega
    obtain ⟨g,rfl⟩:=owns_addr HG3.out.oj (by omega)
    obtain ⟨n,hn⟩:∃ n:Nat,(js.length:Int)-1=n:=⟨js.length-1,by omega⟩
    have HCUT:=hidP (HG3.out.cutJ (n:=n) (by omega))
    have z1:=HG3.out.z 1
    have hNz:=HG3.out.lt
    obtain ⟨hy1,hy2⟩:=owns_cap HG3.out.oj
    have hny:n≤yj:=by omega
    have hnyi:(n:Int)≤yj:=by omega
    unfold maxLen at hy2
    clear hy1
    go_wp2_with fail
    go_meet
    exact Sp.mk' HCUT.out.toW HC3.out hlow.out (HOP.out _ (Only.refl _ _)) (by omega) ((Only.refl _ _).setCell (p:=⟨N,1,none⟩) (Or.inl (Or.inl rfl)) _)
  ·as_aux_lemma =>
   have hjn:=HJL.out
   have c1:=HG3.out.c1
   have hoj:=HG3.out.oj
   rw [hjn] at c1 hoj
   have HOJ:=hidP hoj
   have hz3:N+2≤w3.heap.size:=by have h1:=HO3.out.size;omega
   have hNz:=HG3.out.lt
   have HPUSH:Hid (∀ (w':World) (x':Option Addr) (y':Nat),(w3.alloc (.cells #[.int .i64 0,.int .i64 0] 114)).grownBy w' (Value.slice xj js.length yj).ownBlock→w'.ownsRow (N+2) 109 3 (.slice x' (js.length+1) y') (js.length+1) (flatJ js'++[.int .i64 1,.string ⟨#[]⟩,.slice (some ⟨w3.heap.size,0,none⟩) 1 1])→Sp W2 C N (N+2) ca cc bs (at_+10000) (w'.setCell ⟨N,1,none⟩ (.slice x' (js.length+1) y'))∧w'.cell? ⟨N,1,none⟩=some (.slice xj js.length yj)∧w'.frozen? ⟨N,1,none⟩=false):=by
    intro w' x' y' hg ho
    have hb:=(Below.refl w3.heap.size w3).alloc (Nat.le_refl _) (.cells #[.int .i64 0,.int .i64 0] 114)
    have hG:=HG3.out.below hb
    have ho:w'.ownsRow (N+2) 109 3 (.slice x' (js.length+1) y') (js.length+1) (flatJ (js'++[(some ⟨w3.heap.size,0,none⟩,1,⟨1,⟨#[]⟩,[⟨0,0⟩]⟩)])):=by rw [← flatJ_push];exact ho
    rw [← hjn] at ho
    rw [← hjn] at hg ⊢
    have hE:EndsO (w3.alloc (.cells #[.int .i64 0,.int .i64 0] 114)) (N+2) (some ⟨w3.heap.size,0,none⟩,1,⟨1,⟨#[]⟩,[⟨0,0⟩]⟩):=⟨World.ownsRow_lit w3 #[.int .i64 0,.int .i64 0] 1 hz3 (by unfold maxLen;omega) rfl,by simp⟩
    have hnet:=hG.pushJ hg ho (by show (0:Nat)≤maxLen;omega) hE (fun y hy=>by
     cases hb:ownJ y with
     | none=>exact Or.inl rfl
     | some b=>exact Or.inr (fun e=>by have h1:=((HG3.out.je y hy).1.lt b hb).2;simp [ownJ,Value.ownBlock] at e;omega))
    obtain ⟨m1,m2⟩:=hG.rowJ hg
    exact ⟨Sp.mk' hnet.toW (HC3.out.below hb) hlow.out ((HOP.out _ (Only.refl _ _)).alloc _) (by omega) (Only.setCell (S:=fun k=>k=N∨N+2≤k) (Only.grown hg (fun b e=>Or.inr (hG.oj.lt b e).1)) (p:=⟨N,1,none⟩) (Or.inl (Or.inl rfl)) _),m1,m2⟩
   go_wp2_with (at_builtin;refine wpList_push (Wp:=w3.alloc (.cells #[.int .i64 0,.int .i64 0] 114)) rfl (.tmp 198) (.tmp 202) 24 rfl (N+2) 109 _ 3 48 Tryz.underlying24 Tryz.infoJoint rfl (by decide) (.slice xj js.length yj) js.length (flatJ js') rfl (HOJ.out.alloc _) (w3.heap.size+1) (by simp) [.int .i64 1,.string ⟨#[]⟩,.slice (some ⟨w3.heap.size,0,none⟩) 1 1] rfl rfl (by simp [Value.oneCell']) (by unfold maxLen;omega) (by omega) (by simp;omega) ?_;intro xj8 yj8 w8 ho8 hg8;obtain ⟨hsp,m1,m2⟩:=HPUSH.out w8 xj8 yj8 hg8 ho8;have HSP:=hidP hsp;have hz8:=cellLt m1;dsimp only at hz8;clear hsp ho8 hg8)
   go_meet
   exact HSP.out
  ·as_aux_lemma =>
   have c0:=HG3.out.c0
   have hz3:N+2≤w3.heap.size:=by have h1:=HO3.out.size;omega
   have hNz:=HG3.out.lt
   have HPUSH:Hid (∀ (w':World) (x':Option Addr) (y':Nat),w3.grownBy w' (Value.slice xp ps.length yp).ownBlock→w'.ownsRow (N+2) 133 4 (.slice x' (ps.length+1) y') (ps.length+1) (flatPc ps++[.string ⟨#[122]⟩,.int .i64 1,.int .i64 1,.int .i64 1])→Sp W2 C N (N+2) ca cc bs (at_+10000) (w'.setCell ⟨N,0,none⟩ (.slice x' (ps.length+1) y'))∧w'.cell? ⟨N,0,none⟩=some (.slice xp ps.length yp)∧w'.frozen? ⟨N,0,none⟩=false):=by
    intro w' x' y' hg ho
    have ho:w'.ownsRow (N+2) 133 4 (.slice x' (ps.length+1) y') (ps.length+1) (flatPc (ps++[⟨⟨#[122]⟩,1,1,1⟩])):=by rw [← flatPc_push];exact ho
    have hnet:=HG3.out.pushP hg ho (by show (1:Nat)≤maxLen;unfold maxLen;omega)
    obtain ⟨m1,m2⟩:=HG3.out.rowP hg
    exact ⟨Sp.mk' hnet.toW HC3.out hlow.out (HOP.out _ (Only.refl _ _)) (by omega) (Only.setCell (S:=fun k=>k=N∨N+2≤k) (Only.grown hg (fun b e=>Or.inr (HG3.out.op.lt b e).1)) (p:=⟨N,0,none⟩) (Or.inl (Or.inl rfl)) _),m1,m2⟩
   go_wp2_with (at_builtin;refine wpList_push (Wp:=w3) rfl (.tmp 208) (.tmp 210) 23 rfl (N+2) 133 _ 4 40 Tryz.underlying23 Tryz.infoPiece rfl (by decide) (.slice xp ps.length yp) ps.length (flatPc ps) rfl HG3.out.op w3.heap.size rfl [.string ⟨#[122]⟩,.int .i64 1,.int .i64 1,.int .i64 1] rfl rfl (by simp [Value.oneCell']) (by unfold maxLen;omega) (by omega) hz3 ?_;intro xp8 yp8 w8 ho8 hg8;obtain ⟨hsp,m1,m2⟩:=HPUSH.out w8 xp8 yp8 hg8 ho8;have HSP:=hidP hsp;have hz8:=cellLt m1;dsimp only at hz8;clear hsp ho8 hg8)
   go_meet
   exact HSP.out
  ·as_aux_lemma =>
   have HI:Hid (Sq W2 C N (N+2) ca cc bs at_ w3):=⟨xp,yp,xj,yj,ps,js',at3,HG3.out,by omega,by omega,by omega,HC3.out,HOP.out _ (Only.refl _ _)⟩
   clear HG3 HC3 HOP HO3
   go_wp2_with fail
   go_loopw [] (fun wr=>Hid (Sq W2 C N (N+2) ca cc bs at_ wr)) (fun wr=>2000-lenNp wr N)
   case atStart=>exact HI
   case round =>
    clear HI
    obtain ⟨xp,yp,xj,yj,ps,js',atr,hg,hl1,hl2,hat,hc,ho⟩:=hrel.out
    have HG3:=hidP hg
    have HC3:=hidP hc
    have HO3:=hidP ho
    have c0:=hg.c0
    have hNz:=hg.lt
    have hmu:lenNp wr N=ps.length:=by simp [lenNp,c0]
    have hCN:=hg.cn
    clear hg hc ho hrel
    obtain ⟨S,hS⟩:∃ S:World→Prop,∀ u,S u↔u.cell? ⟨N,0,none⟩=some (.slice xp ps.length yp):=⟨_,fun _=>Iff.rfl⟩
    have HS0:=hidP hS
    have r0:∀ u:Held S,World.cell? u.val ⟨N,0,none⟩=some (.slice xp ps.length yp):=fun u=>(hS u.val).1 u.2
    have hS1:S wr.drew:=(hS _).2 c0
    have hne:=held_ne hS1
    clear hS
    go_upto_region 3 with fail
    refine wp_region_tree (fun w' => ∃ u:Held S,w'=u.val) 6 (by kernel_rfl) (by kernel_rfl) (held_some hS1) ?_
    (refine wpT_sea 0 ?_;intro K hK;go_big_quiet_op;go_big_quiet_on);(refine wpT_sea 1 ?_;intro K hK;go_big_quiet_op;go_big_quiet_on);(refine wpT_sea 2 ?_;intro K hK;go_big_quiet_op;go_big_quiet_on);(refine wpT_sea 3 ?_;intro K hK;go_big_quiet_op;go_big_quiet_on)
    refine wpT_loud 4 (by rfl) (by kernel_rfl) (by kernel_rfl) ?_
    intro K hK
    go_wp2_with (go_at_call 32;refine (pick_any C ca cc bs atr 2 _ (HC3.out.below ((Below.refl _ _).drew)) (by omega) (by omega)).mono ?_;rintro e w4 ⟨y,at4,hy4,rfl,hat4,hc4,ho4⟩)
    have ho4':Only (fun k=>k=C) wr w4:=((Only.refl _ _).drew).trans ho4
    have HO4:Hid (Only (fun k=>k=C∨k=N∨N+2≤k) W2 w4):=HO3.out.trans (ho4'.mono (fun k hk=>Or.inl hk))
    have HC4:=hidP hc4
    have HG4:=hidP (HG3.out.only ho4')
    have hS4:S w4:=(HS0.out _).2 HG4.out.c0
    have hy4':(y:Int)<2:=by omega
    clear hc4 ho4 ho4' HO3 HC3 HG3
    refine hK _ _ (held_some hS4) ?_
    clear hK K
    have hne:=held_ne hS4
    (refine wpT_sea 5 ?_;intro K hK;go_big_quiet_op;go_big_quiet_on)
    refine wpT_done (by kernel_rfl) ?_
    simp only [List.drop_succ_cons,List.drop_zero]
    clear r0 hne hS1 hS4 HS0 c0
    by_cases hlt:ps.length<100+y
    ·have hlti:(ps.length:Int)<100+(y:Int):=by omega
     have c0:=HG4.out.c0
     have hN4:=HG4.out.lt
     go_upto_region 5 with fail
     have hz4:N+2≤w4.heap.size:=by have h1:=HO4.out.size;omega
     obtain ⟨S,hS⟩:∃ S:World→Prop,∀ u,S u↔u.cell? ⟨N,0,none⟩=some (.slice xp ps.length yp):=⟨_,fun _=>Iff.rfl⟩
     have HS0:=hidP hS
     have r0:∀ u:Held S,World.cell? u.val ⟨N,0,none⟩=some (.slice xp ps.length yp):=fun u=>(hS u.val).1 u.2
     have hS1:S w4.drew:=(hS _).2 c0
     have hne:=held_ne hS1
     clear hS
     refine wp_region_tree (fun w' => ∃ u:Held S,w'=u.val) 8 (by kernel_rfl) (by kernel_rfl) (held_some hS1) ?_
     (refine wpT_sea 0 ?_;intro K hK;go_big_quiet_op;go_big_quiet_on);(refine wpT_sea 1 ?_;intro K hK;go_big_quiet_op;go_big_quiet_on);(refine wpT_sea 2 ?_;intro K hK;go_big_quiet_op;go_big_quiet_on);(refine wpT_sea 3 ?_;intro K hK;go_big_quiet_op;go_big_quiet_on)
     refine wpT_loud 4 (by rfl) (by kernel_rfl) (by kernel_rfl) ?_
     intro K hK
     go_wp2_with (go_at_call 73;refine (name_any _ ps.length _ (by omega)).mono ?_;rintro e w5 ⟨⟨s,rfl,hsz⟩,hb5'⟩)
     have hb5:Below w4.heap.size w4 w5:=(Below.refl _ _).drew.trans hb5'
     have HG5:=hidP (HG4.out.below hb5)
     have HC5:=hidP (HC4.out.below hb5)
     have HO5:Hid (Only (fun k=>k=C∨k=N∨N+2≤k) W2 w5):=HO4.out.trans (Only.of_below hb5)
     have hS5:S w5:=(HS0.out _).2 HG5.out.c0
     have hz5:N+2≤w5.heap.size:=by have h1:=hb5.size;omega
     have hsz':s.size≤maxLen:=by unfold maxLen;omega
     clear hb5' hb5 HG4 HC4 HO4
     refine hK _ _ (held_some hS5) ?_
     clear hK K
     (refine wpT_sea 5 ?_;intro K hK;go_big_quiet_op;go_big_quiet_on)
     refine wpT_loud 6 (by rfl) (by kernel_rfl) (by kernel_rfl) ?_
     intro K hK
     go_wp2_with fail
     have hS6:∀ o,S (World.alloc w5 o):=fun o=>(HS0.out _).2 (cell_later ((Below.refl w5.heap.size w5).alloc (Nat.le_refl _) o) ((HS0.out _).1 hS5))
     refine hK _ _ (held_some (hS6 _)) ?_
     clear hK K hS6
     refine wpT_loud 7 (by rfl) (by kernel_rfl) (by kernel_rfl) ?_
     intro K hK
     refine wpList_push rfl (.tmp 23) (.tmp 28) 23 rfl (N+2) 133 _ 4 40 Tryz.underlying23 Tryz.infoPiece rfl (by decide) (.slice xp ps.length yp) ps.length (flatPc ps) rfl HG5.out.op w5.heap.size rfl [.string s,.int .i64 5,.int .i64 9,.int .i64 9] rfl rfl (by simp [Value.oneCell']) (by unfold maxLen;omega) (by omega) hz5 ?_
     intro xp' yp' w6 ho6 hg6
     have ho6':w6.ownsRow (N+2) 133 4 (.slice xp' (ps.length+1) yp') (ps.length+1) (flatPc (ps++[⟨s,5,9,9⟩])):=by rw [← flatPc_push];exact ho6
     have HG6:=hidP (HG5.out.pushP hg6 ho6' hsz')
     obtain ⟨m1,m2⟩:=HG5.out.rowP hg6
     have hS6:S w6:=(HS0.out _).2 m1
     have HO6':Hid (Only (fun k=>k=N∨N+2≤k) w5 (w6.setCell ⟨N,0,none⟩ (.slice xp' (ps.length+1) yp'))):=Only.setCell (S:=fun k=>k=N∨N+2≤k) (Only.grown hg6 (fun b e=>Or.inr (HG5.out.op.lt b e).1)) (p:=⟨N,0,none⟩) (Or.inl (Or.inl rfl)) _
     have HO6:Hid (Only (fun k=>k=C∨k=N∨N+2≤k) W2 (w6.setCell ⟨N,0,none⟩ (.slice xp' (ps.length+1) yp'))):=HO5.out.trans (HO6'.out.mono (fun k hk=>Or.inr hk))
     have HC6:Hid (Cur (w6.setCell ⟨N,0,none⟩ (.slice xp' (ps.length+1) yp')) C ca cc bs at4):=HC5.out.above hlow.out (fun k hk=>HO6'.out.block k (by have:=HC5.out.lt;omega) (by omega))
     have hN6:=cellLt m1
     dsimp only at hN6
     refine wpList_nil ⟨rfl,?_⟩
     refine hK _ _ (held_some hS6) ?_
     clear hK K ho6 ho6' hg6 HO6' HG5 HC5 HO5
     have hne:=held_ne hS6
     refine wpT_done (by kernel_rfl) ?_
     simp only [List.drop_succ_cons,List.drop_zero]
     clear r0 hne hS1 hS5 hS6 HS0 c0
     go_upto_region 6 with fail
     generalize hW7:World.setCell w6 _ _=W7
     rw [hW7] at HG6 HO6 HC6
     have c1:=HG6.out.c1
     have hN7:=HG6.out.lt
     have hz7:N+2≤W7.heap.size:=by have h1:=HO6.out.size;omega
     have hpl:(ps++[(⟨s,5,9,9⟩:MPiece)]).length=ps.length+1:=by simp
     have HPUSH:Hid (∀ (w':World) (x':Option Addr) (y':Nat),(W7.alloc (.cells #[.int .i64 ps.length,.int .i64 0,.int .i64 ps.length,.int .i64 1] 114)).grownBy w' (Value.slice xj js'.length yj).ownBlock→w'.ownsRow (N+2) 109 3 (.slice x' (js'.length+1) y') (js'.length+1) (flatJ js'++[.int .i64 2,.string ⟨#[]⟩,.slice (some ⟨W7.heap.size,0,none⟩) 2 2])→Sq W2 C N (N+2) ca cc bs at_ (w'.setCell ⟨N,1,none⟩ (.slice x' (js'.length+1) y'))∧lenNp (w'.setCell ⟨N,1,none⟩ (.slice x' (js'.length+1) y')) N=ps.length+1∧w'.cell? ⟨N,1,none⟩=some (.slice xj js'.length yj)∧w'.frozen? ⟨N,1,none⟩=false):=by
      intro w' x' y' hg ho
      have hb:=(Below.refl W7.heap.size W7).alloc (Nat.le_refl _) (.cells #[.int .i64 ps.length,.int .i64 0,.int .i64 ps.length,.int .i64 1] 114)
      have hG:=HG6.out.below hb
      have ho:w'.ownsRow (N+2) 109 3 (.slice x' (js'.length+1) y') (js'.length+1) (flatJ (js'++[(some ⟨W7.heap.size,0,none⟩,2,⟨2,⟨#[]⟩,[⟨ps.length,0⟩,⟨ps.length,1⟩]⟩)])):=by rw [← flatJ_push];exact ho
      have hE:EndsO (W7.alloc (.cells #[.int .i64 ps.length,.int .i64 0,.int .i64 ps.length,.int .i64 1] 114)) (N+2) (some ⟨W7.heap.size,0,none⟩,2,⟨2,⟨#[]⟩,[⟨ps.length,0⟩,⟨ps.length,1⟩]⟩):=⟨World.ownsRow_lit W7 #[.int .i64 ps.length,.int .i64 0,.int .i64 ps.length,.int .i64 1] 2 hz7 (by unfold maxLen;omega) rfl,by simp⟩
      have hnet:=hG.pushJ hg ho (by show (0:Nat)≤maxLen;omega) hE (fun y hy=>by
       cases hb:ownJ y with
       | none=>exact Or.inl rfl
       | some b=>exact Or.inr (fun e=>by have h1:=((HG6.out.je y hy).1.lt b hb).2;simp [ownJ,Value.ownBlock] at e;omega))
      obtain ⟨m1,m2⟩:=hG.rowJ hg
      have hon:Only (fun k=>k=N∨N+2≤k) (W7.alloc (.cells #[.int .i64 ps.length,.int .i64 0,.int .i64 ps.length,.int .i64 1] 114)) (w'.setCell ⟨N,1,none⟩ (.slice x' (js'.length+1) y')):=Only.setCell (S:=fun k=>k=N∨N+2≤k) (Only.grown hg (fun b e=>Or.inr (hG.oj.lt b e).1)) (p:=⟨N,1,none⟩) (Or.inl (Or.inl rfl)) _
      refine ⟨⟨_,_,_,_,_,_,at4,hnet,by rw [hpl];omega,by rw [hpl,List.length_append];simp;omega,by rw [hpl];omega,(HC6.out.below hb).above hlow.out (fun k hk=>hon.block k (by have:=HC6.out.lt;simp;omega) (by omega)),(HO6.out.alloc _).trans (hon.mono (fun k hk=>Or.inr hk))⟩,?_,m1,m2⟩
      have hc0:=hnet.c0
      simp only [lenNp,hc0,hpl]
     clear hW7 hsz
     go_wp2_with (at_builtin;refine wpList_push (Wp:=W7.alloc (.cells #[.int .i64 ps.length,.int .i64 0,.int .i64 ps.length,.int .i64 1] 114)) rfl (.tmp 32) (.tmp 39) 24 rfl (N+2) 109 _ 3 48 Tryz.underlying24 Tryz.infoJoint rfl (by decide) (.slice xj js'.length yj) js'.length (flatJ js') rfl (HG6.out.oj.alloc _) (W7.heap.size+1) (by simp) [.int .i64 2,.string ⟨#[]⟩,.slice (some ⟨W7.heap.size,0,none⟩) 2 2] rfl rfl (by simp [Value.oneCell']) (by unfold maxLen;omega) (by omega) (by simp;omega) ?_;intro xj8 yj8 w8 ho8 hg8;obtain ⟨hsq,hmu8,m3,m4⟩:=HPUSH.out w8 xj8 yj8 hg8 ho8;have HSQ:=hidP hsq;have HMU8:=hidP hmu8;have hz8:=cellLt m3;dsimp only at hz8;clear hsq hmu8 ho8 hg8)
     go_roundw
     case rel=>(repeat apply Exists.intro);exact ⟨HSQ,rfl⟩
     case measure=>rw [HMU8.out,hmu];omega
    ·have hlti:¬ (ps.length:Int)<100+(y:Int):=by omega
     go_wp2_with fail
     go_meet
     exact Sp.same HG4.out HC4.out HO4.out (by omega)
 case rest =>
  obtain ⟨xp',yp',xj',yj',ps',js2,at',hg,hat',hc',ho',hps'⟩:=hcut.out
  have c0:=hg.c0
  have c1:=hg.c1
  have hRr:wc.heap[R]? = W2.heap[R]? := ho'.block R (by omega) (by omega)
  have r0:=(World.cell?_of_block (w:=W2) (a:=⟨R,0,none⟩) hRr).trans q0
  have r1:=(World.cell?_of_block (w:=W2) (a:=⟨R,1,none⟩) hRr).trans q1
  have u0:=(World.frozen?_of_block (w:=W2) (a:=⟨R,0,none⟩) hRr).trans (HQZ.out 0)
  have u1:=(World.frozen?_of_block (w:=W2) (a:=⟨R,1,none⟩) hRr).trans (HQZ.out 1)
  have HG:=hidP hg
  have HC:=hidP hc'
  have HO:=hidP ho'
  have hnR:N≠R:=by omega
  clear hg hc' ho' hcut hRr q0 q1
  go_wp2_with fail
  refine bodyPost_ret (v:=.agg #[.slice xp' ps'.length yp',.slice xj' js2.length yj']) (by simp [results,Tryz.results57,go_sem,r0,r1]) rfl ?_
  have hk:∀ b,b≠R→((wc.setCell ⟨R,0,none⟩ (.slice xp' ps'.length yp')).setCell ⟨R,1,none⟩ (.slice xj' js2.length yj')).heap[b]? = wc.heap[b]? := fun b hb=>(Below.heap_setCell _ _ _ _ hb).trans (Below.heap_setCell _ _ _ _ hb)
  have hw:=HNw.out
  refine ⟨xp',yp',xj',yj',ps',js2.map (fun z=>z.2.2),at',by rw [List.length_map],?_,by omega,HC.out.above hlow.out (fun k h=>hk k (by omega)),?_,hps'⟩
  ·refine fun u hu=>HG.out.keep (Nat.le_refl _) u (fun b h1 h2 h3=>(hu b (by omega) (by simpa using h2) ?_).trans (hk b (by omega)))
   unfold SgBk at h3 ⊢
   rw [hk b (by omega)]
   exact h3
  ·exact ⟨HO.out.os.trans HLOW.out.os,HO.out.tape.trans HLOW.out.tape,HO.out.output.trans HLOW.out.output,by have h1:=HO.out.size;have h2:=HLOW.out.size;simp;omega,fun b hb hn=>(hk b (by omega)).trans ((HO.out.block b (by have:=HLOW.out.size;omega) (by omega)).trans (HLOW.out.block b hb hn))⟩
end Go.Proofs.YtmkdgnmmebldgaaGreatDoor
