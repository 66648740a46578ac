import Derived.Test.YtmkdgnmmebldgaaGreatDoorPk42
import Derived.Deep.DeepCutAuto
import Derived.Deep.CutBlock
import Derived.Great.BuildSlice
set_option maxRecDepth 100000
set_option maxHeartbeats 200000000
open Go.Proofs.Tryz
namespace Go.Proofs.YtmkdgnmmebldgaaGreatDoor
open Go.RowKit Go.Deep
variable {B e g n s y:Nat}{w:World}{xs:List Value}
structure qQ (w:World)(C N B:Nat)(xp:Option Addr)(yp:Nat)(xj:Option Addr)(yj:Nat)(ps:List af)(js:List MJ):Prop where
 cn:C<N
 nb:N<B
 c0:w.cell? ⟨N,0,none⟩=some (.slice xp ps.length yp)
 c1:w.cell? ⟨N,1,none⟩=some (.slice xj js.length yj)
 op:w.ownsRow B 133 4 (.slice xp ps.length yp) ps.length (bd ps)
 oj:w.ownsRow B 109 3 (.slice xj js.length yj) js.length (cq js)
 je:∀ x ∈ js,w.ownsRow B 114 2 (.slice x.1 x.2.2.ends.length x.2.1) x.2.2.ends.length (aG x.2.2.ends)/\x.2.2.ends.length<=6
 pn:∀ p ∈ ps,p.name.size<=maxLen
 jn:∀ x ∈ js,x.2.2.name.size<=maxLen
def AJ (w:World)(b:Nat):Prop := ∃ cur fz,w.heap[b]? = some (.cells cur 62 fz)
def tA (B:Nat)(w':World)(xp xj:Option Addr)(ps:List af)(js:List aj):Prop := ∀ u:World,(∀ b,B<=b->b<w'.heap.size->¬ AJ w' b->u.heap[b]? = w'.heap[b]?)->ar u xp ps/\aP u xj js
theorem lP {v:Value}(h:w.ownsRow B e s v n xs)(he:e≠62){b:Nat}(hb:v.ownBlock=some b):¬ AJ w b:=by
 rintro ⟨a,fz,e1⟩;rcases h.2 with ⟨hv,_⟩ | ⟨g,c,c2,hv,_,hg,_⟩
 ·rw [hv] at hb;cases hb
 ·rw [hv] at hb;cases hb;rw [hg] at e1;injection e1 with e1;injection e1 with _ e2 _;exact he e2
def Sp (W:World)(C N B:Nat)(ca:Option Addr)(cc:Nat)(bs:List Int)(top:Nat)(wx:World):Prop:=
 ∃ xp yp xj yj ps js at_,qQ wx C N B xp yp xj yj ps js/\at_<=top/\Cur wx C ca cc bs at_/\ag (fun k=>k=C\/k=N\/B<=k) W wx/\ps.length<=2000
def Sq (W:World)(C N B:Nat)(ca:Option Addr)(cc:Nat)(bs:List Int)(at_:Nat)(wx:World):Prop:=
 ∃ xp yp xj yj ps js at',bF wx C N B xp yp xj yj ps js/\ps.length<=1000/\js.length<=1000+ps.length/\at'<=at_+4+2*ps.length/\Cur wx C ca cc bs at'/\ag (fun k=>k=C\/k=N\/B<=k) W wx
def qg (w:World)(N:Nat):Nat:=match w.cell? ⟨N,0,none⟩ with
 | some (.slice _ n _)=>n
 | _=>0
theorem wE {x:Option Addr}{es:List am}(h:w.ownsRow B 114 2 (.slice x es.length y) es.length (aG es))(hl:es.length<=6):aT w x es:=by
 obtain ⟨a,b,e1,e2,_,_⟩:=kj (es:=es) h CK
 injection e1 with e1 _ _;rw [e1];exact e2
section
variable {w w':World} {C N B:Nat} {xp xj:Option Addr} {yp yj:Nat} {ps:List af} {js:List MJ}
theorem bF.toW (h:bF w C N B xp yp xj yj ps js):qQ w C N B xp yp xj yj ps js:=⟨h.cn,h.nb,h.c0,h.c1,h.op,h.oj,fun x hx=>⟨(h.je x hx).1,by have:=(h.je x hx).2;omega⟩,h.pn,h.jn⟩
theorem bF.nilP (h:bF w C N B xp yp xj yj ps js):bF (w.setCell ⟨N,0,none⟩ (.slice none 0 0)) C N B none 0 xj yj [] js:=by
 have a:∀ b,N≠b->(w.setCell ⟨N,0,none⟩ (.slice none 0 0)).heap[b]? = w.heap[b]? := fun b hb=>Below.heap_setCell _ _ _ _ (fun e=>hb e.symm)
 refine ⟨h.cn,h.nb,World.cell?_setCell_same _ _ _ h.c0,?_,fun o=>by rw [World.frozen?_setCell];exact h.z o,World.ownsRow_nil _ _ _ _,ownsRow_setCell_below h.oj h.nb _,fun x hx=>(h.je x hx).kept (fun b h1 _=>a b (by have:=h.nb;omega)),h.ap,fun p hp=>(by cases hp),h.jn⟩
 rw [World.cell?_setCell_other _ _ _ _ CI];exact h.c1
theorem bF.cutJ {g:Nat}(h:bF w C N B xp yp (some ⟨g,0,none⟩) yj ps js){n:Nat}(hn:js.length=n+1):bF (w.setCell ⟨N,1,none⟩ (.slice (some ⟨g,0,none⟩) n yj)) C N B xp yp (some ⟨g,0,none⟩) yj ps (js.take n):=by
 have c:∀ b,N≠b->(w.setCell ⟨N,1,none⟩ (.slice (some ⟨g,0,none⟩) n yj)).heap[b]? = w.heap[b]? := fun b hb=>Below.heap_setCell _ _ _ _ (fun e=>hb e.symm)
 have hl:(js.take n).length=n:=by rw [List.length_take];omega
 have a:=h.oj;rw [hn] at a;have a:=oH a;have hf:(cq js).take (n*3)=cq (js.take n):=by
  have e:cq js=cq (js.take n)++cq (js.drop n):=by unfold cq;rw [<-List.flatMap_append,List.take_append_drop]
  have e2:(cq (js.take n)).length=n*3:=by
   have:=iw fD 3 (fun _=>rfl) (js.take n)
   rw [hl] at this;exact this
  rw [e,List.take_append_of_le_length CG,List.take_of_length_le CG]
 rw [hf] at a;refine ⟨h.cn,h.nb,?_,?_,fun o=>by rw [World.frozen?_setCell];exact h.z o,ownsRow_setCell_below h.op h.nb _,by rw [hl];exact ownsRow_setCell_below a h.nb _,fun x hx=>(h.je x (List.mem_of_mem_take hx)).kept (fun b h1 _=>c b (by have:=h.nb;omega)),h.ap.sublist (List.take_sublist _ _),h.pn,fun x hx=>h.jn x (List.mem_of_mem_take hx)⟩
 ·rw [World.cell?_setCell_other _ _ _ _ CI];exact h.c0
 ·rw [hl];exact World.cell?_setCell_same _ _ _ h.c1
theorem bF.growE {gj:Nat}(h:bF w C N B xp yp (some ⟨gj,0,none⟩) yj ps js){i:Nat}(hi:i<js.length){e:am}{x':Option Addr}{y':Nat}(hg:w.grownBy w' (ct js[i]))(ho:w'.ownsRow B 114 2 (.slice x' (js[i].2.2.ends.length+1) y') (js[i].2.2.ends.length+1) (aG (js[i].2.2.ends++[e]))):
  qQ (w'.setCell ⟨gj,i*3+2,none⟩ (.slice x' (js[i].2.2.ends.length+1) y')) C N B xp yp (some ⟨gj,0,none⟩) yj ps (js.set i (x',y',⟨js[i].2.2.kind,js[i].2.2.name,js[i].2.2.ends++[e]⟩)):=by
 obtain ⟨a0,a1,a2,a3,a4,a5⟩:=h.turnE hi hg;obtain ⟨h1,h2⟩:=a4.stored (i*3+2) (.slice x' (js[i].2.2.ends.length+1) y');rw [show (cq js).set (i*3+2) (.slice x' (js[i].2.2.ends.length+1) y')=cq (js.set i (x',y',⟨js[i].2.2.kind,js[i].2.2.name,js[i].2.2.ends++[e]⟩)) from (ga fD 3 (fun _=>rfl) js i 2 hi CG _ _ (by simp [fD])).symm] at h1
 have hN:=h2.block N (by have:=(a4.lt gj rfl).2;have:=(a4.lt gj rfl).1;have:=h.nb;omega) (fun e=>by injection e with e;have:=(a4.lt gj rfl).1;have:=h.nb;omega)
 have hne:∀ b,gj≠b->(w'.setCell ⟨gj,i*3+2,none⟩ (.slice x' (js[i].2.2.ends.length+1) y')).heap[b]? = w'.heap[b]? := fun b hb=>Below.heap_setCell _ _ _ _ (fun e=>hb e.symm)
 have a:(js.set i (x',y',⟨js[i].2.2.kind,js[i].2.2.name,js[i].2.2.ends++[e]⟩)).length=js.length:=CI
 have c:∀ {v:Value} {n:Nat} {xs:List Value},w'.ownsRow B 114 2 v n xs->(w'.setCell ⟨gj,i*3+2,none⟩ (.slice x' (js[i].2.2.ends.length+1) y')).ownsRow B 114 2 v n xs:=fun hv=>hv.kept h2 (aV (e:=114) (e':=109) CJ hv a4)
 refine ⟨h.cn,h.nb,(World.cell?_of_block (w:=w') hN).trans a0,by rw [a];exact (World.cell?_of_block (w:=w') hN).trans a1,a3.kept h2 (aV (e:=133) (e':=109) CJ a3 a4),by rw [a];exact h1,fun x hm=>?_,h.pn,fun x hm=>?_⟩
 ·obtain ⟨k,hk,rfl⟩:=List.getElem_of_mem hm;rw [List.getElem_set]
  split
  ·refine ⟨c (by simpa using ho),?_⟩
   have:=(h.je _ (List.getElem_mem hi)).2
   show (js[i].2.2.ends++[e]).length<=6
   simp;omega
  ·have hE:=a5 k (by simpa using hk) CG
   exact ⟨c hE.1,by have:=hE.2;omega⟩
 ·rcases List.mem_or_eq_of_mem_set hm with hm | rfl
  ·exact h.jn x hm
  ·have h9:=h.jn js[i] (List.getElem_mem hi);exact h9
theorem bF.setE2 (h:bF w C N B xp yp xj yj ps js){i q:Nat}(hi:i<js.length)(hq:q<js[i].2.2.ends.length){g:Nat}(hx:js[i].1=some ⟨g,0,none⟩)(a b:Int):∃ js2,bF ((w.setCell ⟨g,q*2,none⟩ (.int .i64 a)).setCell ⟨g,q*2+1,none⟩ (.int .i64 b)) C N B xp yp xj yj ps js2:=by
 obtain ⟨h1,_⟩:=h.setE hi hq (j:=0) CG hx (e':=⟨a,js[i].2.2.ends[q].side⟩) (u:=.int .i64 a) rfl
 generalize hL:js.set i _=L at h1;have d:i<L.length:=by rw [<-hL];simpa using hi
 have c:L[i]=(js[i].1,js[i].2.1,⟨js[i].2.2.kind,js[i].2.2.name,js[i].2.2.ends.set q ⟨a,js[i].2.2.ends[q].side⟩⟩):=by
  have:L[i]? = some (js[i].1,js[i].2.1,⟨js[i].2.2.kind,js[i].2.2.name,js[i].2.2.ends.set q ⟨a,js[i].2.2.ends[q].side⟩⟩):=by rw [<-hL];simp [hi]
  rw [List.getElem?_eq_getElem d] at this;exact Option.some.inj this
 obtain ⟨h2,_⟩:=h1.setE (i:=i) d (q:=q) (by rw [c];simpa using hq) (j:=1) CG (g:=g) (by rw [c];exact hx) (e':=⟨a,b⟩) (u:=.int .i64 b) (by simp [c,gn])
 exact ⟨_,h2⟩
theorem qQ.keep (h:qQ w C N B xp yp xj yj ps js){B':Nat}(hB:B'<=B):tA B' w xp xj ps (js.map (fun z=>z.2.2)):=by
 intro u hu;have a:=ax (w':=u) h.op (fun b hb=>hu b (by have:=(h.op.lt b hb).1;omega) (h.op.lt b hb).2 (lP h.op CJ hb))
 have c:=ax (w':=u) h.oj (fun b hb=>hu b (by have:=(h.oj.lt b hb).1;omega) (h.oj.lt b hb).2 (lP h.oj CJ hb))
 exact ⟨zi a h.pn,yH c h.jn (fun x hx=>wE (ax (w':=u) (h.je x hx).1 (fun b hb=>hu b (by have:=((h.je x hx).1.lt b hb).1;omega) ((h.je x hx).1.lt b hb).2 (lP (h.je x hx).1 CJ hb))) (h.je x hx).2)⟩
end
theorem sB {P:Program}{ops:Array Oper}{rest:List Oper}{o:Oper}{a:Act}{Q:Exit->Act->World->Prop}(hg:o.guard=none)(x:Operand)(ho:o.op = .move x)(h:wpList P ops Q rest (a.put o.dst (a.eval x)) w):wpList P ops Q (o::rest) a w:=
 wpList_plain hg fun K hK=>by
  unfold Oper.wp execOp;simp only [ho];exact hK _ _ h
theorem Tryz.infoStr:(prog.info? 9).map (fun i=>(i.zero,i.size,i.bytes))=some (some (.string ⟨#[]⟩),1,16):=CH
theorem Cb (s1 s2 s3 s4 s5:ByteArray):Instr.fill (fun i=>some (i*1,1)) ((Array.range (6*1)).map ((Value.string ⟨#[]⟩).cells[· % (Value.string ⟨#[]⟩).cells.size]!)) [(0,.string ⟨#[]⟩),(1,.string s1),(2,.string s2),(3,.string s3),(4,.string s4),(5,.string s5)]=some #[.string ⟨#[]⟩,.string s1,.string s2,.string s3,.string s4,.string s5]:=CH
theorem wO {ops:Array Oper}{rest:List Oper}{o:Oper}{a:Act}{Q:Exit->Act->World->Prop}(hg:o.guard=none)(CF:Array (Nat × Operand))(ho:o.op = .buildSlice 183 6 CF)(s1 s2 s3 s4 s5:ByteArray)(hp:(CF.map fun (i,x)=>(i,a.eval x)).toList=[(0,.string ⟨#[]⟩),(1,.string s1),(2,.string s2),(3,.string s3),(4,.string s4),(5,.string s5)])
  (h:wpList prog ops Q rest (a.put o.dst (.slice (some ⟨w.heap.size,0,none⟩) 6 6)) (w.alloc (.cells #[.string ⟨#[]⟩,.string s1,.string s2,.string s3,.string s4,.string s5] 9))):wpList prog ops Q (o::rest) a w:=by
 obtain ⟨i,c,d,b,_⟩:=info_parts Tryz.infoStr;refine Go.wpList_buildSlice hg 183 9 6 CF ho _ i _ underlying183 c d (by rw [b];decide) (by rw [b];decide) ?_ h
 rw [hp,b];exact Cb s1 s2 s3 s4 s5
theorem BO (a:Act)(s1 s2 s3 s4 s5:ByteArray):((#[(0,Operand.const (.string ⟨#[]⟩)),(1,.const (.string s1)),(2,.const (.string s2)),(3,.const (.string s3)),(4,.const (.string s4)),(5,.const (.string s5))]:Array (Nat × Operand)).map fun (i,x)=>(i,a.eval x)).toList=[(0,.string ⟨#[]⟩),(1,.string s1),(2,.string s2),(3,.string s3),(4,.string s4),(5,.string s5)]:=by simp [Act.eval]
theorem cS (w:World)(cs:Array Value)(t:TypeId)(y:Nat):(w.alloc (.cells cs t)).cell? ⟨w.heap.size,y,none⟩=cs[y]? := cell_of_row _ _ _ _ _ _ (heap_alloc_new w _)
theorem AM (h:w.ownsRow B e s (.slice (some ⟨g,0,none⟩) n y) n xs):n<=y/\y<=maxLen:=by
 rcases h.2 with ⟨h1,_⟩ | ⟨g,a,b,h1,_,_,h4,h5,_⟩
 ·cases h1
 ·injection h1 with _ _ h1;subst h1;exact ⟨h4,h5⟩
theorem kL {x:Option Addr}(h:w.ownsRow B e s (.slice x n y) n xs)(h0:0<n):∃ g,x=some ⟨g,0,none⟩:=by
 rcases h.2 with ⟨_,h2⟩ | ⟨g,a,b,h1,_⟩
 ·omega
 ·injection h1 with h1;exact ⟨g,h1⟩
section
variable {W w w':World} {C N B:Nat} {ca:Option Addr} {cc:Nat} {bs:List Int} {at_ top:Nat} {xp xj:Option Addr} {yp yj:Nat} {ps:List af} {js:List MJ}
theorem Sp.mk' (hg:qQ w' C N B xp yp xj yj ps js)(hc:Cur w C ca cc bs at_)(hl:eQ C ca bs)(ho:ag (fun k=>k=C\/k=N\/B<=k) W w)(hat:at_<=top)(hgr:ag (fun k=>k=N\/B<=k) w w')(hps:ps.length<=2000:=by first | omega | (simp;done) | (simp;omega)):Sp W C N B ca cc bs top w':=by
 refine ⟨_,_,_,_,_,_,_,hg,hat,hc.above hl (fun k hk=>hgr.block k (by have:=hc.lt;omega) ?_),ho.trans (hgr.mono (fun k hk=>Or.inr hk)),hps⟩
 have:=hg.cn;have:=hg.nb;omega
theorem Sp.same (hg:bF w C N B xp yp xj yj ps js)(hc:Cur w C ca cc bs at_)(ho:ag (fun k=>k=C\/k=N\/B<=k) W w)(hat:at_<=top)(hps:ps.length<=2000:=by first | omega | (simp;done) | (simp;omega)):Sp W C N B ca cc bs top w:=⟨_,_,_,_,_,_,_,hg.toW,hat,hc,ho,hps⟩
theorem Sp.setP {g:Nat}(hg:bF w C N B (some ⟨g,0,none⟩) yp xj yj ps js)(hc:Cur w C ca cc bs at_)(hl:eQ C ca bs)(ho:ag (fun k=>k=C\/k=N\/B<=k) W w)(hat:at_<=top){i j:Nat}(hi:i<ps.length)(hj:j<4)(p':af){u:Value}(he:dY p'=(dY ps[i]).set j u)(hn:p'.name.size<=maxLen)(hps:ps.length<=2000:=by first | omega | (simp;done) | (simp;omega)):Sp W C N B ca cc bs top (w.setCell ⟨g,i*4+j,none⟩ u):=by
 obtain ⟨h1,h2⟩:=hg.setP hi hj he hn;exact Sp.mk' h1.toW hc hl ho hat (ag.grown h2 (fun b e=>Or.inr (by cases e;exact (hg.op.lt g rfl).1))) (by simpa using hps)
theorem Sp.setJ {g:Nat}(hg:bF w C N B xp yp (some ⟨g,0,none⟩) yj ps js)(hc:Cur w C ca cc bs at_)(hl:eQ C ca bs)(ho:ag (fun k=>k=C\/k=N\/B<=k) W w)(hat:at_<=top){i j:Nat}(hi:i<js.length)(hj:j<3)(x':MJ){u:Value}(he:fD x'=(fD js[i]).set j u)(hn:x'.2.2.name.size<=maxLen)(hE:fK w B x')(hap:∀ k (_:k<js.length),k≠i->ct js[k]=none\/ct x'=none\/ct js[k]≠ct x')(hps:ps.length<=2000:=by first | omega | (simp;done) | (simp;omega)):Sp W C N B ca cc bs top (w.setCell ⟨g,i*3+j,none⟩ u):=by
 obtain ⟨h1,h2⟩:=hg.setJ hi hj he hn hE hap;exact Sp.mk' h1.toW hc hl ho hat (ag.grown h2 (fun b e=>Or.inr (by cases e;exact (hg.oj.lt g rfl).1))) hps
end
theorem bF.cellP {C N yp yj:Nat}{xj:Option Addr}{ps:List af}{js:List MJ}(h:bF w C N B (some ⟨g,0,none⟩) yp xj yj ps js){i:Nat}(hi:i<ps.length)(j:Nat)(hj:j<4){u:Value}(hu:(dY ps[i])[j]? = some u):w.cell? ⟨g,i*4+j,none⟩=some u/\w.frozen? ⟨g,i*4+j,none⟩=false:=
 ⟨(h.op.cellAt (i*4+j) CG).trans ((aZ dY 4 (fun _=>rfl) ps i j hi hj).trans hu),h.op.frozenAt _⟩
theorem bF.cellJ {C N yp yj:Nat}{xp:Option Addr}{ps:List af}{js:List MJ}(h:bF w C N B xp yp (some ⟨g,0,none⟩) yj ps js){i:Nat}(hi:i<js.length)(j:Nat)(hj:j<3){u:Value}(hu:(fD js[i])[j]? = some u):w.cell? ⟨g,i*3+j,none⟩=some u/\w.frozen? ⟨g,i*3+j,none⟩=false:=
 ⟨(h.oj.cellAt (i*3+j) CG).trans ((aZ fD 3 (fun _=>rfl) js i j hi hj).trans hu),h.oj.frozenAt _⟩
theorem yx (C:Nat)(ca:Option Addr)(cc:Nat)(bs:List Int)(at_:Nat)(pa:Option Addr)(pc:Nat)(ja:Option Addr)(jc:Nat)(ps:List af)(js:List aj)(w:World)(hc:Hid (Cur w C ca cc bs at_))(hlow:Hid (eQ C ca bs))(ha:at_<=500000000)(hP:Hid (ar w pa ps))(hJ:Hid (aP w ja js))(hp1:ps.length<=1000)(hj1:js.length<=1000)(hje:Hid (∀ j ∈ js,j.ends.length<=4)):
  Calls prog 57 #[.pointer (some ⟨C,0,none⟩),.agg #[.slice pa ps.length pc,.slice ja js.length jc]] w fun e w' => ∃ xp yp xj yj ps' js' at',e = .returned (.agg #[.slice xp (ps':List af).length yp,.slice xj (js':List aj).length yj])/\tA w.heap.size w' xp xj ps' js'/\at'<=at_+100000000/\Cur w' C ca cc bs at'/\ag (fun k=>k=C) w w'/\ps'.length<=2000:=by
 have b1:=hc.out.lt
 go_enter func57,ntmps57
 go_wp2_with fail
 generalize hW:World.alloc (World.alloc w _) _=W;have b2:Cx w W:=by rw [<-hW];exact blo
 have n0:W.cell? ⟨w.heap.size,0,none⟩=some (.slice pa ps.length pc):=by rw [<-hW];simp [go_sem]
 have n1:W.cell? ⟨w.heap.size,1,none⟩=some (.slice ja js.length jc):=by rw [<-hW];simp [go_sem]
 have a3:Hid (∀ o,W.frozen? ⟨w.heap.size,o,none⟩=false):=fun o=>by rw [<-hW];simp [go_sem]
 have R0:W.cell? ⟨w.heap.size+1,0,none⟩=some (.slice none 0 0):=by rw [<-hW];simp [go_sem]
 have R1:W.cell? ⟨w.heap.size+1,1,none⟩=some (.slice none 0 0):=by rw [<-hW];simp [go_sem]
 have bk:Hid (∀ o,W.frozen? ⟨w.heap.size+1,o,none⟩=false):=fun o=>by rw [<-hW];simp [go_sem]
 have bl:W.heap.size=w.heap.size+2:=by rw [<-hW];simp
 have aN:=aa b2;clear hW b2;obtain ⟨N,hN⟩:∃ N,w.heap.size=N:=⟨_,rfl⟩;obtain ⟨R,hR⟩:∃ R,N+1=R:=⟨_,rfl⟩;rw [hN] at n0 n1 a3 R0 R1 bk bl b1 ⊢;rw [hR] at R0 R1 bk ⊢;have b3:Hid (w.heap.size=N):=hN;have b4:=aa (hP.out.below aN.out);have b5:=aa (hJ.out.below aN.out);clear hN;refine (xg pa pc ja jc ps js W b4 b5 hp1 hj1 hje).mono ?_;rintro e w1 ⟨xp,yp,xj,yj,js',rfl,br,a4,aO⟩;have b6:=aa br;have am:=aa a4;have a5:=aa aO;have m0:=cell_later aO n0;have m1:=cell_later aO n1;have z0:=(aO.frozen (p:=⟨N,0,none⟩) (by show N<W.heap.size;omega)).trans (a3.out 0)
 have z1:=(aO.frozen (p:=⟨N,1,none⟩) (by show N<W.heap.size;omega)).trans (a3.out 1)
 have bt:=aO.size;have a6:js'.length=js.length:=by rw [<-br,List.length_map]
 clear br a4 aO n0 n1
 go_upto_region 2 with fail
 generalize aA:World.setCell (World.setCell w1 _ _) _ _=W2;have aR:∀ b,b≠N->W2.heap[b]? = w1.heap[b]? := fun b hb=>by rw [<-aA];exact (Below.heap_setCell _ _ _ _ hb).trans (Below.heap_setCell _ _ _ _ hb)
 have bu:W2.heap.size=w1.heap.size:=by rw [<-aA];simp
 have HG:Hid (bF W2 C N (N+2) xp yp xj yj ps js'):=by
  have bv:=am.out.op;have ao:=am.out.oj;rw [bl] at bv ao;refine ⟨b1,CG,by rw [<-aA];simp [go_sem,m0],by rw [<-aA,a6];simp [go_sem,m1],fun o=>?_,ax bv (fun b hb=>aR b (by have:=(bv.lt b hb).1;omega)),?_,fun x hx=>?_,am.out.ap,hP.out.2.1,fun x hx=>hJ.out.2.1 _ ?_⟩
  ·rw [<-aA,World.frozen?_setCell,World.frozen?_setCell];exact (a5.out.frozen (p:=⟨N,o,none⟩) (by show N<W.heap.size;omega)).trans (a3.out o)
  ·rw [a6];rw [a6] at ao;exact ax ao (fun b hb=>aR b (by have:=(ao.lt b hb).1;omega))
  ·have hE:=am.out.je x hx;rw [bl] at hE;exact hE.kept (fun b h1 _=>aR b CG)
  ·rw [<-b6.out];exact List.mem_map_of_mem hx
 have b7:Hid (Cur W2 C ca cc bs at_):=(hc.out.below (aN.out.trans (a5.out.mono aN.out.size))).above hlow.out (fun k hk=>aR k CG)
 have bm:W2.heap[R]? = W.heap[R]? := (aR R CG).trans (a5.out.block R CG)
 have ac:Hid (ag (fun k=>k=C) w W2):=by
  have h0:=aN.out.trans (a5.out.mono aN.out.size);exact ⟨by rw [<-aA];exact h0.os,by rw [<-aA];exact h0.tape,by rw [<-aA];exact h0.output,by have:=h0.size;omega,fun b hb _=>(aR b (by have:=b3.out;omega)).trans (h0.block b hb)⟩
 have q0:=(World.cell?_of_block (w:=W) (a:=⟨R,0,none⟩) bm).trans R0;have q1:=(World.cell?_of_block (w:=W) (a:=⟨R,1,none⟩) bm).trans R1;have b8:Hid (∀ o,W2.frozen? ⟨R,o,none⟩=false):=fun o=>(World.frozen?_of_block (w:=W) (a:=⟨R,o,none⟩) bm).trans (bk.out o)
 have c3:N+2<=W2.heap.size:=CG
 have cs:js'.length<=1000:=CG
 have bw:=aa a6;clear aA aR R0 R1 bm bk a3 a5 am b6 m0 m1 z0 z1 aN b4 b5 bt bu bl hP hJ hje a6 hc
 go_wp2_with fail
 refine (aJ C ca cc bs at_ 10 W2 b7 CG CG).mono ?_
 rintro e w3 ⟨x,bx,hx,rfl,cu,b9,bz⟩;have T:=aa b9;have aH:=aa bz;have d:=aa (HG.out.only bz);clear b9 bz HG b7;have cv:x=0\/x=1\/(2<=x/\x<=5)\/x=6\/x=7\/x=8\/x=9:=CG
 go_upto_block 0 with fail
 go_cut [] (fun wx=>Hid (Sp W2 C N (N+2) ca cc bs (at_+10000) wx))
 case first =>
  have B:Hid (∀ u,ag (fun k=>k=C) w3 u->ag (fun k=>k=C\/k=N\/N+2<=k) W2 u):=fun u hu=>(aH.out.trans hu).mono (fun k hk=>Or.inl hk)
  rcases cv with rfl | rfl | cw | rfl | rfl | rfl | rfl
  ·as_aux_lemma =>
   have c0:=d.out.c0
   by_cases a7:ps.length=0
   ·have aq:¬ (0:Int)<ps.length:=CG
    clear a7
    go_wp2_with fail
    go_meet
    exact Sp.same d.out T.out (B.out _ (ag.refl _ _)) CG
   ·have aq:(0:Int)<ps.length:=CG
    obtain ⟨g,rfl⟩:=kL d.out.op CG
    have a1:=d.out.lt
    go_upto_region 9 with fail
    obtain ⟨S,hS⟩:∃ S:World->Prop,∀ u,S u↔u.cell? ⟨N,0,none⟩=some (.slice (some ⟨g,0,none⟩) ps.length yp):=⟨_,fun _=>Iff.rfl⟩
    have D:=aa hS;have r0:∀ u:an S,World.cell? u.val ⟨N,0,none⟩=some (.slice (some ⟨g,0,none⟩) ps.length yp):=fun u=>(hS u.val).1 u.2
    have E:S w3.drew:=(hS _).2 c0;have hne:=aQ E;clear hS;refine bW 8 E ?_
    (refine ae 0 ?_;intro K hK;go_big_quiet_op;go_big_quiet_on);(refine ae 1 ?_;intro K hK;go_big_quiet_op;go_big_quiet_on);(refine ae 2 ?_;intro K hK;go_big_quiet_op;go_big_quiet_on);(refine ae 3 ?_;intro K hK;go_big_quiet_op;go_big_quiet_on);(refine ae 4 ?_;intro K hK;go_big_quiet_op;go_big_quiet_on);(refine ae 5 ?_;intro K hK;go_big_quiet_op;go_big_quiet_on)
    refine az 6 ?_;intro K hK
    go_wp2_with (go_at_call 32;refine (aJ C ca cc bs bx ps.length _ (T.out.below (CV.drew)) CG CG).mono ?_;rintro e w4 ⟨i,a2,cx,rfl,a8,aI,aK⟩)
    have F:Hid (ag (fun k=>k=C) w3 w4):=((ag.refl _ _).drew).trans aK
    have aS:=aa aI;have al:=aa (d.out.only F.out);have au:S w4:=(D.out _).2 al.out.c0;have ad:i<ps.length:=CG
    have cy:(i:Int)<ps.length:=CG
    clear aI aK;refine hK _ _ (ak au) ?_;clear hK K;have hne:=aQ au
    (refine ae 7 ?_;intro K hK;go_big_quiet_op;go_big_quiet_on)
    refine a9 ?_;simp only [List.drop_succ_cons,List.drop_zero];clear r0 hne E au D c0
    go_wp2_with fail
    refine (aJ C ca cc bs a2 4 w4 aS CG CG).mono ?_
    rintro e w5 ⟨y0,aB,cz,rfl,bA,aT,aV⟩;have M:=aa aV;have O:=aa aT;have l:=aa (al.out.only aV);have cA:=aT.lt;clear aT aV;have bB:y0=0\/y0=1\/y0=2\/y0=3:=CG
    rcases bB with rfl | rfl | rfl | rfl
    ·go_wp2_with fail
     generalize G:World.alloc w5 _=Wk;have U:Cx w5 Wk:=by rw [<-G];exact CV.alloc CW _
     have V:Hid (∀ y:Nat,y<4->∃ kv:Int,Wk.cell? ⟨w5.heap.size,y,none⟩=some (.int .i64 kv)):=by
      intro y hy;rw [<-G];have h7:y=0\/y=1\/y=2\/y=3:=CG
      rcases h7 with rfl | rfl | rfl | rfl
      ·exact ⟨0,(cS _ _ _ 0).trans rfl⟩
      ·exact ⟨-1,(cS _ _ _ 1).trans rfl⟩
      ·exact ⟨10000000,(cS _ _ _ 2).trans rfl⟩
      ·exact ⟨10000001,(cS _ _ _ 3).trans rfl⟩
     have X:=aa U;clear G U;refine (aJ C ca cc bs aB 4 Wk (O.out.below X.out) CG CG).mono ?_
     rintro e w6 ⟨y,aW,hy,rfl,ah,A,m⟩;have aC:y<4:=CG
     obtain ⟨kv,Y⟩:=V.out y aC;have kc:=m.cell Y (by show ¬ w5.heap.size=C;omega)
     have aD:=ai kc;dsimp only at aD;have r:Hid (ag (fun k=>k=C) w5 w6):=(ag.of_below X.out).trans m
     have f:=aa (l.out.only r.out);have H:=aa A;clear Y A m V;obtain ⟨sc,sz⟩:=f.out.cellP ad 1 CG rfl
     have I:=ai sc;dsimp only at I
     go_wp2_with fail
     go_meet
     exact Sp.setP f.out H.out hlow.out (B.out _ ((F.out.trans M.out).trans r.out)) CG ad (j:=1) CG ⟨ps[i].name,kv,ps[i].CD,ps[i].CC⟩ rfl (f.out.pn ps[i] (List.getElem_mem ad))
    ·go_wp2_with fail
     generalize G:World.alloc w5 _=Wk;have U:Cx w5 Wk:=by rw [<-G];exact CV.alloc CW _
     have V:Hid (∀ y:Nat,y<3->∃ kv:Int,Wk.cell? ⟨w5.heap.size,y,none⟩=some (.int .i64 kv)):=by
      intro y hy;rw [<-G];have h7:y=0\/y=1\/y=2:=CG
      rcases h7 with rfl | rfl | rfl
      ·exact ⟨0,(cS _ _ _ 0).trans rfl⟩
      ·exact ⟨10000,(cS _ _ _ 1).trans rfl⟩
      ·exact ⟨10001,(cS _ _ _ 2).trans rfl⟩
     have X:=aa U;clear G U;refine (aJ C ca cc bs aB 3 Wk (O.out.below X.out) CG CG).mono ?_
     rintro e w6 ⟨y,aW,hy,rfl,ah,A,m⟩;have aC:y<3:=CG
     obtain ⟨kv,Y⟩:=V.out y aC;have kc:=m.cell Y (by show ¬ w5.heap.size=C;omega)
     have aD:=ai kc;dsimp only at aD;have r:Hid (ag (fun k=>k=C) w5 w6):=(ag.of_below X.out).trans m
     have f:=aa (l.out.only r.out);have H:=aa A;clear Y A m V;obtain ⟨sc,sz⟩:=f.out.cellP ad 2 CG rfl
     have I:=ai sc;dsimp only at I
     go_wp2_with fail
     go_meet
     exact Sp.setP f.out H.out hlow.out (B.out _ ((F.out.trans M.out).trans r.out)) CG ad (j:=2) CG ⟨ps[i].name,ps[i].len,kv,ps[i].CC⟩ rfl (f.out.pn ps[i] (List.getElem_mem ad))
    ·go_wp2_with fail
     generalize G:World.alloc w5 _=Wk;have U:Cx w5 Wk:=by rw [<-G];exact CV.alloc CW _
     have V:Hid (∀ y:Nat,y<3->∃ kv:Int,Wk.cell? ⟨w5.heap.size,y,none⟩=some (.int .i64 kv)):=by
      intro y hy;rw [<-G];have h7:y=0\/y=1\/y=2:=CG
      rcases h7 with rfl | rfl | rfl
      ·exact ⟨0,(cS _ _ _ 0).trans rfl⟩
      ·exact ⟨1000,(cS _ _ _ 1).trans rfl⟩
      ·exact ⟨1001,(cS _ _ _ 2).trans rfl⟩
     have X:=aa U;clear G U;refine (aJ C ca cc bs aB 3 Wk (O.out.below X.out) CG CG).mono ?_
     rintro e w6 ⟨y,aW,hy,rfl,ah,A,m⟩;have aC:y<3:=CG
     obtain ⟨kv,Y⟩:=V.out y aC;have kc:=m.cell Y (by show ¬ w5.heap.size=C;omega)
     have aD:=ai kc;dsimp only at aD;have r:Hid (ag (fun k=>k=C) w5 w6):=(ag.of_below X.out).trans m
     have f:=aa (l.out.only r.out);have H:=aa A;clear Y A m V;obtain ⟨sc,sz⟩:=f.out.cellP ad 3 CG rfl
     have I:=ai sc;dsimp only at I
     go_wp2_with fail
     go_meet
     exact Sp.setP f.out H.out hlow.out (B.out _ ((F.out.trans M.out).trans r.out)) CG ad (j:=3) CG ⟨ps[i].name,ps[i].len,ps[i].CD,kv⟩ rfl (f.out.pn ps[i] (List.getElem_mem ad))
    ·go_upto_region 11 with fail
     obtain ⟨s5,bC⟩:∃ s:ByteArray,ByteArray.mk #[97,98,99,100,101,102,103,104,105,106,107,108,109,110,111,112,113,114,115,116,117]=s:=⟨_,rfl⟩;rw [bC];have ba:s5.size<=maxLen:=by rw [<-bC];show (21:Nat)<=maxLen;unfold maxLen;omega
     clear bC;obtain ⟨s4,bD⟩:∃ s:ByteArray,ByteArray.mk #[97,98,99,100,101,102,103,104,105,106,107,108,109,110,111,112,113,114,115,116]=s:=⟨_,rfl⟩;rw [bD];have cb:s4.size<=maxLen:=by rw [<-bD];show (20:Nat)<=maxLen;unfold maxLen;omega
     clear bD;obtain ⟨s3,bE⟩:∃ s:ByteArray,ByteArray.mk #[97,32,98]=s:=⟨_,rfl⟩;rw [bE];have bb:s3.size<=maxLen:=by rw [<-bE];show (3:Nat)<=maxLen;unfold maxLen;omega
     clear bE;obtain ⟨s2,bG⟩:∃ s:ByteArray,ByteArray.mk #[97,48]=s:=⟨_,rfl⟩;rw [bG];have bu:s2.size<=maxLen:=by rw [<-bG];show (2:Nat)<=maxLen;unfold maxLen;omega
     clear bG;obtain ⟨s1,bH⟩:∃ s:ByteArray,ByteArray.mk #[65]=s:=⟨_,rfl⟩;rw [bH];have bt:s1.size<=maxLen:=by rw [<-bH];show (1:Nat)<=maxLen;unfold maxLen;omega
     clear bH;refine wp_region_lit ?_;refine sB rfl (.tmp 5) rfl ?_;refine wO rfl _ rfl s1 s2 s3 s4 s5 (BO _ s1 s2 s3 s4 s5) ?_
     go_wp2_with fail
     generalize G:World.alloc w5 _=Wk;have U:Cx w5 Wk:=by rw [<-G];exact CV.alloc CW _
     have V:Hid (∀ y:Nat,y<6->∃ kv:ByteArray,Wk.cell? ⟨w5.heap.size,y,none⟩=some (.string kv)/\kv.size<=maxLen):=by
      intro y hy;rw [<-G];have h7:y=0\/y=1\/y=2\/y=3\/y=4\/y=5:=CG
      rcases h7 with rfl | rfl | rfl | rfl | rfl | rfl
      ·exact ⟨⟨#[]⟩,(cS _ _ _ 0).trans rfl,by show (0:Nat)<=maxLen;unfold maxLen;omega⟩
      ·exact ⟨s1,(cS _ _ _ 1).trans rfl,bt⟩
      ·exact ⟨s2,(cS _ _ _ 2).trans rfl,bu⟩
      ·exact ⟨s3,(cS _ _ _ 3).trans rfl,bb⟩
      ·exact ⟨s4,(cS _ _ _ 4).trans rfl,cb⟩
      ·exact ⟨s5,(cS _ _ _ 5).trans rfl,ba⟩
     have X:=aa U;clear G U;refine (aJ C ca cc bs aB 6 Wk (O.out.below X.out) CG CG).mono ?_
     rintro e w6 ⟨y,aW,hy,rfl,ah,A,m⟩;have aC:y<6:=CG
     obtain ⟨kv,Y,bI⟩:=V.out y aC;have kc:=m.cell Y (by show ¬ w5.heap.size=C;omega)
     have aD:=ai kc;dsimp only at aD;have r:Hid (ag (fun k=>k=C) w5 w6):=(ag.of_below X.out).trans m
     have f:=aa (l.out.only r.out);have H:=aa A;clear Y A m V;obtain ⟨sc,sz⟩:=f.out.cellP ad 0 CG rfl
     rw [Nat.add_zero] at sc sz;have I:=ai sc;dsimp only at I
     go_wp2_with fail
     go_meet
     exact Sp.setP f.out H.out hlow.out (B.out _ ((F.out.trans M.out).trans r.out)) CG ad (j:=0) CG ⟨kv,ps[i].len,ps[i].CD,ps[i].CC⟩ rfl bI
  ·as_aux_lemma =>
   have c0:=d.out.c0;have z0:=d.out.z 0;have a1:=d.out.lt
   go_wp2_with fail
   go_meet
   exact Sp.mk' d.out.nilP.toW T.out hlow.out (B.out _ (ag.refl _ _)) CG ((ag.refl _ _).setCell (p:=⟨N,0,none⟩) (Or.inl (Or.inl rfl)) _)
  ·
   have h4:x=2\/x=3\/x=4\/x=5:=CG
   clear cw;rcases h4 with rfl | rfl | rfl | rfl
   all_goals
    as_aux_lemma =>
    have aE:=bw.out;have c0:=d.out.c1;rw [aE] at c0
    by_cases a7:js.length=0
    ·have aq:¬ (0:Int)<js.length:=CG
     clear a7
     go_wp2_with fail
     go_meet
     exact Sp.same d.out T.out (B.out _ (ag.refl _ _)) CG
    ·have aq:(0:Int)<js.length:=CG
     obtain ⟨g,rfl⟩:=kL d.out.oj CG
     have a1:=d.out.lt
     go_upto_region 25 with fail
     obtain ⟨S,hS⟩:∃ S:World->Prop,∀ u,S u↔u.cell? ⟨N,1,none⟩=some (.slice (some ⟨g,0,none⟩) js.length yj):=⟨_,fun _=>Iff.rfl⟩
     have D:=aa hS;have r0:∀ u:an S,World.cell? u.val ⟨N,1,none⟩=some (.slice (some ⟨g,0,none⟩) js.length yj):=fun u=>(hS u.val).1 u.2
     have E:S w3.drew:=(hS _).2 c0;have hne:=aQ E;clear hS;refine bW 8 E ?_
     (refine ae 0 ?_;intro K hK;go_big_quiet_op;go_big_quiet_on);(refine ae 1 ?_;intro K hK;go_big_quiet_op;go_big_quiet_on);(refine ae 2 ?_;intro K hK;go_big_quiet_op;go_big_quiet_on);(refine ae 3 ?_;intro K hK;go_big_quiet_op;go_big_quiet_on);(refine ae 4 ?_;intro K hK;go_big_quiet_op;go_big_quiet_on);(refine ae 5 ?_;intro K hK;go_big_quiet_op;go_big_quiet_on)
     refine az 6 ?_;intro K hK
     go_wp2_with (go_at_call 32;refine (aJ C ca cc bs bx js.length _ (T.out.below (CV.drew)) CG CG).mono ?_;rintro e w4 ⟨i,a2,cx,rfl,a8,aI,aK⟩)
     have F:Hid (ag (fun k=>k=C) w3 w4):=((ag.refl _ _).drew).trans aK
     have aS:=aa aI;have al:=aa (d.out.only F.out);have au:S w4:=(D.out _).2 (by have h:=al.out.c1;rw [aE] at h;exact h)
     have ad:i<js.length:=CG
     have cy:(i:Int)<js.length:=CG
     clear aI aK;refine hK _ _ (ak au) ?_;clear hK K;have hne:=aQ au
     (refine ae 7 ?_;intro K hK;go_big_quiet_op;go_big_quiet_on)
     refine a9 ?_;simp only [List.drop_succ_cons,List.drop_zero];clear r0 hne E au D c0
     go_wp2_with fail
     refine (aJ C ca cc bs a2 5 w4 aS CG CG).mono ?_
     rintro e w5 ⟨y0,aB,cz,rfl,bA,aT,aV⟩;have M:=aa aV;have O:=aa aT;have l:=aa (al.out.only aV);have cA:=aT.lt;clear aT aV;have bB:y0=0\/y0=1\/y0=2\/y0=3\/y0=4:=CG
     have c:i<js'.length:=by rw [aE];exact ad
     rcases bB with rfl | rfl | rfl | rfl | rfl
     ·go_wp2_with fail
      refine (aJ C ca cc bs aB 6 w5 O CG CG).mono ?_
      rintro e w6 ⟨kv,aW,hy,rfl,ah,A,m⟩;have r:=aa m;have f:=aa (l.out.only m);have H:=aa A;clear A m;obtain ⟨sc,sz⟩:=f.out.cellJ c 0 CG rfl
      rw [Nat.add_zero] at sc sz;have I:=ai sc;dsimp only at I
      go_wp2_with fail
      go_meet
      exact Sp.setJ f.out H.out hlow.out (B.out _ ((F.out.trans M.out).trans r.out)) CG c (j:=0) CG (js'[i].1,js'[i].2.1,⟨kv,js'[i].2.2.name,js'[i].2.2.ends⟩) rfl (f.out.jn js'[i] (List.getElem_mem c)) (f.out.je js'[i] (List.getElem_mem c)) (fun k hk hne=>((f.out.apart c hk hne).imp id Or.inr))
     ·go_wp2_with fail
      generalize G:World.alloc w5 _=Wk;have U:Cx w5 Wk:=by rw [<-G];exact CV.alloc CW _
      have V:Hid (∀ y:Nat,y<4->∃ kv:ByteArray,Wk.cell? ⟨w5.heap.size,y,none⟩=some (.string kv)/\kv.size<=maxLen):=by
       intro y hy;rw [<-G];have h7:y=0\/y=1\/y=2\/y=3:=CG
       rcases h7 with rfl | rfl | rfl | rfl
       ·exact ⟨⟨#[]⟩,(cS _ _ _ 0).trans rfl,by show (0:Nat)<=maxLen;unfold maxLen;omega⟩
       ·exact ⟨⟨#[119]⟩,(cS _ _ _ 1).trans rfl,by show (1:Nat)<=maxLen;unfold maxLen;omega⟩
       ·exact ⟨⟨#[87]⟩,(cS _ _ _ 2).trans rfl,by show (1:Nat)<=maxLen;unfold maxLen;omega⟩
       ·exact ⟨⟨#[120,49,48,48]⟩,(cS _ _ _ 3).trans rfl,by show (4:Nat)<=maxLen;unfold maxLen;omega⟩
      have X:=aa U;clear G U;refine (aJ C ca cc bs aB 4 Wk (O.out.below X.out) CG CG).mono ?_
      rintro e w6 ⟨y,aW,hy,rfl,ah,A,m⟩;have aC:y<4:=CG
      obtain ⟨kv,Y,bI⟩:=V.out y aC;have kc:=m.cell Y (by show ¬ w5.heap.size=C;omega)
      have aD:=ai kc;dsimp only at aD;have r:Hid (ag (fun k=>k=C) w5 w6):=(ag.of_below X.out).trans m
      have f:=aa (l.out.only r.out);have H:=aa A;clear Y A m V;obtain ⟨sc,sz⟩:=f.out.cellJ c 1 CG rfl
      have I:=ai sc;dsimp only at I
      go_wp2_with fail
      go_meet
      exact Sp.setJ f.out H.out hlow.out (B.out _ ((F.out.trans M.out).trans r.out)) CG c (j:=1) CG (js'[i].1,js'[i].2.1,⟨js'[i].2.2.kind,kv,js'[i].2.2.ends⟩) rfl bI (f.out.je js'[i] (List.getElem_mem c)) (fun k hk hne=>((f.out.apart c hk hne).imp id Or.inr))
     ·obtain ⟨sc,sz⟩:=l.out.cellJ c 2 CG rfl
      have I:=ai sc;dsimp only at I;have bJ:g≠C:=by have h1:=(l.out.oj.lt g rfl).1;omega
      by_cases cd:js'[i].2.2.ends.length=0
      ·have bK:¬ (0:Int)<js'[i].2.2.ends.length:=CG
       clear cd
       go_wp2_with fail
       go_meet
       exact Sp.same l.out O.out (B.out _ (F.out.trans M.out)) CG
      ·obtain ⟨ge,bn⟩:=kL (l.out.je js'[i] (List.getElem_mem c)).1 CG
       have bL:=(l.out.je js'[i] (List.getElem_mem c)).2;rw [bn] at sc;obtain ⟨ne,hne⟩:∃ ne,js'[i].2.2.ends.length=ne:=⟨_,rfl⟩;have bc:Hid (∀ (w':World) (q:Nat) (a b:Int) (at':Nat),ag (fun k=>k=C) w5 w'->q<ne->Cur w' C ca cc bs at'->at'<=aB+10->Sp W2 C N (N+2) ca cc bs (at_+10000) ((w'.setCell ⟨ge,q*2,none⟩ (.int .i64 a)).setCell ⟨ge,q*2+1,none⟩ (.int .i64 b))/\(∃ v0 v1,w'.cell? ⟨ge,q*2,none⟩=some (.int .i64 v0)/\w'.cell? ⟨ge,q*2+1,none⟩=some (.int .i64 v1))/\w'.frozen? ⟨ge,q*2,none⟩=false/\w'.frozen? ⟨ge,q*2+1,none⟩=false):=by
        intro w' q a b at' ho hq hc cB;rw [<-hne] at hq;have hG:=l.out.only ho;obtain ⟨bo,h2⟩:=hG.setE2 c hq bn a b;have t:=(hG.je js'[i] (List.getElem_mem c)).1;rw [bn] at t;exact ⟨Sp.mk' h2.toW hc hlow.out (B.out _ ((F.out.trans M.out).trans ho)) CG (((ag.refl _ _).setCell (p:=⟨ge,q*2,none⟩) (Or.inl (Or.inr (t.lt ge rfl).1)) _).setCell (p:=⟨ge,q*2+1,none⟩) (Or.inl (Or.inr (t.lt ge rfl).1)) _),⟨_,_,(t.cellAt (q*2) CG).trans ((aZ gn 2 (fun _=>rfl) js'[i].2.2.ends q 0 hq CG).trans rfl),(t.cellAt (q*2+1) CG).trans ((aZ gn 2 (fun _=>rfl) js'[i].2.2.ends q 1 hq CG).trans rfl)⟩,t.frozenAt _,t.frozenAt _⟩
       rw [hne] at sc bL cd;generalize js'[i].2.1=ye at sc;have bK:(0:Int)<ne:=CG
       have c5:=l.out.c0;clear hne bn
       go_upto_region 34 with fail
       obtain ⟨S,hS⟩:∃ S:World->Prop,∀ u,S u↔(u.cell? ⟨N,0,none⟩=some (.slice xp ps.length yp)/\u.cell? ⟨g,i*3+2,none⟩=some (.slice (some ⟨ge,0,none⟩) ne ye)):=⟨_,fun _=>Iff.rfl⟩
       have D:=aa hS;have r0:∀ u:an S,World.cell? u.val ⟨N,0,none⟩=some (.slice xp ps.length yp):=fun u=>((hS u.val).1 u.2).1
       have r1:∀ u:an S,World.cell? u.val ⟨g,i*3+2,none⟩=some (.slice (some ⟨ge,0,none⟩) ne ye):=fun u=>((hS u.val).1 u.2).2
       have E:S w5.drew:=(hS _).2 ⟨c5,sc⟩;have hne:=aQ E;clear hS;refine bW 22 E ?_
       (refine ae 0 ?_;intro K hK;go_big_quiet_op;go_big_quiet_on);(refine ae 1 ?_;intro K hK;go_big_quiet_op;go_big_quiet_on);(refine ae 2 ?_;intro K hK;go_big_quiet_op;go_big_quiet_on);(refine ae 3 ?_;intro K hK;go_big_quiet_op;go_big_quiet_on);(refine ae 4 ?_;intro K hK;go_big_quiet_op;go_big_quiet_on);(refine ae 5 ?_;intro K hK;go_big_quiet_op;go_big_quiet_on);(refine ae 6 ?_;intro K hK;go_big_quiet_op;go_big_quiet_on);(refine ae 7 ?_;intro K hK;go_big_quiet_op;go_big_quiet_on);(refine ae 8 ?_;intro K hK;go_big_quiet_op;go_big_quiet_on);(refine ae 9 ?_;intro K hK;go_big_quiet_op;go_big_quiet_on)
       (refine ae 11 ?_;intro K hK;go_big_quiet_op;go_big_quiet_on);(refine ae 12 ?_;intro K hK;go_big_quiet_op;go_big_quiet_on);(refine ae 13 ?_;intro K hK;go_big_quiet_op;go_big_quiet_on);(refine ae 14 ?_;intro K hK;go_big_quiet_op;go_big_quiet_on);(refine ae 15 ?_;intro K hK;go_big_quiet_op;go_big_quiet_on)
       (refine ae 18 ?_;intro K hK;go_big_quiet_op;go_big_quiet_on)
       refine az 10 ?_;intro K hK
       go_wp2_with (go_at_call 32;refine (aJ C ca cc bs aB ne _ (O.out.below (CV.drew)) CG CG).mono ?_;rintro e w6 ⟨q,aW,c4,rfl,ah,A,m⟩)
       have r:Hid (ag (fun k=>k=C) w5 w6):=((ag.refl _ _).drew).trans m
       have H:=aa A;have aF:S w6:=(D.out _).2 ⟨r.out.cell c5 (by show ¬ N=C;omega),r.out.cell sc bJ⟩
       have cC:q<ne:=CG
       have c6:(q:Int)<ne:=CG
       clear A m;refine hK _ _ (ak aF) ?_;clear hK K;refine az 16 ?_;intro K hK
       go_wp2_with (go_at_call 32;refine (aJ C ca cc bs aW (ps.length+2) _ H CG CG).mono ?_;rintro e w7 ⟨x1,cD,c7,rfl,cE,ce,cf⟩)
       have bM:Hid (ag (fun k=>k=C) w5 w7):=r.out.trans cf
       have cF:=aa ce;have cg:S w7:=(D.out _).2 ⟨bM.out.cell c5 (by show ¬ N=C;omega),bM.out.cell sc bJ⟩
       have c8:(x1:Int)<=1002:=CG
       clear ce cf;refine hK _ _ (ak cg) ?_;clear hK K
       (refine ae 17 ?_;intro K hK;go_big_quiet_op;go_big_quiet_on)
       refine az 19 ?_;intro K hK
       go_wp2_with (go_at_call 32;refine (aJ C ca cc bs cD 4 _ cF CG CG).mono ?_;rintro e w8 ⟨x2,cG,c9,rfl,cH,ch,Z⟩)
       have bN:Hid (ag (fun k=>k=C) w5 w8):=bM.out.trans Z
       have cI:=aa ch;have bO:S w8:=(D.out _).2 ⟨bN.out.cell c5 (by show ¬ N=C;omega),bN.out.cell sc bJ⟩
       have da:(x2:Int)<4:=CG
       clear ch Z;refine hK _ _ (ak bO) ?_;clear hK K;have hne:=aQ bO
       (refine ae 20 ?_;intro K hK;go_big_quiet_op;go_big_quiet_on);(refine ae 21 ?_;intro K hK;go_big_quiet_op;go_big_quiet_on)
       refine a9 ?_;simp only [List.drop_succ_cons,List.drop_zero];obtain ⟨av,⟨v0,v1,e0,e1⟩,f0,f1⟩:=bc.out w8 q ((x1:Int)-1) ((x2:Int)-1) cG bN.out cC cI.out CG
       have aX:=aa av;have cJ:=ai e0;dsimp only at cJ;clear r0 r1 hne E aF cg bO D c5 sc sz av bc
       go_wp2_with fail
       go_meet
       exact aX.out
     ·obtain ⟨sc,sz⟩:=l.out.cellJ c 2 CG rfl
      have I:=ai sc;dsimp only at I;have t:=(l.out.je _ (List.getElem_mem c)).1;have bL:=(l.out.je _ (List.getElem_mem c)).2;obtain ⟨ne,hne⟩:∃ ne,js'[i].2.2.ends.length=ne:=⟨_,rfl⟩;have ab:Hid (∀ (w':World) (x':Option Addr) (y':Nat),w5.grownBy w' (Value.slice js'[i].1 ne js'[i].2.1).ownBlock->w'.ownsRow (N+2) 114 2 (.slice x' (ne+1) y') (ne+1) (aG (js'[i].2.2.ends++[⟨0,0⟩]))->Sp W2 C N (N+2) ca cc bs (at_+10000) (w'.setCell ⟨g,i*3+2,none⟩ (.slice x' (ne+1) y'))/\w'.cell? ⟨g,i*3+2,none⟩=some (.slice js'[i].1 ne js'[i].2.1)/\w'.frozen? ⟨g,i*3+2,none⟩=false):=by
       intro w' x' y' hg ho;rw [<-hne] at hg ho ⊢;have J:=l.out.growE c hg ho;have cK:=l.out.turnE c hg;have ao:=cK.2.2.2.2.1;refine ⟨Sp.mk' J O.out hlow.out (B.out _ (F.out.trans M.out)) CG ((ag.grown hg (fun b e=>Or.inr (t.lt b e).1)).setCell (p:=⟨g,i*3+2,none⟩) (Or.inl (Or.inr (ao.lt g rfl).1)) _),(ao.cellAt (i*3+2) CG).trans ((aZ fD 3 (fun _=>rfl) js' i 2 c CG).trans rfl),ao.frozenAt _⟩
      have aw:=aa t;rw [hne] at sc bL aw;have ci:=aa (eE js'[i].2.2.ends ⟨0,0⟩);generalize js'[i].1=xe at sc aw ab;generalize js'[i].2.1=ye at sc aw ab;generalize js'[i].2.2.ends=es at aw ab ci;clear t hne;have ba:N+2<=w5.heap.size:=by have h1:=aH.out.size;have h2:=F.out.size;have h3:=M.out.size;omega
      go_wp2_with (at_builtin;refine aU (Wp:=w5) rfl (.tmp 175) (.tmp 177) 83 rfl (N+2) 114 _ 2 16 underlying83 Tryz.infoEnd rfl CJ (.slice xe ne ye) ne (aG es) rfl aw.out w5.heap.size rfl [.int .i64 0,.int .i64 0] rfl rfl CL CK CG ba ?_;intro cj ck w8 Z ay;have cl:w8.ownsRow (N+2) 114 2 (.slice cj (ne+1) ck) (ne+1) (aG (es++[⟨0,0⟩])):=(by rw [<-ci.out];exact Z);obtain ⟨av,db,dc⟩:=ab.out w8 cj ck ay cl;have aX:=aa av;clear av Z cl ay)
      go_meet
      exact aX.out
     ·obtain ⟨sc,sz⟩:=l.out.cellJ c 2 CG rfl
      have I:=ai sc;dsimp only at I
      go_wp2_with fail
      go_meet
      exact Sp.setJ l.out O.out hlow.out (B.out _ (F.out.trans M.out)) CG c (j:=2) CG (none,0,⟨js'[i].2.2.kind,js'[i].2.2.name,[]⟩) rfl (l.out.jn js'[i] (List.getElem_mem c)) ⟨World.ownsRow_nil _ _ _ _,CI⟩ (fun k hk hne=>Or.inr (Or.inl rfl))
  ·as_aux_lemma =>
   have aE:=bw.out;have c0:=d.out.c1;rw [aE] at c0
   by_cases a7:js.length=0
   ·have aq:¬ (0:Int)<js.length:=CG
    clear a7
    go_wp2_with fail
    go_meet
    exact Sp.same d.out T.out (B.out _ (ag.refl _ _)) CG
   ·have aq:(0:Int)<js.length:=CG
    obtain ⟨g,rfl⟩:=kL d.out.oj CG
    obtain ⟨n,hn⟩:∃ n:Nat,(js.length:Int)-1=n:=⟨js.length-1,CG⟩
    have bP:=aa (d.out.cutJ (n:=n) CG)
    have z1:=d.out.z 1;have a1:=d.out.lt;obtain ⟨cL,cM⟩:=AM d.out.oj;have dd:n<=yj:=CG
    have cN:(n:Int)<=yj:=CG
    unfold maxLen at cM;clear cL
    go_wp2_with fail
    go_meet
    exact Sp.mk' bP.out.toW T.out hlow.out (B.out _ (ag.refl _ _)) CG ((ag.refl _ _).setCell (p:=⟨N,1,none⟩) (Or.inl (Or.inl rfl)) _)
  ·as_aux_lemma =>
   have aE:=bw.out;have c1:=d.out.c1;have ao:=d.out.oj;rw [aE] at c1 ao;have cO:=aa ao;have bb:N+2<=w3.heap.size:=by have h1:=aH.out.size;omega
   have a1:=d.out.lt;have L:Hid (∀ (w':World) (x':Option Addr) (y':Nat),(w3.alloc (.cells #[.int .i64 0,.int .i64 0] 114)).grownBy w' (Value.slice xj js.length yj).ownBlock->w'.ownsRow (N+2) 109 3 (.slice x' (js.length+1) y') (js.length+1) (cq js'++[.int .i64 1,.string ⟨#[]⟩,.slice (some ⟨w3.heap.size,0,none⟩) 1 1])->Sp W2 C N (N+2) ca cc bs (at_+10000) (w'.setCell ⟨N,1,none⟩ (.slice x' (js.length+1) y'))/\w'.cell? ⟨N,1,none⟩=some (.slice xj js.length yj)/\w'.frozen? ⟨N,1,none⟩=false):=by
    intro w' x' y' hg ho;have hb:=(Below.refl w3.heap.size w3).alloc CW (.cells #[.int .i64 0,.int .i64 0] 114);have hG:=d.out.below hb;have ho:w'.ownsRow (N+2) 109 3 (.slice x' (js.length+1) y') (js.length+1) (cq (js'++[(some ⟨w3.heap.size,0,none⟩,1,⟨1,⟨#[]⟩,[⟨0,0⟩]⟩)])):=by rw [<-fw];exact ho
    rw [<-aE] at ho;rw [<-aE] at hg ⊢;have hE:fK (w3.alloc (.cells #[.int .i64 0,.int .i64 0] 114)) (N+2) (some ⟨w3.heap.size,0,none⟩,1,⟨1,⟨#[]⟩,[⟨0,0⟩]⟩):=⟨World.ownsRow_lit w3 #[.int .i64 0,.int .i64 0] 1 bb CK rfl,CI⟩
    have J:=hG.pushJ hg ho (by show (0:Nat)<=maxLen;omega) hE (fun y hy=>by
     cases hb:ct y with
     | none=>exact Or.inl rfl
     | some b=>exact Or.inr (fun e=>by have h1:=((d.out.je y hy).1.lt b hb).2;simp [ct,Value.ownBlock] at e;omega))
    obtain ⟨m1,m2⟩:=hG.rowJ hg;exact ⟨Sp.mk' J.toW (T.out.below hb) hlow.out ((B.out _ (ag.refl _ _)).alloc _) CG (ag.setCell (S:=fun k=>k=N\/N+2<=k) (ag.grown hg (fun b e=>Or.inr (hG.oj.lt b e).1)) (p:=⟨N,1,none⟩) (Or.inl (Or.inl rfl)) _),m1,m2⟩
   go_wp2_with (at_builtin;refine aU (Wp:=w3.alloc (.cells #[.int .i64 0,.int .i64 0] 114)) rfl (.tmp 198) (.tmp 202) 24 rfl (N+2) 109 _ 3 48 underlying24 Tryz.infoJoint rfl CJ (.slice xj js.length yj) js.length (cq js') rfl (cO.out.alloc _) (w3.heap.size+1) CI [.int .i64 1,.string ⟨#[]⟩,.slice (some ⟨w3.heap.size,0,none⟩) 1 1] rfl rfl CL CK CG CN ?_;intro bQ bR w8 Z ay;obtain ⟨av,m1,m2⟩:=L.out w8 bQ bR ay Z;have aX:=aa av;have be:=ai m1;dsimp only at be;clear av Z ay)
   go_meet
   exact aX.out
  ·as_aux_lemma =>
   have c0:=d.out.c0;have bb:N+2<=w3.heap.size:=by have h1:=aH.out.size;omega
   have a1:=d.out.lt;have L:Hid (∀ (w':World) (x':Option Addr) (y':Nat),w3.grownBy w' (Value.slice xp ps.length yp).ownBlock->w'.ownsRow (N+2) 133 4 (.slice x' (ps.length+1) y') (ps.length+1) (bd ps++[.string ⟨#[122]⟩,.int .i64 1,.int .i64 1,.int .i64 1])->Sp W2 C N (N+2) ca cc bs (at_+10000) (w'.setCell ⟨N,0,none⟩ (.slice x' (ps.length+1) y'))/\w'.cell? ⟨N,0,none⟩=some (.slice xp ps.length yp)/\w'.frozen? ⟨N,0,none⟩=false):=by
    intro w' x' y' hg ho;have ho:w'.ownsRow (N+2) 133 4 (.slice x' (ps.length+1) y') (ps.length+1) (bd (ps++[⟨⟨#[122]⟩,1,1,1⟩])):=by rw [<-eK];exact ho
    have J:=d.out.pushP hg ho (by show (1:Nat)<=maxLen;unfold maxLen;omega)
    obtain ⟨m1,m2⟩:=d.out.rowP hg;exact ⟨Sp.mk' J.toW T.out hlow.out (B.out _ (ag.refl _ _)) CG (ag.setCell (S:=fun k=>k=N\/N+2<=k) (ag.grown hg (fun b e=>Or.inr (d.out.op.lt b e).1)) (p:=⟨N,0,none⟩) (Or.inl (Or.inl rfl)) _),m1,m2⟩
   go_wp2_with (at_builtin;refine aU (Wp:=w3) rfl (.tmp 208) (.tmp 210) 23 rfl (N+2) 133 _ 4 40 underlying23 Tryz.infoPiece rfl CJ (.slice xp ps.length yp) ps.length (bd ps) rfl d.out.op w3.heap.size rfl [.string ⟨#[122]⟩,.int .i64 1,.int .i64 1,.int .i64 1] rfl rfl CL CK CG bb ?_;intro cP cQ w8 Z ay;obtain ⟨av,m1,m2⟩:=L.out w8 cP cQ ay Z;have aX:=aa av;have be:=ai m1;dsimp only at be;clear av Z ay)
   go_meet
   exact aX.out
  ·as_aux_lemma =>
   have HI:Hid (Sq W2 C N (N+2) ca cc bs at_ w3):=⟨xp,yp,xj,yj,ps,js',bx,d.out,CG,CG,CG,T.out,B.out _ (ag.refl _ _)⟩
   clear d T B aH
   go_wp2_with fail
   go_loopw [] (fun wr=>Hid (Sq W2 C N (N+2) ca cc bs at_ wr)) (fun wr=>2000-qg wr N)
   case atStart=>exact HI
   case round =>
    clear HI;obtain ⟨xp,yp,xj,yj,ps,js',cR,hg,de,df,cB,hc,ho⟩:=hrel.out;have d:=aa hg;have T:=aa hc;have aH:=aa ho;have c0:=hg.c0;have a1:=hg.lt;have cT:qg wr N=ps.length:=by simp [qg,c0]
    have dg:=hg.cn;clear hg hc ho hrel;obtain ⟨S,hS⟩:∃ S:World->Prop,∀ u,S u↔u.cell? ⟨N,0,none⟩=some (.slice xp ps.length yp):=⟨_,fun _=>Iff.rfl⟩
    have D:=aa hS;have r0:∀ u:an S,World.cell? u.val ⟨N,0,none⟩=some (.slice xp ps.length yp):=fun u=>(hS u.val).1 u.2
    have E:S wr.drew:=(hS _).2 c0;have hne:=aQ E;clear hS
    go_upto_region 3 with fail
    refine bW 6 E ?_
    (refine ae 0 ?_;intro K hK;go_big_quiet_op;go_big_quiet_on);(refine ae 1 ?_;intro K hK;go_big_quiet_op;go_big_quiet_on);(refine ae 2 ?_;intro K hK;go_big_quiet_op;go_big_quiet_on);(refine ae 3 ?_;intro K hK;go_big_quiet_op;go_big_quiet_on)
    refine az 4 ?_;intro K hK
    go_wp2_with (go_at_call 32;refine (aJ C ca cc bs cR 2 _ (T.out.below (CV.drew)) CG CG).mono ?_;rintro e w4 ⟨y,a2,dh,rfl,a8,aI,aK⟩)
    have aY:ag (fun k=>k=C) wr w4:=((ag.refl _ _).drew).trans aK
    have F:Hid (ag (fun k=>k=C\/k=N\/N+2<=k) W2 w4):=aH.out.trans (aY.mono (fun k hk=>Or.inl hk))
    have aS:=aa aI;have al:=aa (d.out.only aY);have au:S w4:=(D.out _).2 al.out.c0;have cU:(y:Int)<2:=CG
    clear aI aK aY aH T d;refine hK _ _ (ak au) ?_;clear hK K;have hne:=aQ au
    (refine ae 5 ?_;intro K hK;go_big_quiet_op;go_big_quiet_on)
    refine a9 ?_;simp only [List.drop_succ_cons,List.drop_zero];clear r0 hne E au D c0
    by_cases di:ps.length<100+y
    ·have bS:(ps.length:Int)<100+(y:Int):=CG
     have c0:=al.out.c0;have dj:=al.out.lt
     go_upto_region 5 with fail
     have cb:N+2<=w4.heap.size:=by have h1:=F.out.size;omega
     obtain ⟨S,hS⟩:∃ S:World->Prop,∀ u,S u↔u.cell? ⟨N,0,none⟩=some (.slice xp ps.length yp):=⟨_,fun _=>Iff.rfl⟩
     have D:=aa hS;have r0:∀ u:an S,World.cell? u.val ⟨N,0,none⟩=some (.slice xp ps.length yp):=fun u=>(hS u.val).1 u.2
     have E:S w4.drew:=(hS _).2 c0;have hne:=aQ E;clear hS;refine bW 8 E ?_
     (refine ae 0 ?_;intro K hK;go_big_quiet_op;go_big_quiet_on);(refine ae 1 ?_;intro K hK;go_big_quiet_op;go_big_quiet_on);(refine ae 2 ?_;intro K hK;go_big_quiet_op;go_big_quiet_on);(refine ae 3 ?_;intro K hK;go_big_quiet_op;go_big_quiet_on)
     refine az 4 ?_;intro K hK
     go_wp2_with (go_at_call 73;refine (gQ _ ps.length _ CG).mono ?_;rintro e w5 ⟨⟨s,rfl,cV⟩,bf⟩)
     have bg:Cx w4 w5:=CV.drew.trans bf;have l:=aa (al.out.below bg);have O:=aa (aS.out.below bg);have M:Hid (ag (fun k=>k=C\/k=N\/N+2<=k) W2 w5):=F.out.trans (ag.of_below bg)
     have bT:S w5:=(D.out _).2 l.out.c0;have ba:N+2<=w5.heap.size:=by have h1:=bg.size;omega
     have bU:s.size<=maxLen:=CK
     clear bf bg al aS F;refine hK _ _ (ak bT) ?_;clear hK K
     (refine ae 5 ?_;intro K hK;go_big_quiet_op;go_big_quiet_on)
     refine az 6 ?_;intro K hK
     go_wp2_with fail
     have aF:∀ o,S (World.alloc w5 o):=fun o=>(D.out _).2 (cell_later ((Below.refl w5.heap.size w5).alloc CW o) ((D.out _).1 bT))
     refine hK _ _ (ak (aF _)) ?_;clear hK K aF;refine az 7 ?_;intro K hK;refine aU rfl (.tmp 23) (.tmp 28) 23 rfl (N+2) 133 _ 4 40 underlying23 Tryz.infoPiece rfl CJ (.slice xp ps.length yp) ps.length (bd ps) rfl l.out.op w5.heap.size rfl [.string s,.int .i64 5,.int .i64 9,.int .i64 9] rfl rfl CL CK CG ba ?_
     intro aL aM w6 m bp;have bh:w6.ownsRow (N+2) 133 4 (.slice aL (ps.length+1) aM) (ps.length+1) (bd (ps++[⟨s,5,9,9⟩])):=by rw [<-eK];exact m
     have f:=aa (l.out.pushP bp bh bU);obtain ⟨m1,m2⟩:=l.out.rowP bp;have aF:S w6:=(D.out _).2 m1;have a0:Hid (ag (fun k=>k=N\/N+2<=k) w5 (w6.setCell ⟨N,0,none⟩ (.slice aL (ps.length+1) aM))):=ag.setCell (S:=fun k=>k=N\/N+2<=k) (ag.grown bp (fun b e=>Or.inr (l.out.op.lt b e).1)) (p:=⟨N,0,none⟩) (Or.inl (Or.inl rfl)) _
     have r:Hid (ag (fun k=>k=C\/k=N\/N+2<=k) W2 (w6.setCell ⟨N,0,none⟩ (.slice aL (ps.length+1) aM))):=M.out.trans (a0.out.mono (fun k hk=>Or.inr hk))
     have H:Hid (Cur (w6.setCell ⟨N,0,none⟩ (.slice aL (ps.length+1) aM)) C ca cc bs a2):=O.out.above hlow.out (fun k hk=>a0.out.block k (by have:=O.out.lt;omega) CG)
     have cW:=ai m1;dsimp only at cW;refine wpList_nil ⟨rfl,?_⟩;refine hK _ _ (ak aF) ?_;clear hK K m bh bp a0 l O M;have hne:=aQ aF;refine a9 ?_;simp only [List.drop_succ_cons,List.drop_zero];clear r0 hne E bT aF D c0
     go_upto_region 6 with fail
     generalize cm:World.setCell w6 _ _=W7;rw [cm] at f r H;have c1:=f.out.c1;have dk:=f.out.lt;have cX:N+2<=W7.heap.size:=by have h1:=r.out.size;omega
     have bq:(ps++[(⟨s,5,9,9⟩:af)]).length=ps.length+1:=CI
     have L:Hid (∀ (w':World) (x':Option Addr) (y':Nat),(W7.alloc (.cells #[.int .i64 ps.length,.int .i64 0,.int .i64 ps.length,.int .i64 1] 114)).grownBy w' (Value.slice xj js'.length yj).ownBlock->w'.ownsRow (N+2) 109 3 (.slice x' (js'.length+1) y') (js'.length+1) (cq js'++[.int .i64 2,.string ⟨#[]⟩,.slice (some ⟨W7.heap.size,0,none⟩) 2 2])->Sq W2 C N (N+2) ca cc bs at_ (w'.setCell ⟨N,1,none⟩ (.slice x' (js'.length+1) y'))/\qg (w'.setCell ⟨N,1,none⟩ (.slice x' (js'.length+1) y')) N=ps.length+1/\w'.cell? ⟨N,1,none⟩=some (.slice xj js'.length yj)/\w'.frozen? ⟨N,1,none⟩=false):=by
      intro w' x' y' hg ho;have hb:=(Below.refl W7.heap.size W7).alloc CW (.cells #[.int .i64 ps.length,.int .i64 0,.int .i64 ps.length,.int .i64 1] 114);have hG:=f.out.below hb;have ho:w'.ownsRow (N+2) 109 3 (.slice x' (js'.length+1) y') (js'.length+1) (cq (js'++[(some ⟨W7.heap.size,0,none⟩,2,⟨2,⟨#[]⟩,[⟨ps.length,0⟩,⟨ps.length,1⟩]⟩)])):=by rw [<-fw];exact ho
      have hE:fK (W7.alloc (.cells #[.int .i64 ps.length,.int .i64 0,.int .i64 ps.length,.int .i64 1] 114)) (N+2) (some ⟨W7.heap.size,0,none⟩,2,⟨2,⟨#[]⟩,[⟨ps.length,0⟩,⟨ps.length,1⟩]⟩):=⟨World.ownsRow_lit W7 #[.int .i64 ps.length,.int .i64 0,.int .i64 ps.length,.int .i64 1] 2 cX CK rfl,CI⟩
      have J:=hG.pushJ hg ho (by show (0:Nat)<=maxLen;omega) hE (fun y hy=>by
       cases hb:ct y with
       | none=>exact Or.inl rfl
       | some b=>exact Or.inr (fun e=>by have h1:=((f.out.je y hy).1.lt b hb).2;simp [ct,Value.ownBlock] at e;omega))
      obtain ⟨m1,m2⟩:=hG.rowJ hg;have co:ag (fun k=>k=N\/N+2<=k) (W7.alloc (.cells #[.int .i64 ps.length,.int .i64 0,.int .i64 ps.length,.int .i64 1] 114)) (w'.setCell ⟨N,1,none⟩ (.slice x' (js'.length+1) y')):=ag.setCell (S:=fun k=>k=N\/N+2<=k) (ag.grown hg (fun b e=>Or.inr (hG.oj.lt b e).1)) (p:=⟨N,1,none⟩) (Or.inl (Or.inl rfl)) _
      refine ⟨⟨_,_,_,_,_,_,a2,J,by rw [bq];omega,by rw [bq,List.length_append];simp;omega,by rw [bq];omega,(H.out.below hb).above hlow.out (fun k hk=>co.block k (by have:=H.out.lt;simp;omega) CG),(r.out.alloc _).trans (co.mono (fun k hk=>Or.inr hk))⟩,?_,m1,m2⟩
      have cY:=J.c0;simp only [qg,cY,bq]
     clear cm cV
     go_wp2_with (at_builtin;refine aU (Wp:=W7.alloc (.cells #[.int .i64 ps.length,.int .i64 0,.int .i64 ps.length,.int .i64 1] 114)) rfl (.tmp 32) (.tmp 39) 24 rfl (N+2) 109 _ 3 48 underlying24 Tryz.infoJoint rfl CJ (.slice xj js'.length yj) js'.length (cq js') rfl (f.out.oj.alloc _) (W7.heap.size+1) CI [.int .i64 2,.string ⟨#[]⟩,.slice (some ⟨W7.heap.size,0,none⟩) 2 2] rfl rfl CL CK CG CN ?_;intro bQ bR w8 Z ay;obtain ⟨cp,bi,m3,m4⟩:=L.out w8 bQ bR ay Z;have cZ:=aa cp;have bV:=aa bi;have be:=ai m3;dsimp only at be;clear cp bi Z ay)
     go_roundw
     case rel=>(repeat apply Exists.intro);exact ⟨cZ,rfl⟩
     case measure=>rw [bV.out,cT];omega
    ·have bS:¬ (ps.length:Int)<100+(y:Int):=CG
     go_wp2_with fail
     go_meet
     exact Sp.same al.out aS.out F.out CG
 case rest =>
  obtain ⟨aL,aM,bX,bY,ps',bo,at',hg,c2,cr,bZ,b0⟩:=hcut.out;have c0:=hg.c0;have c1:=hg.c1;have bj:wc.heap[R]? = W2.heap[R]? := bZ.block R CG CG
  have r0:=(World.cell?_of_block (w:=W2) (a:=⟨R,0,none⟩) bj).trans q0;have r1:=(World.cell?_of_block (w:=W2) (a:=⟨R,1,none⟩) bj).trans q1;have u0:=(World.frozen?_of_block (w:=W2) (a:=⟨R,0,none⟩) bj).trans (b8.out 0);have u1:=(World.frozen?_of_block (w:=W2) (a:=⟨R,1,none⟩) bj).trans (b8.out 1);have HG:=aa hg;have HC:=aa cr;have HO:=aa bZ;have dl:N≠R:=CG
  clear hg cr bZ hcut bj q0 q1
  go_wp2_with fail
  refine bodyPost_ret (v:=.agg #[.slice aL ps'.length aM,.slice bX bo.length bY]) (by simp [results,results57,go_sem,r0,r1]) rfl ?_
  have hk:∀ b,b≠R->((wc.setCell ⟨R,0,none⟩ (.slice aL ps'.length aM)).setCell ⟨R,1,none⟩ (.slice bX bo.length bY)).heap[b]? = wc.heap[b]? := fun b hb=>(Below.heap_setCell _ _ _ _ hb).trans (Below.heap_setCell _ _ _ _ hb)
  have hw:=b3.out;refine ⟨aL,aM,bX,bY,ps',bo.map (fun z=>z.2.2),at',by rw [List.length_map],?_,CG,HC.out.above hlow.out (fun k h=>hk k CG),?_,b0⟩
  ·refine fun u hu=>HG.out.keep CW u (fun b h1 h2 h3=>(hu b CG (by simpa using h2) ?_).trans (hk b CG))
   unfold AJ at h3 ⊢;rw [hk b CG]
   exact h3
  ·exact ⟨HO.out.os.trans ac.out.os,HO.out.tape.trans ac.out.tape,HO.out.output.trans ac.out.output,by have h1:=HO.out.size;have h2:=ac.out.size;simp;omega,fun b hb hn=>(hk b CG).trans ((HO.out.block b (by have:=ac.out.size;omega) CG).trans (ac.out.block b hb hn))⟩
end Go.Proofs.YtmkdgnmmebldgaaGreatDoor
