import Derived.Test.YtmkdgnmmebldgaaGreatDoorPk3
set_option maxRecDepth 100000
set_option maxHeartbeats 8000000
open Go.Proofs.Tryz
namespace Go.Proofs.YtmkdgnmmebldgaaGreatDoor
open Go.RowKit Go.Deep
variable {a:Option Addr}{w:World}
structure iK (w:World)(B:Nat)(v0 v1 v2 v3:Value)(r:al):Prop where
 o0:w.ownsRow B 46 2 v0 r.CE.length (aG r.CE)
 o1:w.ownsRow B 52 2 v1 r.CA.length (aG r.CA)
 o2:w.ownsRow B 3 1 v2 r.Cy.length (bP r.Cy)
 o3:w.ownsRow B 48 3 v3 r.CF.length (bG r.CF)
structure lg (r:al):Prop where
 s0:r.CE.length<=1000
 s1:r.CA.length<=1000
 s2:r.Cy.length<=1000
 s3:r.CF.length<=1000
structure ph (d:aL)(r:al):Prop where
 n0:d.a0=none->r.CE.length=0/\d.c0=0
 n1:d.a1=none->r.CA.length=0/\d.c1=0
 n2:d.a2=none->r.Cy.length=0/\d.c2=0
 n3:d.a3=none->r.CF.length=0/\d.c3=0
theorem cG (w:World)(c:Array Value)(T:Nat):(w.alloc (.cells c T)).rowIs w.heap.size T c.size (fun j=>c.getD j (.bool false)):=
 World.rowIs_alloc w c T _ (by intro k hk;simp [Array.getD,hk])
theorem qA (w:World)(d:aL)(r:al)(T:Nat):aA (w.alloc (.cells #[.int .i64 r.start,.int .i64 r.stop,.slice d.a0 r.CE.length d.c0,.slice d.a1 r.CA.length d.c1,.slice d.a2 r.Cy.length d.c2,.slice d.a3 r.CF.length d.c3,.slice d.a4 r.over.length d.c4,.slice d.a5 r.Cz.length d.c5] T)) w.heap.size 0 d r:=by
 constructor <;> simp [go_sem]
theorem vu {es:List am}(h:aT w a es)(e:a=none):es.length=0:=by
 rcases h.2 with h | ⟨b,off,h,_⟩
 ·rw [h];rfl
 ·rw [h] at e;cases e
theorem Bx {es:List Int}(h:bV w a es)(e:a=none):es.length=0:=by
 rcases h.2 with h | ⟨b,off,h,_⟩
 ·rw [h];rfl
 ·rw [h] at e;cases e
theorem tu {es:List aI}(h:bw w a es)(e:a=none):es.length=0:=by
 rcases h.2 with h | ⟨b,off,h,_⟩
 ·rw [h];rfl
 ·rw [h] at e;cases e
theorem yO {es:List aN}(h:cw w a es)(e:a=none):es.length=0:=by
 rcases h.2 with h | ⟨b,off,h,_⟩
 ·rw [h];rfl
 ·rw [h] at e;cases e
theorem mO {P:Program}(w:World)(t ty e:TypeId)(i:TypeInfo)(ht:P.underlying t=some (.slice e))(hi:P.info? e=some i)(g c:Nat):
  (Builtin.append_ #[t,t] ty #[.slice (some ⟨g,0,none⟩) 0 0,.slice none 0 c]).run P w = .ok (.slice (some ⟨g,0,none⟩) 0 0) w:=by
 simp [Builtin.append_,run_underlying ht,sizeOf,typeInfo,hi,Builtin.lenOf,Builtin.firstCells,storeCells]
theorem fQ {P:Program}{Wp:World}{ops:Array Oper}{rest:List Oper}{o:Oper}{a:Act}{Q:Exit->Act->World->Prop}(hgd:o.guard=none)(s x:Operand)(t:TypeId)
  (ho:o.op = .call { callee:=.builtin .append,args:=#[s,x],argTypes:=#[t,t] })
  (e:TypeId) (z:Value) (size bytes:Nat) (ht:P.underlying t=some (.slice e)) (hi:(P.info? e).map (fun i=>(i.zero,i.size,i.bytes))=some (some z,size,bytes)) (hzs:z.cells.size=size) (hsz:0<size)
  (g:Nat) (hgs:g=Wp.heap.size) (hs:a.eval s = .slice (some ⟨g,0,none⟩) 0 0)
  (av:Option Addr) (m c:Nat) (news:List Value) (hx:a.eval x = .slice av m c) (hav:av=none->m=0) (hl:news.length=m*size) (hnews:∀ ad,av=some ad->∀ j u,news[j]? = some u->Wp.cell? (ad.add j)=some u) (h1:∀ u ∈ news,u.oneCell'=true)
  (h63:m<=maxLen) (hbytes:m*bytes<=140737488355328)
  (h:∀ x' y' w',w'.ownsRow Wp.heap.size e size (.slice x' m y') m news->Cx Wp w'->wpList P ops Q rest (a.put o.dst (.slice x' m y')) w'):wpList P ops Q (o::rest) a (Wp.alloc (.cells #[] e)):=by
 cases av with
 | some ad=>exact us hgd s x t ho e z size bytes ht hi hzs hsz g hgs hs (some ad) m c news hx (fun h=>by cases h) hl hnews h1 h63 hbytes h
 | none =>
  have hm:=hav rfl;subst hm;have hn:news=[]:=List.eq_nil_of_length_eq_zero (by simpa using hl)
  subst hn hgs;obtain ⟨i,b,d,f,k⟩:=info_parts hi;have hr:=mO (P:=P) (Wp.alloc (.cells #[] e)) t o.type e i ht b Wp.heap.size c;refine wpList_plain hgd fun K hK=>?_
  unfold Oper.wp execOp;simp only [ho,resolve,invoke,builtin,Sem.run_bind,Sem.run_pure,Result.andThen_ok,List.map_toArray,List.map_cons,List.map_nil,hs,hx,hr];exact hK _ _ (h _ _ _ (World.ownsRow_made Wp #[] 0 CW (Nat.zero_le _) CI) CU)
theorem oM (d:aL)(r:al)(w:World)(hl:Hid (bq w d r))(hs:Hid (lg r)):
  Calls prog 75 #[cC d r] w fun e w' => ∃ v0 v1 v2 v3,e = .returned (.agg #[.int .i64 r.start,.int .i64 r.stop,v0,v1,v2,v3,.slice d.a4 r.over.length d.c4,.slice d.a5 r.Cz.length d.c5])/\iK w' w.heap.size v0 v1 v2 v3 r/\Cx w w':=by
 unfold cC;obtain ⟨W0,l⟩:∃ W0,((w.alloc (.cells #[.int .i64 r.start,.int .i64 r.stop,.slice d.a0 r.CE.length d.c0,.slice d.a1 r.CA.length d.c1,.slice d.a2 r.Cy.length d.c2,.slice d.a3 r.CF.length d.c3,.slice d.a4 r.over.length d.c4,.slice d.a5 r.Cz.length d.c5] 44)).alloc (.cells #[.int .i64 0,.int .i64 0,.slice none 0 0,.slice none 0 0,.slice none 0 0,.slice none 0 0,.slice none 0 0,.slice none 0 0] 44)).alloc (.cells #[.int .i64 r.start,.int .i64 r.stop,.slice d.a0 r.CE.length d.c0,.slice d.a1 r.CA.length d.c1,.slice d.a2 r.Cy.length d.c2,.slice d.a3 r.CF.length d.c3,.slice d.a4 r.over.length d.c4,.slice d.a5 r.Cz.length d.c5] 44)=W0:=⟨_,rfl⟩;have T:Hid (aA W0 w.heap.size 0 d r):=by rw [<-l];exact ((qA w d r _).below CU).below CU
 have F:Hid (W0.rowIs (w.heap.size+1+1) 44 8 (fun j=>(#[.int .i64 r.start,.int .i64 r.stop,.slice d.a0 r.CE.length d.c0,.slice d.a1 r.CA.length d.c1,.slice d.a2 r.Cy.length d.c2,.slice d.a3 r.CF.length d.c3,.slice d.a4 r.over.length d.c4,.slice d.a5 r.Cz.length d.c5]:Array Value).getD j (.bool false))):=by
  rw [<-l];have h:=cG ((w.alloc (.cells #[.int .i64 r.start,.int .i64 r.stop,.slice d.a0 r.CE.length d.c0,.slice d.a1 r.CA.length d.c1,.slice d.a2 r.Cy.length d.c2,.slice d.a3 r.CF.length d.c3,.slice d.a4 r.over.length d.c4,.slice d.a5 r.Cz.length d.c5] 44)).alloc (.cells #[.int .i64 0,.int .i64 0,.slice none 0 0,.slice none 0 0,.slice none 0 0,.slice none 0 0,.slice none 0 0,.slice none 0 0] 44)) #[.int .i64 r.start,.int .i64 r.stop,.slice d.a0 r.CE.length d.c0,.slice d.a1 r.CA.length d.c1,.slice d.a2 r.Cy.length d.c2,.slice d.a3 r.CF.length d.c3,.slice d.a4 r.over.length d.c4,.slice d.a5 r.Cz.length d.c5] 44;simp only [World.size_alloc] at h;exact h
 have U:Hid (∃ f,W0.rowIs (w.heap.size+1) 44 8 f):=by
  rw [<-l];have h:=(cG (w.alloc (.cells #[.int .i64 r.start,.int .i64 r.stop,.slice d.a0 r.CE.length d.c0,.slice d.a1 r.CA.length d.c1,.slice d.a2 r.Cy.length d.c2,.slice d.a3 r.CF.length d.c3,.slice d.a4 r.over.length d.c4,.slice d.a5 r.Cz.length d.c5] 44)) #[.int .i64 0,.int .i64 0,.slice none 0 0,.slice none 0 0,.slice none 0 0,.slice none 0 0,.slice none 0 0,.slice none 0 0] 44).alloc (.cells #[.int .i64 r.start,.int .i64 r.stop,.slice d.a0 r.CE.length d.c0,.slice d.a1 r.CA.length d.c1,.slice d.a2 r.Cy.length d.c2,.slice d.a3 r.CF.length d.c3,.slice d.a4 r.over.length d.c4,.slice d.a5 r.Cz.length d.c5] 44);simp only [World.size_alloc] at h;exact ⟨_,h⟩
 have G:w.heap.size+3=W0.heap.size:=by rw [<-l];simp
 have H:=aa G;have V:w.heap.size+3<=W0.heap.size:=CG
 clear G;have A:Hid (Cx w W0):=by rw [<-l];exact CU.alloc CI _ |>.alloc CN _
 have W:r.CE.length<=maxLen:=by have:=hs.out.s0;unfold maxLen;omega
 have X:r.CE.length*16<=140737488355328:=by have:=hs.out.s0;omega
 have Y:r.CA.length<=maxLen:=by have:=hs.out.s1;unfold maxLen;omega
 have Z:r.CA.length*16<=140737488355328:=by have:=hs.out.s1;omega
 have ab:r.Cy.length<=maxLen:=by have:=hs.out.s2;unfold maxLen;omega
 have ac:r.Cy.length*8<=140737488355328:=by have:=hs.out.s2;omega
 have ad:r.CF.length<=maxLen:=by have:=hs.out.s3;unfold maxLen;omega
 have ae:r.CF.length*24<=140737488355328:=by have:=hs.out.s3;omega
 have af:=aa l;clear l
 go_enter func75,ntmps75
 go_wp2_with (first
  | (at_builtin;rw [af.out];refine fQ rfl (.tmp 5) (.tmp 7) 38 rfl 46 _ 2 16 underlying38 Tryz.infoStep rfl CJ (w.heap.size+1+1+1) ?_ rfl d.a0 r.CE.length d.c0 (aG r.CE) rfl (vu hl.out.CE) (eL _) (kz (hl.out.CE.below ?_)) (fT _) W X ?_;(· (have:=H.out;omega));(· exact A.out);intro x0 y0 w1 I o;have B:=aa (T.out.below o);have q:=aa (F.out.of_block (o.block _ F.out.lt));have J:Hid (∃ f,w1.rowIs (w.heap.size+1) 44 8 f):=(by obtain ⟨f,h⟩:=U.out;exact ⟨f,h.of_block (o.block _ h.lt)⟩);have x:=aa (A.out.trans (o.mono A.out.size));have m:=aa (aW I (show w.heap.size+3<=_ from (by first | omega | (simp;omega))));have aj:w.heap.size+3<=w1.heap.size:=(by have h1:=H.out;have h2:=o.size;omega);have yy:=q.out.cell (i:=2) CG;have ff:=q.out.frozen 2;have za:w.heap.size<w1.heap.size:=CG;have zb:w.heap.size+1+1<w1.heap.size:=CG;clear o I;have xx:w1.cell? ⟨w.heap.size,3,none⟩=some (.slice d.a1 r.CA.length d.c1):=B.out.k3)
  | (at_builtin;refine fQ rfl (.tmp 10) (.tmp 12) 39 rfl 52 _ 2 16 underlying39 Tryz.infoLie rfl CJ w1.heap.size ?_ rfl d.a1 r.CA.length d.c1 (aG r.CA) rfl (vu hl.out.CA) (eL _) (kz (hl.out.CA.below ?_)) (fT _) Y Z ?_;(· simp);(· exact x.out.setCell CN _);intro x1 y1 w2 L n;have C:=aa ((B.out.kept (w':=(w1.setCell ⟨w.heap.size+1+1,2,none⟩ (.slice x0 r.CE.length y0))) (Below.heap_setCell _ _ _ _ CR)).below n);have s:=aa ((q.out.set 2 (.slice x0 r.CE.length y0)).of_block (n.block _ (by have:=q.out.lt;simpa using this)));have M:Hid (∃ f,w2.rowIs (w.heap.size+1) 44 8 f):=(by obtain ⟨f,h⟩:=J.out;exact ⟨f,(h.setOther (a:=⟨w.heap.size+1+1,2,none⟩) CR _).of_block (n.block _ (by have:=h.lt;simpa using this))⟩);have y:=aa ((x.out.setCell (p:=⟨w.heap.size+1+1,2,none⟩) CN _).trans (n.mono (by have:=x.out.size;simpa using this)));have t:=aa (aW L (show w.heap.size+3<=_ from (by first | omega | (simp;omega))));have ak:w1.heap.size<=w2.heap.size:=(by have:=n.size;simpa using this);replace m:=aa (aq (ownsRow_setCell_below m.out (a:=⟨w.heap.size+1+1,2,none⟩) CM (.slice x0 r.CE.length y0)) n);clear B q J x yy ff xx za zb;have yy:=s.out.cell (i:=3) CG;have ff:=s.out.frozen 3;have za:w.heap.size<w2.heap.size:=CG;have zb:w.heap.size+1+1<w2.heap.size:=CG;clear n L;have xx:w2.cell? ⟨w.heap.size,4,none⟩=some (.slice d.a2 r.Cy.length d.c2):=C.out.k4)
  | (at_builtin;refine fQ rfl (.tmp 15) (.tmp 17) 40 rfl 3 _ 1 8 underlying40 Tryz.infoInt rfl CJ w2.heap.size ?_ rfl d.a2 r.Cy.length d.c2 (bP r.Cy) rfl (Bx hl.out.Cy) (gS _) (sM (hl.out.Cy.below ?_)) (kD _) ab ac ?_;(· simp);(· exact y.out.setCell CN _);intro x2 y2 w3 N k;have D:=aa ((C.out.kept (w':=(w2.setCell ⟨w.heap.size+1+1,3,none⟩ (.slice x1 r.CA.length y1))) (Below.heap_setCell _ _ _ _ CR)).below k);have u:=aa ((s.out.set 3 (.slice x1 r.CA.length y1)).of_block (k.block _ (by have:=s.out.lt;simpa using this)));have O:Hid (∃ f,w3.rowIs (w.heap.size+1) 44 8 f):=(by obtain ⟨f,h⟩:=M.out;exact ⟨f,(h.setOther (a:=⟨w.heap.size+1+1,3,none⟩) CR _).of_block (k.block _ (by have:=h.lt;simpa using this))⟩);have z:=aa ((y.out.setCell (p:=⟨w.heap.size+1+1,3,none⟩) CN _).trans (k.mono (by have:=y.out.size;simpa using this)));have E:=aa (aW N (show w.heap.size+3<=_ from (by first | omega | (simp;omega))));have am:w2.heap.size<=w3.heap.size:=(by have:=k.size;simpa using this);replace m:=aa (aq (ownsRow_setCell_below m.out (a:=⟨w.heap.size+1+1,3,none⟩) CM (.slice x1 r.CA.length y1)) k);replace t:=aa (aq (ownsRow_setCell_below t.out (a:=⟨w.heap.size+1+1,3,none⟩) CM (.slice x1 r.CA.length y1)) k);clear C s M y yy ff xx za zb;have yy:=u.out.cell (i:=4) CG;have ff:=u.out.frozen 4;have za:w.heap.size<w3.heap.size:=CG;have zb:w.heap.size+1+1<w3.heap.size:=CG;clear k N;have xx:w3.cell? ⟨w.heap.size,5,none⟩=some (.slice d.a3 r.CF.length d.c3):=D.out.k5)
  | (at_builtin;refine fQ rfl (.tmp 20) (.tmp 22) 41 rfl 48 _ 3 24 underlying41 Tryz.infoPart rfl CJ w3.heap.size ?_ rfl d.a3 r.CF.length d.c3 (bG r.CF) rfl (tu hl.out.CF) (nh _) (AX (hl.out.CF.below ?_)) (rq _) ad ae ?_;(· simp);(· exact z.out.setCell CN _);intro x3 y3 w4 R c;have an:=aa ((D.out.kept (w':=(w3.setCell ⟨w.heap.size+1+1,4,none⟩ (.slice x2 r.Cy.length y2))) (Below.heap_setCell _ _ _ _ CR)).below c);have g:=aa ((u.out.set 4 (.slice x2 r.Cy.length y2)).of_block (c.block _ (by have:=u.out.lt;simpa using this)));have ag:Hid (∃ f,w4.rowIs (w.heap.size+1) 44 8 f):=(by obtain ⟨f,h⟩:=O.out;exact ⟨f,(h.setOther (a:=⟨w.heap.size+1+1,4,none⟩) CR _).of_block (c.block _ (by have:=h.lt;simpa using this))⟩);have ah:=aa ((z.out.setCell (p:=⟨w.heap.size+1+1,4,none⟩) CN _).trans (c.mono (by have:=z.out.size;simpa using this)));have ai:=aa (aW R (show w.heap.size+3<=_ from (by first | omega | (simp;omega))));have ao:w3.heap.size<=w4.heap.size:=(by have:=c.size;simpa using this);replace m:=aa (aq (ownsRow_setCell_below m.out (a:=⟨w.heap.size+1+1,4,none⟩) CM (.slice x2 r.Cy.length y2)) c);replace t:=aa (aq (ownsRow_setCell_below t.out (a:=⟨w.heap.size+1+1,4,none⟩) CM (.slice x2 r.Cy.length y2)) c);replace E:=aa (aq (ownsRow_setCell_below E.out (a:=⟨w.heap.size+1+1,4,none⟩) CM (.slice x2 r.Cy.length y2)) c);clear D u O z yy ff xx za zb;have yy:=g.out.cell (i:=5) CG;have ff:=g.out.frozen 5;have za:w.heap.size<w4.heap.size:=CG;have zb:w.heap.size+1+1<w4.heap.size:=CG;clear c R;obtain ⟨fz,b⟩:=ag.out;have u0:w4.cell? ⟨w.heap.size+1+1,0,none⟩=some (.int .i64 r.start):=(g.out.cell (i:=0) CG).trans CI;have u1:w4.cell? ⟨w.heap.size+1+1,1,none⟩=some (.int .i64 r.stop):=(g.out.cell (i:=1) CG).trans CI;have u2:w4.cell? ⟨w.heap.size+1+1,2,none⟩=some (.slice x0 r.CE.length y0):=(g.out.cell (i:=2) CG).trans CI;have u3:w4.cell? ⟨w.heap.size+1+1,3,none⟩=some (.slice x1 r.CA.length y1):=(g.out.cell (i:=3) CG).trans CI;have u4:w4.cell? ⟨w.heap.size+1+1,4,none⟩=some (.slice x2 r.Cy.length y2):=(g.out.cell (i:=4) CG).trans CI;have u6:w4.cell? ⟨w.heap.size+1+1,6,none⟩=some (.slice d.a4 r.over.length d.c4):=(g.out.cell (i:=6) CG).trans CI;have u7:w4.cell? ⟨w.heap.size+1+1,7,none⟩=some (.slice d.a5 r.Cz.length d.c5):=(g.out.cell (i:=7) CG).trans CI;have q0:=b.cell (i:=0) CG;have r0:=b.frozen 0;have q1:=b.cell (i:=1) CG;have r1:=b.frozen 1;have q2:=b.cell (i:=2) CG;have r2:=b.frozen 2;have q3:=b.cell (i:=3) CG;have r3:=b.frozen 3;have q4:=b.cell (i:=4) CG;have r4:=b.frozen 4;have q5:=b.cell (i:=5) CG;have r5:=b.frozen 5;have q6:=b.cell (i:=6) CG;have r6:=b.frozen 6;have q7:=b.cell (i:=7) CG;have r7:=b.frozen 7;have zc:w.heap.size+1<w4.heap.size:=CG;clear b))
 refine bodyPost_ret (v:=.agg #[.int .i64 r.start,.int .i64 r.stop,.slice x0 r.CE.length y0,.slice x1 r.CA.length y1,.slice x2 r.Cy.length y2,.slice x3 r.CF.length y3,.slice d.a4 r.over.length d.c4,.slice d.a5 r.Cz.length d.c5]) (by simp [results,results75,go_sem,q0,q1,q2,q3,q4,q5,q6,q7]) rfl ⟨_,_,_,_,rfl,⟨(aW (ownsRow_setCell_below (ownsRow_setCell_below (ownsRow_setCell_below (ownsRow_setCell_below (ownsRow_setCell_below (ownsRow_setCell_below (ownsRow_setCell_below (ownsRow_setCell_below (ownsRow_setCell_below m.out CM _) CM _) CM _) CM _) CM _) CM _) CM _) CM _) CM _) CG),(aW (ownsRow_setCell_below (ownsRow_setCell_below (ownsRow_setCell_below (ownsRow_setCell_below (ownsRow_setCell_below (ownsRow_setCell_below (ownsRow_setCell_below (ownsRow_setCell_below (ownsRow_setCell_below t.out CM _) CM _) CM _) CM _) CM _) CM _) CM _) CM _) CM _) CG),(aW (ownsRow_setCell_below (ownsRow_setCell_below (ownsRow_setCell_below (ownsRow_setCell_below (ownsRow_setCell_below (ownsRow_setCell_below (ownsRow_setCell_below (ownsRow_setCell_below (ownsRow_setCell_below E.out CM _) CM _) CM _) CM _) CM _) CM _) CM _) CM _) CM _) CG),(aW (ownsRow_setCell_below (ownsRow_setCell_below (ownsRow_setCell_below (ownsRow_setCell_below (ownsRow_setCell_below (ownsRow_setCell_below (ownsRow_setCell_below (ownsRow_setCell_below (ownsRow_setCell_below ai.out CM _) CM _) CM _) CM _) CM _) CM _) CM _) CM _) CM _) CG)⟩,(((((((((ah.out.setCell CM _).setCell CM _).setCell CM _).setCell CM _).setCell CM _).setCell CM _).setCell CM _).setCell CM _).setCell CM _)⟩
theorem lD (d:aL)(r:al)(w:World)(hl:Hid (bq w d r))(hs:Hid (lg r))(_:Hid (ph d r)):
  Calls prog 75 #[cC d r] w fun e w' => ∃ v0 v1 v2 v3,e = .returned (.agg #[.int .i64 r.start,.int .i64 r.stop,v0,v1,v2,v3,.slice d.a4 r.over.length d.c4,.slice d.a5 r.Cz.length d.c5])/\iK w' w.heap.size v0 v1 v2 v3 r/\Cx w w':=oM d r w hl hs
end Go.Proofs.YtmkdgnmmebldgaaGreatDoor
namespace Go.Proofs.YtmkdgnmmebldgaaGreatDoor
end Go.Proofs.YtmkdgnmmebldgaaGreatDoor
