import Derived.Test.YtmkdgnmmebldgaaGreatDoorPk14
import Derived.Test.YtmkdgnmmebldgaaGreatDoorPk4
set_option maxRecDepth 100000
set_option maxHeartbeats 8000000
open Go.Proofs.Tryz
namespace Go.Proofs.YtmkdgnmmebldgaaGreatDoor
open Go.RowKit Go.Deep
theorem ax {w w':World}{B e s n:Nat}{v:Value}{xs:List Value}(h:w.ownsRow B e s v n xs)(hk:∀ b,v.ownBlock=some b->w'.heap[b]? = w.heap[b]?):w'.ownsRow B e s v n xs:=by
 refine ⟨h.1,?_⟩;rcases h.2 with h2 | ⟨g,a,c,h1,h2,h3,h4⟩
 ·exact Or.inl h2
 ·exact Or.inr ⟨g,a,c,h1,h2,(hk g (by rw [h1];rfl)).trans h3,h4⟩
def j5 (F Bo no:Nat)(vo:Value)(oc:List Value)(w:World)(fl:List aN)(news:Option Addr->Nat->List Value)(e:Ending)(w':World):Prop:=
 e = .returned (.tuple #[])/\∃ x' y' xf yf,w'.cell? ⟨F,4,none⟩=some (.slice x' (no+1) y')/\w'.ownsRow Bo 44 8 (.slice x' (no+1) y') (no+1) (oc++news xf yf) /\
  w'.ownsRow w.heap.size 50 4 (.slice xf fl.length yf) fl.length (bO fl)/\dj w vo (.slice x' (no+1) y') /\
  (∀ o,o≠4->o≠6->w'.cell? ⟨F,o,none⟩=w.cell? ⟨F,o,none⟩)/\(∀ o,w'.frozen? ⟨F,o,none⟩=w.frozen? ⟨F,o,none⟩)/\(∃ v,w'.cell? ⟨F,6,none⟩=some v)/\ag (fun k=>k=F\/vo.ownBlock=some k) w w'
theorem Ap (w0:World)(F:Nat)(pa ja sa:Option Addr)(pc jc sc:Nat)(ps:List af)(js:List aj)(ss:List af)(R:Hid (bo ps js ss))(HP:Hid (ar w0 pa ps))(HJ:Hid (aP w0 ja js))(HS:Hid (ar w0 sa ss))(hF0:w0.heap.size<=F)
  (hfl:Hid (∀ (B Q:Nat) (la:Option Addr) (lc:Nat) (CA:List bg) (pl:Int) (n:Nat),LB w0 B F Q pa ja sa la ps js ss CA->iz w0 B F Q pa ja sa la pc jc sc lc ps js ss CA pl n))
  (a0 a1 a2 a3 a4:Option Addr) (k0 k1 k2 k3 k4:Nat) (st sp:Int) (CE CA:List am) (Cy:List Int) (CF over:List aI)
  (xo:Option Addr) (yo no Bo:Nat) (oc:List Value) (w:World) (hb:Hid (Cx w0 w))
  (c0:w.cell? ⟨F,0,none⟩=some (.slice pa ps.length pc)) (c1:w.cell? ⟨F,1,none⟩=some (.slice ja js.length jc)) (c2:w.cell? ⟨F,2,none⟩=some (.slice sa ss.length sc))
  (c4:w.cell? ⟨F,4,none⟩=some (.slice xo no yo)) (z4:w.frozen? ⟨F,4,none⟩=false) (s6:∃ v,w.cell? ⟨F,6,none⟩=some v) (z6:w.frozen? ⟨F,6,none⟩=false)
  (hl:Hid (aT w a1 CA)) (hla:Hid (CA=[]\/∀ b off,a1=some ⟨b,off,none⟩->b≠F)) (hln:CA.length<=120)
  (hlv:Hid (∀ l ∈ CA,∃ (j:Nat) (hj:j<js.length),l.CB=j/\js[j].kind=3/\(l.side=1\/l.side=2))) (hlu:Hid (∀ a ∈ CA,∀ b ∈ CA,a.CB=b.CB->a.side=b.side))
  (ho:Hid (w.ownsRow Bo 44 8 (.slice xo no yo) no oc)) (hno:no<=1000) (hBo:Bo<=w.heap.size) (hoF:Hid ((Value.slice xo no yo).ownBlock≠some F)) :
  Calls prog 78 #[.pointer (some ⟨F,0,none⟩),.agg #[.int .i64 st,.int .i64 sp,.slice a0 CE.length k0,.slice a1 CA.length k1,.slice a2 Cy.length k2,.slice a3 CF.length k3,.slice a4 over.length k4,.slice none 0 0]] w (j5 F Bo no (.slice xo no yo) oc w (aS ps js ss CA CA) (fun xf yf=>[.int .i64 st,.int .i64 sp,.slice a0 CE.length k0,.slice a1 CA.length k1,.slice a2 Cy.length k2,.slice a3 CF.length k3,.slice a4 over.length k4,.slice xf (aS ps js ss CA CA).length yf])):=by
 have r:=ai c0;dsimp only at r
 go_enter func78,ntmps78
 go_wp2_with fail
 generalize hW:w.alloc _=W;have g:Cx w W:=by rw [<-hW];exact blo
 have d:Hid (W.rowIs w.heap.size 44 8 (fun j=>(#[.int .i64 st,.int .i64 sp,.slice a0 CE.length k0,.slice a1 CA.length k1,.slice a2 Cy.length k2,.slice a3 CF.length k3,.slice a4 over.length k4,.slice none 0 0]:Array Value).getD j (.bool false))):=by rw [<-hW];exact cG w _ _
 have V:w.heap.size+1<=W.heap.size/\W.heap.size<=w.heap.size+1:=by rw [<-hW];simp
 have HB:Hid (LB w0 W.heap.size F w.heap.size pa ja sa a1 ps js ss CA):=by
  refine ⟨HP.out,HJ.out,HS.out,hF0,hb.out.size,CG,CG,CG,?_,CG,hlu.out⟩
  rcases hla.out with h | h
  ·exact Or.inl h
  ·rcases hl.out.2 with h2 | ⟨b,off,h2,hc⟩
   ·exact Or.inl h2
   ·by_cases ap:CA=[]
    ·exact Or.inl ap
    ·refine Or.inr (fun b' X e=>?_)
     have aQ:b'=b:=by rw [h2] at e;cases e;rfl
     subst aQ;have h3:=ai (hc 0 (List.length_pos_iff.2 ap)).1;dsimp only at h3;exact ⟨CG,h b' X e,CG⟩
 obtain ⟨v6,aR⟩:=s6;have aq:Hid (LD w0 W W.heap.size F w.heap.size pa ja sa a1 pc jc sc k1 ps.length js.length ss.length CA none 0 (aS ps js ss CA (CA.take 0))):=by
  refine ⟨hb.out.trans (g.mono hb.out.size),Nat.le_refl _,cell_later g c0,cell_later g c1,cell_later g c2,d.out.cell CG,hl.out.below g,⟨v6,cell_later g aR⟩,(g.frozen (p:=⟨F,6,none⟩) r).trans z6,d.out.cell CG,d.out.frozen 7,World.ownsRow_nil _ _ _ _⟩
 have s:Hid (dJ F w.heap.size W W):=dJ.refl CG CG
 have bd:=V.1;have bf:=V.2;clear hW V
 go_loopw [10] (fun c wr => ∃ (k:Nat) (xf:Option Addr) (yf:Nat),k<=CA.length/\c = .int .i64 k/\Hid (LD w0 wr W.heap.size F w.heap.size pa ja sa a1 pc jc sc k1 ps.length js.length ss.length CA xf yf (aS ps js ss CA (CA.take k)))/\Hid (dJ F w.heap.size W wr)) (fun c _=>CA.length-(intOf c).toNat)
 case atStart=>exact ⟨0,none,0,Nat.zero_le _,rfl,aq,s⟩
 case round =>
  clear aq s;obtain ⟨k,xf,yf,hk,rfl,HD,f⟩:=hrel;have bh:=f.out.only.size;have M:F<wr.heap.size:=CG
  by_cases N:k<CA.length
  ·obtain ⟨bl,ol,aU,au⟩:=HD.out.L.2.resolve_left (nz N);subst aU;obtain ⟨d0,d1⟩:=au k N;obtain ⟨j,hj,O,bi,av⟩:=hlv.out _ (List.getElem_mem N);rw [O] at d0;have n1:=HD.out.c1;have aw:=ai d0;dsimp only at aw;obtain ⟨bj,oj,aX,u⟩:=HJ.out.2.2.resolve_left (nz hj);obtain ⟨j1,j2,ea,ec,j3,j4⟩:=u j hj;have e3:=cell_later HD.out.base j3;have ay:=ai e3;dsimp only at ay;have bk:=R.out.nj;subst aX;obtain ⟨v7,h6⟩:=HD.out.s6;have aZ:=HD.out.z6;have az:=aa j4;have aA:js[j].ends.length=3:=by have:=(R.out.kind j hj).2.2;omega
   obtain ⟨t,ht,Y⟩:∃ t:Nat,t<3/\(3:Int)-CA[k].side=t:=by
    rcases av with h | h
    ·exact ⟨2,CG,CG⟩
    ·exact ⟨1,CG,CG⟩
   have aB:1<=CA[k].side:=CG
   have aC:CA[k].side<=2:=CG
   have Z:t<js[j].ends.length:=CG
   have HE:Hid (aY js CA[k].CB.toNat (3-CA[k].side).toNat=js[j].ends[t]):=by unfold Hid;rw [O,Y,Int.toNat_natCast,Int.toNat_natCast,du hj Z]
   have HV:Hid (bM ps js[j].ends[t]):=R.out.ends j hj t Z;have ab:=aa (yW ps js ss CA k N);have aD:Hid ((aS ps js ss CA (CA.take k)).length<=24000):=by
    have h1:=i8 R.out CA (CA.take k) (fun l hl=>by
     obtain ⟨j',y,e1,e2,e3⟩:=hlv.out l (List.mem_of_mem_take hl);have h3:js[j'].ends.length=3:=by have:=(R.out.kind j' y).2.2;omega
     rw [e1,Int.toNat_natCast];rcases e3 with e3 | e3
     ·rw [e3,show ((3:Int)-1).toNat=2 from rfl,du y CG];exact R.out.ends j' y 2 CG
     ·rw [e3,show ((3:Int)-2).toNat=1 from rfl,du y CG];exact R.out.ends j' y 1 CG)
    have h2:2*ps.length*(CA.take k).length<=200*120:=Nat.mul_le_mul (by have:=R.out.np;omega) (by rw [List.length_take];omega)
    exact Nat.le_trans h1 h2
   generalize aS ps js ss CA (CA.take k)=fl at HD ab aD;clear au u j1 j2 j3 j4 hlv
   go_wp2_with fail
   go_quiet (fail)
   generalize T:(wr.alloc _).drewN _=W4;have ac:Cx wr W4:=by rw [<-T];exact blo
   have i0:W4.cell? ⟨wr.heap.size,0,none⟩=some (.int .i64 j):=by rw [<-T];simp [go_sem]
   have i1:W4.cell? ⟨wr.heap.size,1,none⟩=some (.int .i64 CA[k].side):=by rw [<-T];simp [go_sem]
   have ad:=aa (HD.out.below ac);have z:=aa (f.out.later ac);have g6:=cell_later ac h6;have a5:=ad.out.z6;have aE:=ai g6;dsimp only at aE;clear T d0 d1 n1 e3 h6 aZ aw ay HD f
   go_wp2_with fail
   generalize A:W4.setCell ⟨F,6,none⟩ (.slice none 0 0)=W5;have HK:Hid (LK w0 W5 W.heap.size F w.heap.size pa (some ⟨bj,oj,none⟩) sa (some ⟨bl,ol,none⟩) pc jc sc k1 ps.length js.length ss.length CA none 0 xf yf ([],fl)):=by rw [<-A];exact LD.reset HB.out ad.out
   have C:Hid (dJ F w.heap.size W W5):=by rw [<-A];exact z.out.set CG _
   have m0:W5.cell? ⟨wr.heap.size,0,none⟩=some (.int .i64 j):=by rw [<-A,World.cell?_setCell_other _ _ _ _ CP];exact i0
   have m1:W5.cell? ⟨wr.heap.size,1,none⟩=some (.int .i64 CA[k].side):=by rw [<-A,World.cell?_setCell_other _ _ _ _ CP];exact i1
   clear A i0 i1 g6 a5 aE ad z;obtain ⟨be,oe,a6,aF⟩:=az.out.2.resolve_left (fun h=>by rw [h] at aA;simp at aA)
   subst a6;obtain ⟨g0,g1⟩:=(aF.below HK.out.base) t Z;have D:(t:Int)<3:=CG
   have aG:(t:Int)<(js[j].ends.length:Int):=CG
   have a7:=ai m0;dsimp only at a7;have aH:=aa (hfl.out W.heap.size w.heap.size (some ⟨bl,ol,none⟩) k1 CA j (cI ps) HB.out ([],fl) js[j].ends[t] none 0 xf yf W5.drew (HK.out.below CV.drew) (eZ.nil ps) HV (by have:=aD.out;have:=R.out.np;simp only [List.length_nil];omega) (by unfold cI;simp only [List.length_nil];omega))
   have aJ:∀ x,(Value.slice xf fl.length yf).ownBlock=some x->W.heap.size<=x:=fun x hx=>(HK.out.oF.lt x hx).1
   have aK:=aa aJ;clear aF aJ az;rcases av with hv | hv
   ·have ae:t=2:=CG
    subst ae;rw [hv] at m1;have ah:W5.cell? ⟨be,oe+4,none⟩=some (.int .i64 js[j].ends[2].CB):=g0;have ak:W5.cell? ⟨be,oe+5,none⟩=some (.int .i64 js[j].ends[2].side):=g1;have al:W5.cell? ⟨be,oe+4+1,none⟩=some (.int .i64 js[j].ends[2].side):=g1;clear aG D Y aB aC
    go_region_with (go_at_call 110;refine aH.out.mono ?_;rintro e w6 ⟨rfl,⟨a8,a9,E,G,H,t6,an⟩,I⟩)
    all_goals
     have ao:Hid (LD w0 w6 W.heap.size F w.heap.size pa (some ⟨bj,oj,none⟩) sa (some ⟨bl,ol,none⟩) pc jc sc k1 ps.length js.length ss.length CA E G (aS ps js ss CA (CA.take (k+1)))):=by
      have h:=H.forget;rw [<-HE.out,<-O,ab.out] at h;exact h
     have m:Hid (dJ F w.heap.size W w6):=(C.out.later CV.drew).turn I (fun x hx=>by cases hx) aK.out
     clear H t6 an I m0 m1 g0 g1 ah ak al
     go_wp2_with fail
     go_roundw
     case rel=>exact ⟨k+1,E,G,CG,by go_num,ao,m⟩
     case measure=>simp [intOf];omega
   ·have ae:t=1:=CG
    subst ae;rw [hv] at m1;have ah:W5.cell? ⟨be,oe+2,none⟩=some (.int .i64 js[j].ends[1].CB):=g0;have ak:W5.cell? ⟨be,oe+3,none⟩=some (.int .i64 js[j].ends[1].side):=g1;have al:W5.cell? ⟨be,oe+2+1,none⟩=some (.int .i64 js[j].ends[1].side):=g1;clear aG D Y aB aC
    go_region_with (go_at_call 110;refine aH.out.mono ?_;rintro e w6 ⟨rfl,⟨a8,a9,E,G,H,t6,an⟩,I⟩)
    all_goals
     have ao:Hid (LD w0 w6 W.heap.size F w.heap.size pa (some ⟨bj,oj,none⟩) sa (some ⟨bl,ol,none⟩) pc jc sc k1 ps.length js.length ss.length CA E G (aS ps js ss CA (CA.take (k+1)))):=by
      have h:=H.forget;rw [<-HE.out,<-O,ab.out] at h;exact h
     have m:Hid (dJ F w.heap.size W w6):=(C.out.later CV.drew).turn I (fun x hx=>by cases hx) aK.out
     clear H t6 an I m0 m1 g0 g1 ah ak al
     go_wp2_with fail
     go_roundw
     case rel=>exact ⟨k+1,E,G,CG,by go_num,ao,m⟩
     case measure=>simp [intOf];omega
  ·have HT:Hid (CA.take k=CA):=List.take_of_length_le CG
   rw [HT.out] at HD;obtain ⟨fl,q⟩:∃ fl,aS ps js ss CA CA=fl:=⟨_,rfl⟩;rw [q] at HD;have ba:=aa q;clear q;have aL:Hid (wr.ownsRow Bo 44 8 (.slice xo no yo) no oc):=ax ho.out (fun b hb=>by
    have h1:=(ho.out.lt b hb).2;have h2:b≠F:=fun e=>hoF.out (by rw [<-e];exact hb)
    exact (f.out.only.block b CG (by rintro (h | h) <;> omega)).trans (g.block b h1))
   have g4:wr.cell? ⟨F,4,none⟩=some (.slice xo no yo):=(f.out.kF 4 CG).1.trans (cell_later g c4)
   have bb:wr.frozen? ⟨F,4,none⟩=false:=(f.out.kF 4 CG).2.trans ((g.frozen (p:=⟨F,4,none⟩) r).trans z4)
   have r0:wr.cell? ⟨w.heap.size,0,none⟩=some (.int .i64 st):=(f.out.kQ 0 CG).1.trans (d.out.cell CG)
   have r1:wr.cell? ⟨w.heap.size,1,none⟩=some (.int .i64 sp):=(f.out.kQ 1 CG).1.trans (d.out.cell CG)
   have r2:wr.cell? ⟨w.heap.size,2,none⟩=some (.slice a0 CE.length k0):=(f.out.kQ 2 CG).1.trans (d.out.cell CG)
   have r3:wr.cell? ⟨w.heap.size,3,none⟩=some (.slice a1 CA.length k1):=HD.out.q3;have r4:wr.cell? ⟨w.heap.size,4,none⟩=some (.slice a2 Cy.length k2):=(f.out.kQ 4 CG).1.trans (d.out.cell CG)
   have r5:wr.cell? ⟨w.heap.size,5,none⟩=some (.slice a3 CF.length k3):=(f.out.kQ 5 CG).1.trans (d.out.cell CG)
   have r6:wr.cell? ⟨w.heap.size,6,none⟩=some (.slice a4 over.length k4):=(f.out.kQ 6 CG).1.trans (d.out.cell CG)
   have r7:wr.cell? ⟨w.heap.size,7,none⟩=some (.slice xf fl.length yf):=HD.out.f7;have bm:w.heap.size<wr.heap.size:=CG
   have i:some F≠(Value.slice xo no yo).ownBlock:=fun e=>hoF.out e.symm
   clear HT hlv
   go_wp2_with fail
   go_region_law
    ((refine rk (by rfl) (.tmp 42) (.tmp 44) 30 (by rfl) Bo 44 _ 8 160 underlying30 Tryz.infoRoute (by rfl) CJ (.slice xo no yo) no oc (by rfl) aL.out wr.heap.size (by rfl) [.int .i64 st,.int .i64 sp,.slice a0 CE.length k0,.slice a1 CA.length k1,.slice a2 Cy.length k2,.slice a3 CF.length k3,.slice a4 over.length k4,.slice xf fl.length yf] (by rfl) (by rfl) CL CK CG CG ?_;intro x' y' w2 aM U aN;have h4:=U.cell g4 i;have bn:=(World.frozen?_of_block (a:=⟨F,4,none⟩) (U.block F M i)).trans bb;have bc:=aa aM;have J:=aa U;have aO:=aa aN;clear aM U aN))
   all_goals
    go_wp2_with fail
    first
     | refine bodyPost_end (results_none rfl _ _ _) rfl ?_
     | go_end0
    unfold j5;rw [ba.out];refine ⟨rfl,x',y',xf,yf,World.cell?_setCell_same _ _ _ h4,?_,?_,aO.out.later CG,?_,?_,?_,?_⟩
    ·exact ownsRow_setCell_other bc.out (a:=⟨F,4,none⟩) (fun e=>(aO.out F e).elim (fun h=>hoF.out h) (fun h=>CG)) _
    ·exact aW (ownsRow_setCell_below (HD.out.oF.kept J.out (aV CJ HD.out.oF aL.out)) (by show F<W.heap.size;omega) _) CG
    ·intro o h1 h2;rw [World.cell?_setCell_other _ _ _ _ CP]
     exact (World.cell?_of_block (w:=wr) (J.out.block F M i)).trans ((f.out.kF o h2).1.trans (World.cell?_of_block (w:=w) (g.block F r)))
    ·intro o;rw [World.frozen?_setCell];refine (World.frozen?_of_block (J.out.block F M i)).trans ?_
     by_cases h6:o=6
     ·subst h6;rw [HD.out.z6,z6]
     ·exact (f.out.kF o h6).2.trans (World.frozen?_of_block (g.block F r))
    ·obtain ⟨v,hv⟩:=HD.out.s6;refine ⟨v,?_⟩;rw [World.cell?_setCell_other _ _ _ _ CI]
     exact (World.cell?_of_block (w:=wr) (J.out.block F M i)).trans hv
    ·have hO:ag (fun k=>(k=F\/k=w.heap.size)\/(Value.slice xo no yo).ownBlock=some k) w (w2.setCell ⟨F,4,none⟩ (.slice x' (no+1) y')):=
      (((ag.of_below g).trans (f.out.only.mono (fun k h=>Or.inl h))).trans (ag.of_grown J.out (fun k e=>Or.inr e))).setCell (p:=⟨F,4,none⟩) (Or.inl (Or.inl (Or.inl rfl))) _
     exact ⟨hO.os,hO.tape,hO.output,hO.size,fun k hk hn=>hO.block k hk (fun hs=>by
      rcases hs with (h | h) | h
      ·exact hn (Or.inl h)
      ·omega
      ·exact hn (Or.inr h))⟩
end Go.Proofs.YtmkdgnmmebldgaaGreatDoor
