import Derived.Test.YtmkdgnmmebldgaaGreatDoorPw44
import Derived.Test.YtmkdgnmmebldgaaGreatDoorPw37
set_option maxRecDepth 100000
set_option maxHeartbeats 8000000
namespace Go.Proofs.YtmkdgnmmebldgaaGreatDoor
open Go.RowKit Go.Deep
theorem l5pieces_any (C:Nat)(w:World):
  Calls Tryz.prog 108 #[.pointer (some ⟨C,0,none⟩)] w fun e w'=>e = .returned (.pointer (some ⟨w.heap.size,0,none⟩))/\w'.cell? ⟨w.heap.size,0,none⟩=some (.pointer (some ⟨C,0,none⟩))/\IsT w' 257 w.heap.size/\Below w.heap.size w w':=by
 go_enter Tryz.func108,Tryz.ntmps108
 go_wp2_with fail
 go_ret
 refine ⟨rfl,by simp [go_sem],⟨_,heap_alloc_new _ _⟩,blo⟩
structure Mk (w0 w:World)(D C N:Nat)(ca:Option Addr)(cc:Nat)(bs:List Int)(at_:Nat)(xp:Option Addr)(yp:Nat)(xj:Option Addr)(yj:Nat)(ps:List MPiece)(js:List MJ):Prop where
 net:NetS w C N xp yp xj yj ps js
 cur:Cur w C ca cc bs at_
 low:LowB C ca bs
 d0:w.cell? ⟨D,0,none⟩=some (.pointer (some ⟨C,0,none⟩))
 dC:C<D
 dN:D≠N
 dT:IsT w 257 D
 base:Only (fun k=>k=C\/N<=k) w0 w
section
variable {w0 w w':World} {D C N:Nat} {ca:Option Addr} {cc:Nat} {bs:List Int} {at_:Nat} {xp xj:Option Addr} {yp yj:Nat} {ps:List MPiece} {js:List MJ}
theorem Mk.below (h:Mk w0 w D C N ca cc bs at_ xp yp xj yj ps js)(hb:Below w.heap.size w w'):Mk w0 w' D C N ca cc bs at_ xp yp xj yj ps js:=
 ⟨h.net.below hb,h.cur.below hb,h.low,cell_later hb h.d0,h.dC,h.dN,h.dT.kept (hb.block D (cellLt h.d0)),h.base.trans (Only.of_below hb)⟩
theorem Mk.turn {at':Nat}(h:Mk w0 w D C N ca cc bs at_ xp yp xj yj ps js)(hc:Cur w' C ca cc bs at')(ho:Only (fun k=>k=C) w w'):Mk w0 w' D C N ca cc bs at' xp yp xj yj ps js:=
 ⟨h.net.only ho,hc,h.low,ho.cell h.d0 (by have:=h.dC;show ¬ D=C;omega),h.dC,h.dN,h.dT.kept (ho.block D (cellLt h.d0) (by have:=h.dC;omega)),h.base.trans (ho.mono (fun k hk=>Or.inl hk))⟩
theorem Mk.pushJ (h:Mk w0 w D C N ca cc bs at_ xp yp xj yj ps js){x:MJ}{x':Option Addr}{y':Nat}(hg:w.grownBy w' (Value.slice xj js.length yj).ownBlock)(ho:w'.ownsRow (N+1) 109 3 (.slice x' (js.length+1) y') (js.length+1) (flatJ (js++[x])))(hx:x.2.2.name.size<=1000002)(hE:EndsIn w N x):
  Mk w0 (w'.setCell ⟨N,1,none⟩ (.slice x' (js.length+1) y')) D C N ca cc bs at_ xp yp x' y' ps (js++[x]):=by
 have hrow:∀ k,k<=N->(Value.slice xj js.length yj).ownBlock≠some k:=fun k hk e=>by have:=(h.net.oj.lt k e).1;omega
 have hcn:=h.net.cn;have hN:=h.net.lt;have hlowk:∀ k,k<N->(w'.setCell ⟨N,1,none⟩ (.slice x' (js.length+1) y')).heap[k]? = w.heap[k]? := fun k hk=>(Below.heap_setCell _ _ _ _ (show k≠N by omega)).trans (hg.block k (by omega) (fun e=>hrow k (by omega) e.symm))
 have hD:(w'.setCell ⟨N,1,none⟩ (.slice x' (js.length+1) y')).heap[D]? = w.heap[D]? := (Below.heap_setCell _ _ _ _ h.dN).trans (hg.block D (cellLt h.d0) (fun e=>h.dT.ne h.net.oj (by decide) e.symm))
 exact ⟨h.net.pushJ hg ho hx hE,h.cur.above h.low (fun k hk=>hlowk k (by omega)),h.low,(World.cell?_of_block (w:=w) hD).trans h.d0,h.dC,h.dN,h.dT.kept hD,h.base.trans ⟨hg.os,hg.tape,hg.output,(by have:=hg.size;simpa using this),fun k _ hn=>hlowk k (Nat.lt_of_not_le (fun h=>hn (Or.inr h)))⟩⟩
end
theorem NetS.rowJ {w w':World}{C N:Nat}{xp xj:Option Addr}{yp yj:Nat}{ps:List MPiece}{js:List MJ}(h:NetS w C N xp yp xj yj ps js)(hg:w.grownBy w' (Value.slice xj js.length yj).ownBlock):w'.cell? ⟨N,1,none⟩=some (.slice xj js.length yj)/\w'.frozen? ⟨N,1,none⟩=false:=by
 have hN:w'.heap[N]? = w.heap[N]? := hg.block N h.lt (fun e=>by have:=(h.oj.lt N e.symm).1;omega)
 exact ⟨(World.cell?_of_block (w:=w) hN).trans h.c1,(World.frozen?_of_block (w:=w) hN).trans (h.z 1)⟩
theorem endsIn_new {w:World}{N:Nat}{k:Int}{s:ByteArray}{es:List MEnd}{g:Nat}{cur:Array Value}{c:Nat}(hN:N<g)(hg:w.heap[g]? = some (.cells cur 114 (0,0)))(hc:cur=(flatE es).toArray)(hl:es.length<=4):EndsIn w N (some ⟨g,0,none⟩,c,⟨k,s,es⟩):=by
 refine ⟨⟨by show es.length<=maxLen;unfold maxLen;omega,Or.inr ⟨g,0,rfl,endCells_of (fun j u hu=>?_)⟩⟩,Or.inr (fun b off e=>?_),hl⟩
 ·rw [addr_at,Nat.zero_add,cell_of_row w g j cur 114 (0,0) hg,hc];simpa using hu
 ·cases e;exact ⟨hN,cur,hg⟩
theorem piecesAt_of {w:World}{N:Nat}{x:Option Addr}{y:Nat}{ps:List MPiece}(h:w.ownsRow N 133 4 (.slice x ps.length y) ps.length (flatPc ps))(hn:∀ p ∈ ps,p.name.size<=1000002):PiecesAt w x ps:=by
 rcases h.2 with ⟨h1,h2⟩ | ⟨g,cap,cur,h1,h2,h3,h4,h5,_⟩
 ·have:ps=[]:=List.eq_nil_of_length_eq_zero h2;subst this;exact ⟨Nat.zero_le _,fun p hp=>(by cases hp),Or.inl rfl⟩
 ·cases h1;refine ⟨Nat.le_trans h4 h5,fun p hp=>by have:=hn p hp;unfold maxLen;omega,Or.inr ⟨g,0,rfl,fun i hi=>?_⟩⟩
  have hc:=h.cells (g:=g) rfl;have hg:∀ j,j<4->∀ u,(encPc ps[i])[j]? = some u->w.cell? ⟨g,0+i*4+j,none⟩=some u:=by
   intro j hj u hu;have:=hc (i*4+j) u ((flat_get encPc 4 (fun _=>rfl) ps i j hi hj).trans hu)
   rw [addr_at] at this;have e:0+(i*4+j)=0+i*4+j:=by omega
   rw [e] at this;exact this
  exact ⟨hg 0 (by omega) _ rfl,hg 1 (by omega) _ rfl,hg 2 (by omega) _ rfl,hg 3 (by omega) _ rfl⟩
theorem jointsAt_of {w:World}{N B:Nat}{x:Option Addr}{y:Nat}{js:List MJ}(h:w.ownsRow N 109 3 (.slice x js.length y) js.length (flatJ js))(hn:∀ z ∈ js,z.2.2.name.size<=1000002)(he:∀ z ∈ js,EndsIn w B z):JointsAt w x (js.map (fun z=>z.2.2)):=by
 rcases h.2 with ⟨h1,h2⟩ | ⟨g,cap,cur,h1,h2,h3,h4,h5,_⟩
 ·have:js=[]:=List.eq_nil_of_length_eq_zero h2;subst this;exact ⟨Nat.zero_le _,fun p hp=>(by cases hp),Or.inl rfl⟩
 ·cases h1;refine ⟨by rw [List.length_map];exact Nat.le_trans h4 h5,fun p hp=>?_,Or.inr ⟨g,0,rfl,fun i hi=>?_⟩⟩
  ·obtain ⟨z,hz,rfl⟩:=List.mem_map.1 hp;have:=hn z hz;unfold maxLen;omega
  ·rw [List.length_map] at hi;have hc:=h.cells (g:=g) rfl;have hg:∀ j,j<3->∀ u,(encJ js[i])[j]? = some u->w.cell? ⟨g,0+i*3+j,none⟩=some u:=by
    intro j hj u hu;have:=hc (i*3+j) u ((flat_get encJ 3 (fun _=>rfl) js i j hi hj).trans hu)
    rw [addr_at] at this;have e:0+(i*3+j)=0+i*3+j:=by omega
    rw [e] at this;exact this
   rw [List.getElem_map];exact ⟨hg 0 (by omega) _ rfl,hg 1 (by omega) _ rfl,_,_,hg 2 (by omega) _ rfl,(he js[i] (List.getElem_mem hi)).1⟩
def NetKeep (B:Nat)(w':World)(xp xj:Option Addr)(ps:List MPiece)(js:List MJoint):Prop := ∀ u:World,(∀ b,B<=b->b<w'.heap.size->u.heap[b]? = w'.heap[b]?)->PiecesAt u xp ps/\JointsAt u xj js
theorem Mk.pieceV {w0 w:World}{D C N:Nat}{ca:Option Addr}{cc:Nat}{bs:List Int}{at_:Nat}{xp xj:Option Addr}{yp yj:Nat}{ps:List MPiece}{js:List MJ}(h:Mk w0 w D C N ca cc bs at_ xp yp xj yj ps js)(ha:at_<=800000000)(hl:ps.length<=1000):
  Calls Tryz.prog 109 #[.pointer (some ⟨D,0,none⟩),.pointer (some ⟨N,0,none⟩)] w fun e w' => ∃ q:Nat,e = .returned (.int .i64 q)/\∃ xp' yp' at' ps',at'<=at_+2/\ps'.length=ps.length+1/\Mk w0 w' D C N ca cc bs at' xp' yp' xj yj ps' js/\q=ps.length/\(PsOk ps->PsOk ps'):=
 (pieceV_any D C N ca cc bs at_ xp yp xj yj ps js w h.net h.cur h.low h.d0 ⟨h.dC,h.dN,h.dT⟩ ha hl).mono (fun _ _ ⟨he,xp',yp',p,at',h1,h2,h3,h4,h5,h6,h7⟩=>⟨ps.length,he,xp',yp',at',ps++[p],h3,by simp,⟨h1,h2,h.low,h4,h.dC,h.dN,h5,h.base.trans h6⟩,rfl,fun hp=>hp.push h7⟩)
theorem st_base (q:Nat)(hq:q=0){js:List MJoint}(hj:js=[]):JsOk (js++[⟨1,⟨#[]⟩,[⟨(q:Int),0⟩]⟩])/\JInv (q+1) (js++[⟨1,⟨#[]⟩,[⟨(q:Int),0⟩]⟩]) [⟨q,1⟩]:=by
 subst hq hj;refine ⟨JsOk.nil.push ⟨by show (1:Int)<=1;omega,by show (1:Int)<=4;omega,rfl,fun _=>rfl,fun h=>absurd h (by show ¬ (3:Int)<=1;omega)⟩,JInv.base _⟩
theorem st_js {js:List MJoint}(h:JsOk js){s1 s2:ByteArray}{a b c d e f:MEnd}(h1:NmOk (100+js.length) s1)(h2:NmOk (100+(js.length+1)) s2):JsOk (js++[⟨3,s1,[a,b,c]⟩]++[⟨3,s2,[d,e,f]⟩]):=
 (h.push ⟨by show (1:Int)<=3;omega,by show (3:Int)<=4;omega,rfl,fun h=>absurd h (by show ¬ (3:Int)<3;omega),fun _=>h1⟩).push ⟨by show (1:Int)<=3;omega,by show (3:Int)<=4;omega,rfl,fun h=>absurd h (by show ¬ (3:Int)<3;omega),fun _=>by rw [List.length_append];exact h2⟩
theorem st_end {ps:List MPiece}{js:List MJoint}{q:Nat}(hl:ps.length=q+1)(hq:q<=9)(hjl:js.length<=20)(hP:PsOk ps)(hJ:JsOk js)(hI:JInv (q+1) js [⟨q,1⟩]):netF ps (js++[⟨1,⟨#[]⟩,[⟨(q:Int),1⟩]⟩])=(0,0):=by
 refine netF_drawn (by omega) (by omega) (by simp;omega) hP (hJ.push ⟨by show (1:Int)<=1;omega,by show (1:Int)<=4;omega,rfl,fun _=>rfl,fun h=>absurd h (by show ¬ (3:Int)<=1;omega)⟩) ?_
 rw [hl];exact hI.take 1 1 ⟨#[]⟩
def NetOutV (C:Nat)(ca:Option Addr)(cc:Nat)(bs:List Int)(at_ k:Nat)(w:World)(e:Ending)(w':World):Prop:=
 ∃ xp yp xj yj ps js at',e = .returned (.agg #[.slice xp (ps:List MPiece).length yp,.slice xj (js:List MJoint).length yj])/\NetKeep w.heap.size w' xp xj ps js/\(1<=ps.length/\ps.length<=10/\(∀ p ∈ ps,1<=p.len/\p.len<=400)/\js.length<=100/\∀ j ∈ js,j.ends.length<=4)/\Cur w' C ca cc bs at'/\at'<=at_+k/\Only (fun k=>k=C) w w'/\netF ps js=(0,0)
def StInvV (W wr:World)(D C N:Nat)(ca:Option Addr)(cc:Nat)(bs:List Int)(at_ k q:Nat):Prop := ∃ xp yp xj yj ps js at',Mk W wr D C N ca cc bs at' xp yp xj yj ps js/\at'+6*k<=at_+22/\ps.length=q+1/\q+3*k<=9/\js.length+2*k<=7/\PsOk ps/\JsOk (js.map (fun z:MJ=>z.2.2))/\JInv (q+1) (js.map (fun z:MJ=>z.2.2)) [⟨q,1⟩]
theorem stationV_any (C:Nat)(ca:Option Addr)(cc:Nat)(bs:List Int)(at_:Nat)(w:World)(hc:Hid (Cur w C ca cc bs at_))(hlow:Hid (LowB C ca bs))(ha:at_<=700000000):
  Calls Tryz.prog 71 #[.pointer (some ⟨C,0,none⟩)] w (NetOutV C ca cc bs at_ 40 w):=by
 have hCz:=hc.out.lt
 go_enter Tryz.func71,Tryz.ntmps71
 go_wp2_with fail
 generalize hW:World.alloc (World.alloc w _) _=W;have hbW:Below w.heap.size w W:=by rw [<-hW];exact blo
 have HN0:Hid (NetS W C (w.heap.size+1) none 0 none 0 [] []):=by
  rw [<-hW];exact ⟨by omega,by simp [go_sem],by simp [go_sem],fun o=>by simp [go_sem],World.ownsRow_nil _ _ _ _,World.ownsRow_nil _ _ _ _,fun x hx=>(by cases hx),fun x hx=>(by cases hx),fun x hx=>(by cases hx)⟩
 have R0:W.cell? ⟨w.heap.size,0,none⟩=some (.slice none 0 0):=by rw [<-hW];simp [go_sem]
 have R1:W.cell? ⟨w.heap.size,1,none⟩=some (.slice none 0 0):=by rw [<-hW];simp [go_sem]
 have HRZ:Hid (∀ o,W.frozen? ⟨w.heap.size,o,none⟩=false):=fun o=>by rw [<-hW];simp [go_sem]
 have hzW:w.heap.size+1<W.heap.size:=by rw [<-hW];simp
 have HBW:=hidP hbW;have hwz:=hbW.size;clear hW hbW;obtain ⟨N,hN⟩:∃ N,w.heap.size+1=N:=⟨_,rfl⟩;obtain ⟨R,hR⟩:∃ R,w.heap.size=R:=⟨_,rfl⟩;rw [hN] at HN0 hzW ⊢;rw [hR] at R0 R1 HRZ ⊢;have hRN:R<N:=by omega
 have hRC:C<R:=by omega
 have HRw:Hid (w.heap.size<=R):=by unfold Hid;omega
 clear hN hR;refine (l5pieces_any C W).mono ?_;rintro e w1 ⟨rfl,d1,t1,hb1⟩;obtain ⟨D,hD⟩:∃ D,W.heap.size=D:=⟨_,rfl⟩;have HM1:Hid (Mk W w1 W.heap.size C N ca cc bs at_ none 0 none 0 [] []):=⟨HN0.out.below hb1,(hc.out.below HBW.out).below hb1,hlow.out,d1,by omega,by omega,t1,Only.of_below hb1⟩
 rw [hD] at HM1 ⊢;clear d1 t1 hb1 HN0 hD
 go_wp2_with fail
 refine (pick_any C ca cc bs at_ 3 w1 HM1.out.cur (by omega) (by omega)).mono ?_
 rintro e w2 ⟨x,at2,hx,rfl,hat2,hc2,ho2⟩;have HM2:=hidP (HM1.out.turn hc2 ho2);clear hc2 ho2 HM1;have hx3:x<3:=by omega
 clear hx
 go_wp2_with fail
 refine (HM2.out.pieceV (by omega) (by simp)).mono ?_
 rintro e w3 ⟨q,rfl,xp,yp,at3,ps,hat3,hps,hm3,hq0,hpo⟩;have HQ0:Hid (q=0):=hq0;have HPO:=hidP (hpo PsOk.nil);clear hq0 hpo;rw [List.length_nil] at hps;have hm3':∃ (xj:Option Addr) (yj:Nat) (js:List MJ),js.length<=0/\Mk W w3 D C N ca cc bs at3 xp yp xj yj ps js:=⟨none,0,[],by simp,hm3⟩
 obtain ⟨xj,yj,js,hjs,hm3'⟩:=hm3';have HM3:=hidP hm3';have n1:=hm3'.net.c1;have hN3:=hm3'.net.lt;clear hm3 hm3' HM2
 go_wp2_with (at_builtin;refine wpList_push (Wp:=w3.alloc (.cells #[.int .i64 (q:Int),.int .i64 0] 114)) rfl (.tmp 18) (.tmp 23) 24 rfl (N+1) 109 _ 3 48 Tryz.underlying24 Tryz.infoJoint rfl (by decide) (.slice xj js.length yj) js.length (flatJ js) rfl (HM3.out.net.oj.alloc _) (w3.heap.size+1) (by simp) [.int .i64 1,.string ⟨#[]⟩,.slice (some ⟨w3.heap.size,0,none⟩) 1 1] rfl rfl (by simp [Value.oneCell']) (by unfold maxLen;omega) (by omega) (by simp;omega) ?_;intro xj4 yj4 w4 ho4 hg4;obtain ⟨m1,m2⟩:=(HM3.out.net.below ((Below.refl _ _).alloc (Nat.le_refl _) _)).rowJ hg4)
 have HM4:Hid (Mk W (w4.setCell ⟨N,1,none⟩ (.slice xj4 (js.length+1) yj4)) D C N ca cc bs at3 xp yp xj4 yj4 ps (js++[(some ⟨w3.heap.size,0,none⟩,1,⟨1,⟨#[]⟩,[⟨q,0⟩]⟩)])):=
  (HM3.out.below ((Below.refl _ _).alloc (Nat.le_refl _) _)).pushJ hg4 (by rw [<-flatJ_push];exact ho4) (Nat.zero_le _) (endsIn_new (by omega) (heap_alloc_new _ _) rfl (by show 1<=4;omega))
 have HI0:Hid (StInvV W (w4.setCell ⟨N,1,none⟩ (.slice xj4 (js.length+1) yj4)) D C N ca cc bs at_ (1+x) q):=by
  have hq0:=HQ0.out;have hj0:js=[]:=List.eq_nil_of_length_eq_zero (by omega)
  refine ⟨_,_,_,_,_,_,_,HM4.out,by omega,by omega,by omega,by simp;omega,HPO.out,?_,?_⟩
  ·rw [List.map_append];exact (st_base q hq0 (by rw [hj0];rfl)).1
  ·rw [List.map_append];exact (st_base q hq0 (by rw [hj0];rfl)).2
 generalize w4.setCell ⟨N,1,none⟩ (.slice xj4 (js.length+1) yj4)=w5 at HI0 ⊢;clear HM4 HM3 hg4 ho4 m1 m2 n1 hN3 hjs hps hat3 HQ0 HPO
 go_loopw [5,6] (fun kk pp wr => ∃ (k q:Nat),kk = .int .i64 k/\pp = .int .i64 q/\k<=3/\Hid (StInvV W wr D C N ca cc bs at_ k q)) (fun kk _ _=>(intOf kk).toNat)
 case atStart=>exact ⟨1+x,q,by go_num,rfl,by omega,HI0⟩
 case round =>
  clear HI0;obtain ⟨k,q,rfl,rfl,hk3,HI⟩:=hrel;cases k with
  | zero =>
   obtain ⟨xp,yp,xj,yj,ps,js,at0,hm0,hat0,hps0,hps1,hjs,hpo,hjo,hji⟩:=HI.out;have HPO:=hidP hpo;have HJO:=hidP hjo;have HJI:=hidP hji;clear hpo hjo hji;have HPS:=hidP hps0;have hps9:1<=ps.length/\ps.length<=10:=by omega
   clear hps0;have HM:=hidP hm0;have n0:=hm0.net.c0;have n1:=hm0.net.c1;have hNr:=hm0.net.lt;have hRr:wr.heap[R]? = W.heap[R]? := hm0.base.block R (by omega) (by omega)
   have q0:=(World.cell?_of_block (w:=W) (a:=⟨R,0,none⟩) hRr).trans R0;have q1:=(World.cell?_of_block (w:=W) (a:=⟨R,1,none⟩) hRr).trans R1;have HQZ:Hid (∀ o,wr.frozen? ⟨R,o,none⟩=false):=fun o=>(World.frozen?_of_block (w:=W) (a:=⟨R,o,none⟩) hRr).trans (HRZ.out o)
   have hWr:=hm0.base.size;clear hm0 HI hRr R0 R1;have hnR:N≠R:=by omega
   go_wp2_with (at_builtin;refine wpList_push (Wp:=wr.alloc (.cells #[.int .i64 (q:Int),.int .i64 1] 114)) rfl (.tmp 76) (.tmp 81) 24 rfl (N+1) 109 _ 3 48 Tryz.underlying24 Tryz.infoJoint rfl (by decide) (.slice xj js.length yj) js.length (flatJ js) rfl (HM.out.net.oj.alloc _) (wr.heap.size+1) (by simp) [.int .i64 1,.string ⟨#[]⟩,.slice (some ⟨wr.heap.size,0,none⟩) 1 1] rfl rfl (by simp [Value.oneCell']) (by unfold maxLen;omega) (by omega) (by simp;omega) ?_;intro xj8 yj8 w8 ho8 hg8;obtain ⟨m1,m2⟩:=(HM.out.net.below ((Below.refl _ _).alloc (Nat.le_refl _) _)).rowJ hg8;have hN8:w8.heap[N]? = wr.heap[N]? := ((hg8.block N (by simp;omega) (fun e=>(by have:=(HM.out.net.oj.lt N e.symm).1;omega))).trans (Below.heap_alloc _ _ _ hNr));have hR8:w8.heap[R]? = wr.heap[R]? := ((hg8.block R (by simp;omega) (fun e=>(by have:=(HM.out.net.oj.lt R e.symm).1;omega))).trans (Below.heap_alloc _ _ _ (by omega)));have m0:=(World.cell?_of_block (w:=wr) (a:=⟨N,0,none⟩) hN8).trans n0;have s0:=(World.cell?_of_block (w:=wr) (a:=⟨R,0,none⟩) hR8).trans q0;have s1:=(World.cell?_of_block (w:=wr) (a:=⟨R,1,none⟩) hR8).trans q1;have u0:=(World.frozen?_of_block (w:=wr) (a:=⟨R,0,none⟩) hR8).trans (HQZ.out 0);have u1:=(World.frozen?_of_block (w:=wr) (a:=⟨R,1,none⟩) hR8).trans (HQZ.out 1))
   have HM8:Hid (Mk W (w8.setCell ⟨N,1,none⟩ (.slice xj8 (js.length+1) yj8)) D C N ca cc bs at0 xp yp xj8 yj8 ps (js++[(some ⟨wr.heap.size,0,none⟩,1,⟨1,⟨#[]⟩,[⟨q,1⟩]⟩)])):=
    (HM.out.below ((Below.refl _ _).alloc (Nat.le_refl _) _)).pushJ hg8 (by rw [<-flatJ_push];exact ho8) (Nat.zero_le _) (endsIn_new (by omega) (heap_alloc_new _ _) rfl (by show 1<=4;omega))
   have s0n:(w8.setCell ⟨N,1,none⟩ (.slice xj8 (js.length+1) yj8)).cell? ⟨R,0,none⟩=some (.slice none 0 0):=by rw [World.cell?_setCell_other _ _ _ _ (by simp)];exact s0
   have s1n:(w8.setCell ⟨N,1,none⟩ (.slice xj8 (js.length+1) yj8)).cell? ⟨R,1,none⟩=some (.slice none 0 0):=by rw [World.cell?_setCell_other _ _ _ _ (by simp)];exact s1
   generalize w8.setCell ⟨N,1,none⟩ (.slice xj8 (js.length+1) yj8)=wn at HM8 s0n s1n ⊢;refine bodyPost_ret (v:=.agg #[.slice xp ps.length yp,.slice xj8 (js.length+1) yj8]) (by simp [results,Tryz.results71,go_sem,s0n,s1n]) rfl ?_
   have hk:∀ b,b≠R->((wn.setCell ⟨R,0,none⟩ (.slice xp ps.length yp)).setCell ⟨R,1,none⟩ (.slice xj8 (js.length+1) yj8)).heap[b]? = wn.heap[b]? := fun b hb=>(Below.heap_setCell _ _ _ _ hb).trans (Below.heap_setCell _ _ _ _ hb)
   have hnet:=HM8.out.net.kept (w':=(wn.setCell ⟨R,0,none⟩ (.slice xp ps.length yp)).setCell ⟨R,1,none⟩ (.slice xj8 (js.length+1) yj8)) (fun b h1 _=>hk b (by omega))
   have hw:=HRw.out;refine ⟨xp,yp,xj8,yj8,ps,(js++([(some ⟨wr.heap.size,0,none⟩,1,⟨1,⟨#[]⟩,[⟨q,1⟩]⟩)]:List MJ)).map (fun z:MJ=>z.2.2),at0,by simp,fun u hu=>(by have h:=hnet.kept (w':=u) (fun b h1 hz=>hu b (by omega) hz);exact ⟨piecesAt_of h.op (fun p hp=>(h.pn p hp).1),jointsAt_of h.oj h.jn h.je⟩),⟨by omega,by omega,fun p hp=>(hnet.pn p hp).2,by simp;omega,fun j hj=>by obtain ⟨z,hz,rfl⟩:=List.mem_map.1 hj;exact (hnet.je z hz).2.2⟩,HM8.out.cur.above hlow.out (fun k hk'=>hk k (by omega)),by omega,?_,by rw [List.map_append];exact st_end HPS.out (by omega) (by simp;omega) HPO.out HJO.out HJI.out⟩
   have h1:Only (fun k=>k=C) w wn:=⟨HM8.out.base.os.trans HBW.out.os,HM8.out.base.tape.trans HBW.out.tape,HM8.out.base.output.trans HBW.out.output,Nat.le_trans HBW.out.size HM8.out.base.size,fun k hk1 hk2=>(HM8.out.base.block k (by omega) (by omega)).trans (HBW.out.block k hk1)⟩
   exact (h1.setCell (p:=⟨R,0,none⟩) (Or.inr hw) _).setCell (p:=⟨R,1,none⟩) (Or.inr hw) _
  | succ k =>
   obtain ⟨xp0,yp0,xj,yj,ps0,js,at0,hm0,hat0,hps0,hps1,hjs,hpo,hjo,hji⟩:=HI.out;have HPO:=hidP hpo;have HJO:=hidP hjo;have HJI:=hidP hji;clear hpo hjo hji;have HMa:=hidP hm0;clear hm0 HI;have hk1:(0:Int)<((k+1:Nat):Int):=by omega
   go_wp2_with fail
   refine (HMa.out.pieceV (by omega) (by omega)).mono ?_
   rintro e w5a ⟨qa,rfl,xp1,yp1,at1,ps1,hat1,hpl1,hm1,hqa,hpoa⟩;have HPOa:=hidP (hpoa HPO.out);have HQa:Hid (qa=q+1):=by unfold Hid;omega
   clear hpoa hqa;have HMb:=hidP hm1;clear hm1 HMa
   go_wp2_with fail
   refine (HMb.out.pieceV (by omega) (by omega)).mono ?_
   rintro e w5b ⟨qb,rfl,xp2,yp2,at2',ps2,hat2',hpl2,hm2,hqb,hpob⟩;have HPOb:=hidP (hpob HPOa.out);have HQb:Hid (qb=q+2):=by unfold Hid;omega
   clear hpob hqb;have HMc:=hidP hm2;clear hm2 HMb
   go_wp2_with fail
   refine (HMc.out.pieceV (by omega) (by omega)).mono ?_
   rintro e wk ⟨qc,rfl,xp,yp,at4,ps,hat4,hpl,hm4,hqc,hpoc⟩;have HPOc:=hidP (hpoc HPOb.out);have HQc:Hid (qc=q+3):=by unfold Hid;omega
   clear hpoc hqc;have HMr:=hidP hm4;clear hm4 HMc;have hjl:js.length<=20:=by omega
   go_wp2_with fail
   have n1:=HMr.out.net.c1;have hNr:=HMr.out.net.lt;have HNM:Hid (∀ (c:Value) (u:World),Calls Tryz.prog 73 #[c,.int .i64 (100+(js.length:Int))] u fun e w'=>(∃ s:ByteArray,e = .returned (.string s)/\NmOk (100+js.length) s)/\Below u.heap.size u w'):=fun c u=>by
    have h:=nameV_any c (100+js.length) u (by omega)
    rw [Int.natCast_add] at h;exact h
   go_cut [] (fun wx => ∃ xj' yj' js',js'.length=js.length+1/\Hid (Mk W wx D C N ca cc bs at4 xp yp xj' yj' ps js')/\Hid (∃ s,NmOk (100+js.length) s/\js'.map (fun z:MJ=>z.2.2)=js.map (fun z:MJ=>z.2.2)++[⟨3,s,[⟨(q:Int),1⟩,⟨(qa:Int),0⟩,⟨(qb:Int),0⟩]⟩]))
   case first =>
    obtain ⟨S,hS⟩:∃ S:World->Prop,∀ u,S u↔u.cell? ⟨N,1,none⟩=some (.slice xj js.length yj):=⟨_,fun _=>Iff.rfl⟩
    have HS0:=hidP hS;have r0:∀ u:Held S,World.cell? u.val ⟨N,1,none⟩=some (.slice xj js.length yj):=fun u=>(hS u.val).1 u.2
    have hS1:S wk.drew:=(hS _).2 n1;have hne:=held_ne hS1;clear hS;refine wp_region_tree (fun w' => ∃ u:Held S,w'=u.val) 17 (by kernel_rfl) (by kernel_rfl) (held_some hS1) ?_
    (refine wpT_sea 0 ?_;intro K hK;go_big_quiet_op;go_big_quiet_on);(refine wpT_sea 1 ?_;intro K hK;go_big_quiet_op;go_big_quiet_on);(refine wpT_sea 2 ?_;intro K hK;go_big_quiet_op;go_big_quiet_on);(refine wpT_sea 3 ?_;intro K hK;go_big_quiet_op;go_big_quiet_on);(refine wpT_sea 4 ?_;intro K hK;go_big_quiet_op;go_big_quiet_on);(refine wpT_sea 5 ?_;intro K hK;go_big_quiet_op;go_big_quiet_on);(refine wpT_sea 6 ?_;intro K hK;go_big_quiet_op;go_big_quiet_on)
    (refine wpT_sea 8 ?_;intro K hK;go_big_quiet_op;go_big_quiet_on);(refine wpT_sea 9 ?_;intro K hK;go_big_quiet_op;go_big_quiet_on);(refine wpT_sea 10 ?_;intro K hK;go_big_quiet_op;go_big_quiet_on);(refine wpT_sea 11 ?_;intro K hK;go_big_quiet_op;go_big_quiet_on);(refine wpT_sea 12 ?_;intro K hK;go_big_quiet_op;go_big_quiet_on);(refine wpT_sea 13 ?_;intro K hK;go_big_quiet_op;go_big_quiet_on)
    refine wpT_loud2 7 14 (by rfl) (by rfl) (by kernel_rfl) (by kernel_rfl) (by kernel_rfl) ?_ ?_
    ·intro K hK
     go_wp2_with (go_at_call 73;refine (HNM.out _ _).mono ?_;rintro e w6 ⟨⟨s,rfl,hsz0⟩,hb6'⟩);have HNS:=hidP hsz0;have hsz:=hsz0.size;clear hsz0
     have hb6:Below wk.heap.size wk w6:=(Below.refl _ _).drew.trans hb6';have hz6:=hb6.size;have hS6:S w6:=(HS0.out _).2 (cell_later hb6 n1);refine hK _ _ (held_some hS6) ?_;clear hK K hb6';refine wpT_loud 14 (by rfl) (by kernel_rfl) (by kernel_rfl) ?_
     intro K hK
     go_wp2_with fail
     have hb7:Below wk.heap.size wk (World.alloc w6 (.cells #[.int .i64 (q:Int),.int .i64 1,.int .i64 (qa:Int),.int .i64 0,.int .i64 (qb:Int),.int .i64 0] 114)):=hb6.alloc (by omega) _
     have hg7:(World.alloc w6 (.cells #[.int .i64 (q:Int),.int .i64 1,.int .i64 (qa:Int),.int .i64 0,.int .i64 (qb:Int),.int .i64 0] 114)).heap[w6.heap.size]? = some (.cells #[.int .i64 (q:Int),.int .i64 1,.int .i64 (qa:Int),.int .i64 0,.int .i64 (qb:Int),.int .i64 0] 114 (0,0)):=heap_alloc_new _ _;have hS7:S (World.alloc w6 (.cells #[.int .i64 (q:Int),.int .i64 1,.int .i64 (qa:Int),.int .i64 0,.int .i64 (qb:Int),.int .i64 0] 114)):=(HS0.out _).2 (cell_later hb7 n1);have hgN:N<w6.heap.size:=by omega
     refine hK _ _ (held_some hS7) ?_;clear hK K hb6 hS6 hS1 n1;generalize World.alloc w6 (.cells #[.int .i64 (q:Int),.int .i64 1,.int .i64 (qa:Int),.int .i64 0,.int .i64 (qb:Int),.int .i64 0] 114)=w7 at hb7 hg7 hS7 ⊢;generalize w6.heap.size=g at hg7 hgN ⊢;have HX7:Hid (EndsIn w7 N (some ⟨g,0,none⟩,3,⟨3,s,[⟨(q:Int),1⟩,⟨(qa:Int),0⟩,⟨(qb:Int),0⟩]⟩)):=endsIn_new hgN hg7 rfl (by show 3<=4;omega)
     have HM7:=hidP (HMr.out.below hb7);have hz7:=hb7.size;clear hg7 hb7
     (refine wpT_sea 15 ?_;intro K hK;go_big_quiet_op;go_big_quiet_on)
     refine wpT_loud 16 (by rfl) (by kernel_rfl) (by kernel_rfl) ?_
     intro K hK
     go_wp2_with fail
     have hS8:∀ o,S (World.alloc w7 o):=fun o=>(HS0.out _).2 (cell_later ((Below.refl w7.heap.size w7).alloc (Nat.le_refl _) o) ((HS0.out _).1 hS7))
     refine hK _ _ (held_some (hS8 _)) ?_;clear hK K hS8 hS7;refine wpT_done (by kernel_rfl) ?_
     simp only [List.drop_succ_cons,List.drop_zero];refine wpList_push rfl (.tmp 37) (.tmp 52) 24 rfl (N+1) 109 _ 3 48 Tryz.underlying24 Tryz.infoJoint rfl (by decide) (.slice xj js.length yj) js.length (flatJ js) rfl HM7.out.net.oj w7.heap.size rfl [.int .i64 3,.string s,.slice (some ⟨g,0,none⟩) 3 3] rfl rfl (by simp [Value.oneCell']) (by unfold maxLen;omega) (by omega) (by omega) ?_
     intro xj8 yj8 w8 ho8 hg8;obtain ⟨m1,m2⟩:=HM7.out.net.rowJ hg8;have HM8:Hid (Mk W (w8.setCell ⟨N,1,none⟩ (.slice xj8 (js.length+1) yj8)) D C N ca cc bs at4 xp yp xj8 yj8 ps (js++[(some ⟨g,0,none⟩,3,⟨3,s,[⟨(q:Int),1⟩,⟨(qa:Int),0⟩,⟨(qb:Int),0⟩]⟩)])):=
      HM7.out.pushJ hg8 (by rw [<-flatJ_push];exact ho8) hsz HX7.out
     clear hg8 ho8 HX7 HM7
     go_wp2_with fail
     go_meet
     exact ⟨xj8,yj8,_,by simp,HM8,s,HNS.out,by rw [List.map_append];rfl⟩
    ·intro K hK
     go_wp2_with fail
     have hb6:Below wk.heap.size wk (World.alloc wk (.cells #[.int .i64 (q:Int),.int .i64 1,.int .i64 (qa:Int),.int .i64 0,.int .i64 (qb:Int),.int .i64 0] 114)).drew:=((Below.refl _ _).alloc (Nat.le_refl _) _).drew;have hg6:(World.alloc wk (.cells #[.int .i64 (q:Int),.int .i64 1,.int .i64 (qa:Int),.int .i64 0,.int .i64 (qb:Int),.int .i64 0] 114)).drew.heap[wk.heap.size]? = some (.cells #[.int .i64 (q:Int),.int .i64 1,.int .i64 (qa:Int),.int .i64 0,.int .i64 (qb:Int),.int .i64 0] 114 (0,0)):=heap_alloc_new wk _;have hS6:S (World.alloc wk (.cells #[.int .i64 (q:Int),.int .i64 1,.int .i64 (qa:Int),.int .i64 0,.int .i64 (qb:Int),.int .i64 0] 114)).drew:=(HS0.out _).2 (cell_later hb6 n1);have hgN:N<wk.heap.size:=hNr;have hgz:wk.heap.size<(World.alloc wk (.cells #[.int .i64 (q:Int),.int .i64 1,.int .i64 (qa:Int),.int .i64 0,.int .i64 (qb:Int),.int .i64 0] 114)).drew.heap.size:=by simp
     refine hK _ _ (held_some hS6) ?_;clear hK K;generalize (World.alloc wk (.cells #[.int .i64 (q:Int),.int .i64 1,.int .i64 (qa:Int),.int .i64 0,.int .i64 (qb:Int),.int .i64 0] 114)).drew=w6 at hb6 hg6 hS6 hgz ⊢;refine wpT_loud 7 (by rfl) (by kernel_rfl) (by kernel_rfl) ?_
     intro K hK
     go_wp2_with (go_at_call 73;refine (HNM.out _ _).mono ?_;rintro e w7 ⟨⟨s,rfl,hsz0⟩,hb7'⟩);have HNS:=hidP hsz0;have hsz:=hsz0.size;clear hsz0
     have hb7:Below wk.heap.size wk w7:=hb6.trans (hb7'.mono hb6.size);have hg7:=(hb7'.block _ hgz).trans hg6;have hS7:S w7:=(HS0.out _).2 (cell_later hb7 n1);refine hK _ _ (held_some hS7) ?_;clear hK K hb6 hb7' hg6 hS6 hS1 n1;obtain ⟨g,hgg⟩:∃ g,wk.heap.size=g:=⟨_,rfl⟩;have HZW:Hid (wk.heap.size<=g):=by unfold Hid;omega
     rw [hgg] at hg7 hgN ⊢;clear hgg;have HX7:Hid (EndsIn w7 N (some ⟨g,0,none⟩,3,⟨3,s,[⟨(q:Int),1⟩,⟨(qa:Int),0⟩,⟨(qb:Int),0⟩]⟩)):=endsIn_new hgN hg7 rfl (by show 3<=4;omega)
     have HM7:=hidP (HMr.out.below hb7);have hz7:=hb7.size;clear hg7 hb7
     (refine wpT_sea 15 ?_;intro K hK;go_big_quiet_op;go_big_quiet_on)
     refine wpT_loud 16 (by rfl) (by kernel_rfl) (by kernel_rfl) ?_
     intro K hK
     go_wp2_with fail
     have hS8:∀ o,S (World.alloc w7 o):=fun o=>(HS0.out _).2 (cell_later ((Below.refl w7.heap.size w7).alloc (Nat.le_refl _) o) ((HS0.out _).1 hS7))
     refine hK _ _ (held_some (hS8 _)) ?_;clear hK K hS8 hS7;refine wpT_done (by kernel_rfl) ?_
     simp only [List.drop_succ_cons,List.drop_zero];refine wpList_push rfl (.tmp 37) (.tmp 52) 24 rfl (N+1) 109 _ 3 48 Tryz.underlying24 Tryz.infoJoint rfl (by decide) (.slice xj js.length yj) js.length (flatJ js) rfl HM7.out.net.oj w7.heap.size rfl [.int .i64 3,.string s,.slice (some ⟨g,0,none⟩) 3 3] rfl rfl (by simp [Value.oneCell']) (by unfold maxLen;omega) (by omega) (by omega) ?_
     intro xj8 yj8 w8 ho8 hg8;obtain ⟨m1,m2⟩:=HM7.out.net.rowJ hg8;have HM8:Hid (Mk W (w8.setCell ⟨N,1,none⟩ (.slice xj8 (js.length+1) yj8)) D C N ca cc bs at4 xp yp xj8 yj8 ps (js++[(some ⟨g,0,none⟩,3,⟨3,s,[⟨(q:Int),1⟩,⟨(qa:Int),0⟩,⟨(qb:Int),0⟩]⟩)])):=
      HM7.out.pushJ hg8 (by rw [<-flatJ_push];exact ho8) hsz HX7.out
     clear hg8 ho8 HX7 HM7
     go_wp2_with fail
     go_meet
     exact ⟨xj8,yj8,_,by simp,HM8,s,HNS.out,by rw [List.map_append];rfl⟩
   case rest =>
    obtain ⟨xj',yj',js',hjl',HMr',HS1'⟩:=hcut;clear HMr n1 HNM hNr;have hm':∃ (xj:Option Addr) (yj:Nat) (js2:List MJ) (wk:World),wk=wc/\js2.length=js.length+1/\Mk W wk D C N ca cc bs at4 xp yp xj yj ps js2/\(∃ s,NmOk (100+js.length) s/\js2.map (fun z:MJ=>z.2.2)=js.map (fun z:MJ=>z.2.2)++[⟨3,s,[⟨(q:Int),1⟩,⟨(qa:Int),0⟩,⟨(qb:Int),0⟩]⟩]):=⟨xj',yj',js',wc,rfl,hjl',HMr'.out,HS1'.out⟩
    clear HMr' hjl' HS1';obtain ⟨xj,yj,js2,wk,hwk,hjl2,hm',hs1⟩:=hm';have HS1:=hidP hs1;have HL2:Hid (js2.length=js.length+1):=hjl2;clear hs1;have HMr:=hidP hm';rw [<-hwk];have hjs2:js2.length+2*k<=6:=by omega
    clear hwk hm' hjl2 hjs hjl;have hjl:js2.length<=20:=by omega
    go_wp2_with fail
    have n1:=HMr.out.net.c1;have hNr:=HMr.out.net.lt;have HNM:Hid (∀ (c:Value) (u:World),Calls Tryz.prog 73 #[c,.int .i64 (100+(js2.length:Int))] u fun e w'=>(∃ s:ByteArray,e = .returned (.string s)/\NmOk (100+js2.length) s)/\Below u.heap.size u w'):=fun c u=>by
     have h:=nameV_any c (100+js2.length) u (by omega)
     rw [Int.natCast_add] at h;exact h
    go_cut [] (fun wx => ∃ xj' yj' js',js'.length=js2.length+1/\Hid (Mk W wx D C N ca cc bs at4 xp yp xj' yj' ps js')/\Hid (∃ s,NmOk (100+js2.length) s/\js'.map (fun z:MJ=>z.2.2)=js2.map (fun z:MJ=>z.2.2)++[⟨3,s,[⟨(qc:Int),0⟩,⟨(qa:Int),1⟩,⟨(qb:Int),1⟩]⟩]))
    case first =>
     obtain ⟨S,hS⟩:∃ S:World->Prop,∀ u,S u↔u.cell? ⟨N,1,none⟩=some (.slice xj js2.length yj):=⟨_,fun _=>Iff.rfl⟩
     have HS0:=hidP hS;have r0:∀ u:Held S,World.cell? u.val ⟨N,1,none⟩=some (.slice xj js2.length yj):=fun u=>(hS u.val).1 u.2
     have hS1:S wk.drew:=(hS _).2 n1;have hne:=held_ne hS1;clear hS;refine wp_region_tree (fun w' => ∃ u:Held S,w'=u.val) 17 (by kernel_rfl) (by kernel_rfl) (held_some hS1) ?_
     (refine wpT_sea 0 ?_;intro K hK;go_big_quiet_op;go_big_quiet_on);(refine wpT_sea 1 ?_;intro K hK;go_big_quiet_op;go_big_quiet_on);(refine wpT_sea 2 ?_;intro K hK;go_big_quiet_op;go_big_quiet_on);(refine wpT_sea 3 ?_;intro K hK;go_big_quiet_op;go_big_quiet_on);(refine wpT_sea 4 ?_;intro K hK;go_big_quiet_op;go_big_quiet_on);(refine wpT_sea 5 ?_;intro K hK;go_big_quiet_op;go_big_quiet_on);(refine wpT_sea 6 ?_;intro K hK;go_big_quiet_op;go_big_quiet_on)
     (refine wpT_sea 8 ?_;intro K hK;go_big_quiet_op;go_big_quiet_on);(refine wpT_sea 9 ?_;intro K hK;go_big_quiet_op;go_big_quiet_on);(refine wpT_sea 10 ?_;intro K hK;go_big_quiet_op;go_big_quiet_on);(refine wpT_sea 11 ?_;intro K hK;go_big_quiet_op;go_big_quiet_on);(refine wpT_sea 12 ?_;intro K hK;go_big_quiet_op;go_big_quiet_on);(refine wpT_sea 13 ?_;intro K hK;go_big_quiet_op;go_big_quiet_on)
     refine wpT_loud2 7 14 (by rfl) (by rfl) (by kernel_rfl) (by kernel_rfl) (by kernel_rfl) ?_ ?_
     ·intro K hK
      go_wp2_with (go_at_call 73;refine (HNM.out _ _).mono ?_;rintro e w6 ⟨⟨s,rfl,hsz0⟩,hb6'⟩);have HNS:=hidP hsz0;have hsz:=hsz0.size;clear hsz0
      have hb6:Below wk.heap.size wk w6:=(Below.refl _ _).drew.trans hb6';have hz6:=hb6.size;have hS6:S w6:=(HS0.out _).2 (cell_later hb6 n1);refine hK _ _ (held_some hS6) ?_;clear hK K hb6';refine wpT_loud 14 (by rfl) (by kernel_rfl) (by kernel_rfl) ?_
      intro K hK
      go_wp2_with fail
      have hb7:Below wk.heap.size wk (World.alloc w6 (.cells #[.int .i64 (qc:Int),.int .i64 0,.int .i64 (qa:Int),.int .i64 1,.int .i64 (qb:Int),.int .i64 1] 114)):=hb6.alloc (by omega) _
      have hg7:(World.alloc w6 (.cells #[.int .i64 (qc:Int),.int .i64 0,.int .i64 (qa:Int),.int .i64 1,.int .i64 (qb:Int),.int .i64 1] 114)).heap[w6.heap.size]? = some (.cells #[.int .i64 (qc:Int),.int .i64 0,.int .i64 (qa:Int),.int .i64 1,.int .i64 (qb:Int),.int .i64 1] 114 (0,0)):=heap_alloc_new _ _;have hS7:S (World.alloc w6 (.cells #[.int .i64 (qc:Int),.int .i64 0,.int .i64 (qa:Int),.int .i64 1,.int .i64 (qb:Int),.int .i64 1] 114)):=(HS0.out _).2 (cell_later hb7 n1);have hgN:N<w6.heap.size:=by omega
      refine hK _ _ (held_some hS7) ?_;clear hK K hb6 hS6 hS1 n1;generalize World.alloc w6 (.cells #[.int .i64 (qc:Int),.int .i64 0,.int .i64 (qa:Int),.int .i64 1,.int .i64 (qb:Int),.int .i64 1] 114)=w7 at hb7 hg7 hS7 ⊢;generalize w6.heap.size=g at hg7 hgN ⊢;have HX7:Hid (EndsIn w7 N (some ⟨g,0,none⟩,3,⟨3,s,[⟨(qc:Int),0⟩,⟨(qa:Int),1⟩,⟨(qb:Int),1⟩]⟩)):=endsIn_new hgN hg7 rfl (by show 3<=4;omega)
      have HM7:=hidP (HMr.out.below hb7);have hz7:=hb7.size;clear hg7 hb7
      (refine wpT_sea 15 ?_;intro K hK;go_big_quiet_op;go_big_quiet_on)
      refine wpT_loud 16 (by rfl) (by kernel_rfl) (by kernel_rfl) ?_
      intro K hK
      go_wp2_with fail
      have hS8:∀ o,S (World.alloc w7 o):=fun o=>(HS0.out _).2 (cell_later ((Below.refl w7.heap.size w7).alloc (Nat.le_refl _) o) ((HS0.out _).1 hS7))
      refine hK _ _ (held_some (hS8 _)) ?_;clear hK K hS8 hS7;refine wpT_done (by kernel_rfl) ?_
      simp only [List.drop_succ_cons,List.drop_zero];refine wpList_push rfl (.tmp 56) (.tmp 71) 24 rfl (N+1) 109 _ 3 48 Tryz.underlying24 Tryz.infoJoint rfl (by decide) (.slice xj js2.length yj) js2.length (flatJ js2) rfl HM7.out.net.oj w7.heap.size rfl [.int .i64 3,.string s,.slice (some ⟨g,0,none⟩) 3 3] rfl rfl (by simp [Value.oneCell']) (by unfold maxLen;omega) (by omega) (by omega) ?_
      intro xj8 yj8 w8 ho8 hg8;obtain ⟨m1,m2⟩:=HM7.out.net.rowJ hg8;have HM8:Hid (Mk W (w8.setCell ⟨N,1,none⟩ (.slice xj8 (js2.length+1) yj8)) D C N ca cc bs at4 xp yp xj8 yj8 ps (js2++[(some ⟨g,0,none⟩,3,⟨3,s,[⟨(qc:Int),0⟩,⟨(qa:Int),1⟩,⟨(qb:Int),1⟩]⟩)])):=
       HM7.out.pushJ hg8 (by rw [<-flatJ_push];exact ho8) hsz HX7.out
      clear hg8 ho8 HX7 HM7
      go_wp2_with fail
      go_meet
      exact ⟨xj8,yj8,_,by simp,HM8,s,HNS.out,by rw [List.map_append];rfl⟩
     ·intro K hK
      go_wp2_with fail
      have hb6:Below wk.heap.size wk (World.alloc wk (.cells #[.int .i64 (qc:Int),.int .i64 0,.int .i64 (qa:Int),.int .i64 1,.int .i64 (qb:Int),.int .i64 1] 114)).drew:=((Below.refl _ _).alloc (Nat.le_refl _) _).drew;have hg6:(World.alloc wk (.cells #[.int .i64 (qc:Int),.int .i64 0,.int .i64 (qa:Int),.int .i64 1,.int .i64 (qb:Int),.int .i64 1] 114)).drew.heap[wk.heap.size]? = some (.cells #[.int .i64 (qc:Int),.int .i64 0,.int .i64 (qa:Int),.int .i64 1,.int .i64 (qb:Int),.int .i64 1] 114 (0,0)):=heap_alloc_new wk _;have hS6:S (World.alloc wk (.cells #[.int .i64 (qc:Int),.int .i64 0,.int .i64 (qa:Int),.int .i64 1,.int .i64 (qb:Int),.int .i64 1] 114)).drew:=(HS0.out _).2 (cell_later hb6 n1);have hgN:N<wk.heap.size:=hNr;have hgz:wk.heap.size<(World.alloc wk (.cells #[.int .i64 (qc:Int),.int .i64 0,.int .i64 (qa:Int),.int .i64 1,.int .i64 (qb:Int),.int .i64 1] 114)).drew.heap.size:=by simp
      refine hK _ _ (held_some hS6) ?_;clear hK K;generalize (World.alloc wk (.cells #[.int .i64 (qc:Int),.int .i64 0,.int .i64 (qa:Int),.int .i64 1,.int .i64 (qb:Int),.int .i64 1] 114)).drew=w6 at hb6 hg6 hS6 hgz ⊢;refine wpT_loud 7 (by rfl) (by kernel_rfl) (by kernel_rfl) ?_
      intro K hK
      go_wp2_with (go_at_call 73;refine (HNM.out _ _).mono ?_;rintro e w7 ⟨⟨s,rfl,hsz0⟩,hb7'⟩);have HNS:=hidP hsz0;have hsz:=hsz0.size;clear hsz0
      have hb7:Below wk.heap.size wk w7:=hb6.trans (hb7'.mono hb6.size);have hg7:=(hb7'.block _ hgz).trans hg6;have hS7:S w7:=(HS0.out _).2 (cell_later hb7 n1);refine hK _ _ (held_some hS7) ?_;clear hK K hb6 hb7' hg6 hS6 hS1 n1;obtain ⟨g,hgg⟩:∃ g,wk.heap.size=g:=⟨_,rfl⟩;have HZW:Hid (wk.heap.size<=g):=by unfold Hid;omega
      rw [hgg] at hg7 hgN ⊢;clear hgg;have HX7:Hid (EndsIn w7 N (some ⟨g,0,none⟩,3,⟨3,s,[⟨(qc:Int),0⟩,⟨(qa:Int),1⟩,⟨(qb:Int),1⟩]⟩)):=endsIn_new hgN hg7 rfl (by show 3<=4;omega)
      have HM7:=hidP (HMr.out.below hb7);have hz7:=hb7.size;clear hg7 hb7
      (refine wpT_sea 15 ?_;intro K hK;go_big_quiet_op;go_big_quiet_on)
      refine wpT_loud 16 (by rfl) (by kernel_rfl) (by kernel_rfl) ?_
      intro K hK
      go_wp2_with fail
      have hS8:∀ o,S (World.alloc w7 o):=fun o=>(HS0.out _).2 (cell_later ((Below.refl w7.heap.size w7).alloc (Nat.le_refl _) o) ((HS0.out _).1 hS7))
      refine hK _ _ (held_some (hS8 _)) ?_;clear hK K hS8 hS7;refine wpT_done (by kernel_rfl) ?_
      simp only [List.drop_succ_cons,List.drop_zero];refine wpList_push rfl (.tmp 56) (.tmp 71) 24 rfl (N+1) 109 _ 3 48 Tryz.underlying24 Tryz.infoJoint rfl (by decide) (.slice xj js2.length yj) js2.length (flatJ js2) rfl HM7.out.net.oj w7.heap.size rfl [.int .i64 3,.string s,.slice (some ⟨g,0,none⟩) 3 3] rfl rfl (by simp [Value.oneCell']) (by unfold maxLen;omega) (by omega) (by omega) ?_
      intro xj8 yj8 w8 ho8 hg8;obtain ⟨m1,m2⟩:=HM7.out.net.rowJ hg8;have HM8:Hid (Mk W (w8.setCell ⟨N,1,none⟩ (.slice xj8 (js2.length+1) yj8)) D C N ca cc bs at4 xp yp xj8 yj8 ps (js2++[(some ⟨g,0,none⟩,3,⟨3,s,[⟨(qc:Int),0⟩,⟨(qa:Int),1⟩,⟨(qb:Int),1⟩]⟩)])):=
       HM7.out.pushJ hg8 (by rw [<-flatJ_push];exact ho8) hsz HX7.out
      clear hg8 ho8 HX7 HM7
      go_wp2_with fail
      go_meet
      exact ⟨xj8,yj8,_,by simp,HM8,s,HNS.out,by rw [List.map_append];rfl⟩
    case rest =>
     obtain ⟨xj',yj',js',hjl',HMr',HS2⟩:=hcut;have HIN:Hid (StInvV W wc D C N ca cc bs at_ k qc):=by
      obtain ⟨s1,hs1,he1⟩:=HS1.out;obtain ⟨s2,hs2,he2⟩:=HS2.out;have a1:=HQa.out;have a2:=HQb.out;have a3:=HQc.out;have hl2:=HL2.out;rw [he1] at he2;have hl1:(js.map (fun z:MJ=>z.2.2)).length=js.length:=List.length_map _
      subst a1 a2 a3;exact ⟨_,_,_,_,_,_,_,HMr'.out,by omega,by omega,by omega,by omega,HPOc.out,by rw [he2];exact st_js HJO.out (by rw [hl1];exact hs1) (by rw [hl1,<-hl2];exact hs2),by rw [he2];exact HJI.out.round s1 s2⟩
     clear HMr' HMr n1 HNM hNr HS1 HS2 HQa HQb HQc HL2 HPO HPOa HPOb HPOc HJO HJI;have hkk:((k+1:Nat):Int)=(k:Int)+1:=by omega
     have hkb:(k:Int)<=3:=by omega
     go_wp2_with fail
     go_roundw
     case rel=>exact ⟨k,qc,by go_num,rfl,by omega,HIN⟩
     case measure=>simp [intOf]
end Go.Proofs.YtmkdgnmmebldgaaGreatDoor
