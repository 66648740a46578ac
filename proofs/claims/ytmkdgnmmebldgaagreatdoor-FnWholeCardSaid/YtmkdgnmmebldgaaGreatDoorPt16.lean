import Derived.Test.YtmkdgnmmebldgaaGreatDoorPt15
import Derived.Test.YtmkdgnmmebldgaaGreatDoorPt4
set_option maxRecDepth 100000
set_option maxHeartbeats 8000000
namespace Go.Proofs.YtmkdgnmmebldgaaGreatDoor
open Go.RowKit Go.Deep
theorem owns_kept2 {w w':World}{B e s n:Nat}{v:Value}{xs:List Value}(h:w.ownsRow B e s v n xs)(hk:∀ b,v.ownBlock=some b→w'.heap[b]? = w.heap[b]?):w'.ownsRow B e s v n xs:=by
 refine ⟨h.1,?_⟩
 rcases h.2 with h2 | ⟨g,cap,cur,h1,h2,h3,h4⟩
 ·exact Or.inl h2
 ·exact Or.inr ⟨g,cap,cur,h1,h2,(hk g (by rw [h1];rfl)).trans h3,h4⟩
def DonePost (F Bo no:Nat)(vo:Value)(oc:List Value)(w:World)(fl:List MFlank)(news:Option Addr→Nat→List Value)(e:Ending)(w':World):Prop:=
 e = .returned (.tuple #[])∧∃ x' y' xf yf,w'.cell? ⟨F,4,none⟩=some (.slice x' (no+1) y')∧w'.ownsRow Bo 44 8 (.slice x' (no+1) y') (no+1) (oc++news xf yf) ∧
  w'.ownsRow w.heap.size 50 4 (.slice xf fl.length yf) fl.length (flatF fl)∧Tame w vo (.slice x' (no+1) y') ∧
  (∀ o,o≠4→o≠6→w'.cell? ⟨F,o,none⟩=w.cell? ⟨F,o,none⟩)∧(∀ o,w'.frozen? ⟨F,o,none⟩=w.frozen? ⟨F,o,none⟩)∧(∃ v,w'.cell? ⟨F,6,none⟩=some v)∧Only (fun k=>k=F∨vo.ownBlock=some k) w w'
theorem done_any (w0:World)(F:Nat)(pa ja sa:Option Addr)(pc jc sc:Nat)(ps:List MPiece)(js:List MJoint)(ss:List MPiece)(R:Hid (Right ps js ss))(HP:Hid (PiecesAt w0 pa ps))(HJ:Hid (JointsAt w0 ja js))(HS:Hid (PiecesAt w0 sa ss))(hF0:w0.heap.size≤F)
  (hfl:Hid (∀ (B Q:Nat) (la:Option Addr) (lc:Nat) (lies:List MLie) (pl:Int) (n:Nat),LB w0 B F Q pa ja sa la ps js ss lies→LookSpec w0 B F Q pa ja sa la pc jc sc lc ps js ss lies pl n))
  (a0 a1 a2 a3 a4:Option Addr) (k0 k1 k2 k3 k4:Nat) (st sp:Int) (steps lies:List MEnd) (crosses:List Int) (parts over:List MPart)
  (xo:Option Addr) (yo no Bo:Nat) (oc:List Value) (w:World) (hb:Hid (Below w0.heap.size w0 w))
  (c0:w.cell? ⟨F,0,none⟩=some (.slice pa ps.length pc)) (c1:w.cell? ⟨F,1,none⟩=some (.slice ja js.length jc)) (c2:w.cell? ⟨F,2,none⟩=some (.slice sa ss.length sc))
  (c4:w.cell? ⟨F,4,none⟩=some (.slice xo no yo)) (z4:w.frozen? ⟨F,4,none⟩=false) (s6:∃ v,w.cell? ⟨F,6,none⟩=some v) (z6:w.frozen? ⟨F,6,none⟩=false)
  (hl:Hid (EndsAt w a1 lies)) (hla:Hid (lies=[]∨∀ b off,a1=some ⟨b,off,none⟩→b≠F)) (hln:lies.length≤120)
  (hlv:Hid (∀ l ∈ lies,∃ (j:Nat) (hj:j<js.length),l.piece=j∧js[j].kind=3∧(l.side=1∨l.side=2))) (hlu:Hid (∀ a ∈ lies,∀ b ∈ lies,a.piece=b.piece→a.side=b.side))
  (ho:Hid (w.ownsRow Bo 44 8 (.slice xo no yo) no oc)) (hno:no≤1000) (hBo:Bo≤w.heap.size) (hoF:Hid ((Value.slice xo no yo).ownBlock≠some F)) :
  Calls Tryz.prog 78 #[.pointer (some ⟨F,0,none⟩),.agg #[.int .i64 st,.int .i64 sp,.slice a0 steps.length k0,.slice a1 lies.length k1,.slice a2 crosses.length k2,.slice a3 parts.length k3,.slice a4 over.length k4,.slice none 0 0]] w (DonePost F Bo no (.slice xo no yo) oc w (flanksF ps js ss lies lies) (fun xf yf=>[.int .i64 st,.int .i64 sp,.slice a0 steps.length k0,.slice a1 lies.length k1,.slice a2 crosses.length k2,.slice a3 parts.length k3,.slice a4 over.length k4,.slice xf (flanksF ps js ss lies lies).length yf])):=by
 have hFw:=cellLt c0
 dsimp only at hFw
 go_enter Tryz.func78,Tryz.ntmps78
 go_wp2_with fail
 generalize hW:w.alloc _=W
 have hbW:Below w.heap.size w W:=by rw [← hW];exact blo
 have HRow:Hid (W.rowIs w.heap.size 44 8 (fun j=>(#[.int .i64 st,.int .i64 sp,.slice a0 steps.length k0,.slice a1 lies.length k1,.slice a2 crosses.length k2,.slice a3 parts.length k3,.slice a4 over.length k4,.slice none 0 0]:Array Value).getD j (.bool false))):=by rw [← hW];exact row_of_alloc2 w _ _
 have hzW:w.heap.size+1≤W.heap.size∧W.heap.size≤w.heap.size+1:=by rw [← hW];simp
 have HB:Hid (LB w0 W.heap.size F w.heap.size pa ja sa a1 ps js ss lies):=by
  refine ⟨HP.out,HJ.out,HS.out,hF0,hb.out.size,by omega,by omega,by omega,?_,by omega,hlu.out⟩
  rcases hla.out with h | h
  ·exact Or.inl h
  ·rcases hl.out.2 with h2 | ⟨b,off,h2,hc⟩
   ·exact Or.inl h2
   ·by_cases hl0:lies=[]
    ·exact Or.inl hl0
    ·refine Or.inr (fun b' off' e=>?_)
     have hb1:b'=b:=by rw [h2] at e;cases e;rfl
     subst hb1
     have h3:=cellLt (hc 0 (List.length_pos_iff.2 hl0)).1
     dsimp only at h3
     exact ⟨by omega,h b' off' e,by omega⟩
 obtain ⟨v6,hv6⟩:=s6
 have HD0:Hid (LD w0 W W.heap.size F w.heap.size pa ja sa a1 pc jc sc k1 ps.length js.length ss.length lies none 0 (flanksF ps js ss lies (lies.take 0))):=by
  refine ⟨hb.out.trans (hbW.mono hb.out.size),Nat.le_refl _,cell_later hbW c0,cell_later hbW c1,cell_later hbW c2,HRow.out.cell (by omega),hl.out.below hbW,⟨v6,cell_later hbW hv6⟩,(hbW.frozen (p:=⟨F,6,none⟩) hFw).trans z6,HRow.out.cell (by omega),HRow.out.frozen 7,World.ownsRow_nil _ _ _ _⟩
 have HBt0:Hid (Between F w.heap.size W W):=Between.refl (by omega) (by omega)
 have hz1:=hzW.1
 have hz2:=hzW.2
 clear hW hzW
 go_loopw [10] (fun c wr => ∃ (k:Nat) (xf:Option Addr) (yf:Nat),k≤lies.length∧c = .int .i64 k∧Hid (LD w0 wr W.heap.size F w.heap.size pa ja sa a1 pc jc sc k1 ps.length js.length ss.length lies xf yf (flanksF ps js ss lies (lies.take k)))∧Hid (Between F w.heap.size W wr)) (fun c _=>lies.length-(intOf c).toNat)
 case atStart=>exact ⟨0,none,0,Nat.zero_le _,rfl,HD0,HBt0⟩
 case round =>
  clear HD0 HBt0
  obtain ⟨k,xf,yf,hk,rfl,HD,HBt⟩:=hrel
  have hbr:=HBt.out.only.size
  have hFr:F<wr.heap.size:=by omega
  by_cases hk':k<lies.length
  ·obtain ⟨bl,ol,hbl,hpl⟩:=HD.out.L.2.resolve_left (nz hk')
   subst hbl
   obtain ⟨d0,d1⟩:=hpl k hk'
   obtain ⟨j,hj,hpj,hkd,hsd⟩:=hlv.out _ (List.getElem_mem hk')
   rw [hpj] at d0
   have n1:=HD.out.c1
   have hdz:=cellLt d0
   dsimp only at hdz
   obtain ⟨bj,oj,hbj,hpcj⟩:=HJ.out.2.2.resolve_left (nz hj)
   obtain ⟨j1,j2,ea,ec,j3,j4⟩:=hpcj j hj
   have e3:=cell_later HD.out.base j3
   have hez:=cellLt e3
   dsimp only at hez
   have hjl:=R.out.nj
   subst hbj
   obtain ⟨v7,h6⟩:=HD.out.s6
   have zz6:=HD.out.z6
   have HEA:=hidP j4
   have hl3:js[j].ends.length=3:=by have:=(R.out.kind j hj).2.2;omega
   obtain ⟨t,ht,hts⟩:∃ t:Nat,t<3∧(3:Int)-lies[k].side=t:=by
    rcases hsd with h | h
    ·exact ⟨2,by omega,by omega⟩
    ·exact ⟨1,by omega,by omega⟩
   have hs1:1≤lies[k].side:=by omega
   have hs2:lies[k].side≤2:=by omega
   have htl:t<js[j].ends.length:=by omega
   have HE:Hid (endE js lies[k].piece.toNat (3-lies[k].side).toNat=js[j].ends[t]):=by unfold Hid;rw [hpj,hts,Int.toNat_natCast,Int.toNat_natCast,endE_at hj htl]
   have HV:Hid (ValidE ps js[j].ends[t]):=R.out.ends j hj t htl
   have HNx:=hidP (look_next ps js ss lies k hk')
   have HFn:Hid ((flanksF ps js ss lies (lies.take k)).length≤24000):=by
    have h1:=flanksF_len R.out lies (lies.take k) (fun l hl=>by
     obtain ⟨j',hj',e1,e2,e3⟩:=hlv.out l (List.mem_of_mem_take hl)
     have h3:js[j'].ends.length=3:=by have:=(R.out.kind j' hj').2.2;omega
     rw [e1,Int.toNat_natCast]
     rcases e3 with e3 | e3
     ·rw [e3,show ((3:Int)-1).toNat=2 from rfl,endE_at hj' (by omega)];exact R.out.ends j' hj' 2 (by omega)
     ·rw [e3,show ((3:Int)-2).toNat=1 from rfl,endE_at hj' (by omega)];exact R.out.ends j' hj' 1 (by omega))
    have h2:2*ps.length*(lies.take k).length≤200*120:=Nat.mul_le_mul (by have:=R.out.np;omega) (by rw [List.length_take];omega)
    exact Nat.le_trans h1 h2
   generalize flanksF ps js ss lies (lies.take k)=fl at HD HNx HFn
   clear hpl hpcj j1 j2 j3 j4 hlv
   go_wp2_with fail
   go_quiet (fail)
   generalize hW4:(wr.alloc _).drewN _=W4
   have hb4:Below wr.heap.size wr W4:=by rw [← hW4];exact blo
   have i0:W4.cell? ⟨wr.heap.size,0,none⟩=some (.int .i64 j):=by rw [← hW4];simp [go_sem]
   have i1:W4.cell? ⟨wr.heap.size,1,none⟩=some (.int .i64 lies[k].side):=by rw [← hW4];simp [go_sem]
   have HD4:=hidP (HD.out.below hb4)
   have HBt4:=hidP (HBt.out.later hb4)
   have g6:=cell_later hb4 h6
   have gz6:=HD4.out.z6
   have hF4:=cellLt g6
   dsimp only at hF4
   clear hW4 d0 d1 n1 e3 h6 zz6 hdz hez HD HBt
   go_wp2_with fail
   generalize hW5:W4.setCell ⟨F,6,none⟩ (.slice none 0 0)=W5
   have HK:Hid (LK w0 W5 W.heap.size F w.heap.size pa (some ⟨bj,oj,none⟩) sa (some ⟨bl,ol,none⟩) pc jc sc k1 ps.length js.length ss.length lies none 0 xf yf ([],fl)):=by rw [← hW5];exact LD.reset HB.out HD4.out
   have HBt5:Hid (Between F w.heap.size W W5):=by rw [← hW5];exact HBt4.out.set (by omega) _
   have m0:W5.cell? ⟨wr.heap.size,0,none⟩=some (.int .i64 j):=by rw [← hW5,World.cell?_setCell_other _ _ _ _ (by first | (simp;done) | (simp;omega))];exact i0
   have m1:W5.cell? ⟨wr.heap.size,1,none⟩=some (.int .i64 lies[k].side):=by rw [← hW5,World.cell?_setCell_other _ _ _ _ (by first | (simp;done) | (simp;omega))];exact i1
   clear hW5 i0 i1 g6 gz6 hF4 HD4 HBt4
   obtain ⟨be,oe,hbe,hpe⟩:=HEA.out.2.resolve_left (fun h=>by rw [h] at hl3;simp at hl3)
   subst hbe
   obtain ⟨g0,g1⟩:=(hpe.below HK.out.base) t htl
   have hti3:(t:Int)<3:=by omega
   have hti:(t:Int)<(js[j].ends.length:Int):=by omega
   have hzm:=cellLt m0
   dsimp only at hzm
   have HFl:=hidP (hfl.out W.heap.size w.heap.size (some ⟨bl,ol,none⟩) k1 lies j (depthR ps) HB.out ([],fl) js[j].ends[t] none 0 xf yf W5.drew (HK.out.below (Below.refl _ _).drew) (Seen.nil ps) HV (by have:=HFn.out;have:=R.out.np;simp only [List.length_nil];omega) (by unfold depthR;simp only [List.length_nil];omega))
   have hvf:∀ x,(Value.slice xf fl.length yf).ownBlock=some x→W.heap.size≤x:=fun x hx=>(HK.out.oF.lt x hx).1
   have HVF:=hidP hvf
   clear hpe hvf HEA
   rcases hsd with hv | hv
   ·have ht':t=2:=by omega
    subst ht'
    rw [hv] at m1
    have g0b:W5.cell? ⟨be,oe+4,none⟩=some (.int .i64 js[j].ends[2].piece):=g0
    have g1b:W5.cell? ⟨be,oe+5,none⟩=some (.int .i64 js[j].ends[2].side):=g1
    have g1c:W5.cell? ⟨be,oe+4+1,none⟩=some (.int .i64 js[j].ends[2].side):=g1
    clear hti hti3 hts hs1 hs2
    go_region_with (go_at_call 110;refine HFl.out.mono ?_;rintro e w6 ⟨rfl,⟨xs6,ys6,xf6,yf6,hk6,t6,t6'⟩,hT6⟩)
    all_goals
     have HK6:Hid (LD w0 w6 W.heap.size F w.heap.size pa (some ⟨bj,oj,none⟩) sa (some ⟨bl,ol,none⟩) pc jc sc k1 ps.length js.length ss.length lies xf6 yf6 (flanksF ps js ss lies (lies.take (k+1)))):=by
      have h:=hk6.forget
      rw [← HE.out,← hpj,HNx.out] at h
      exact h
     have HBt6:Hid (Between F w.heap.size W w6):=(HBt5.out.later (Below.refl _ _).drew).turn hT6 (fun x hx=>by cases hx) HVF.out
     clear hk6 t6 t6' hT6 m0 m1 g0 g1 g0b g1b g1c
     go_wp2_with fail
     go_roundw
     case rel=>exact ⟨k+1,xf6,yf6,by omega,by go_num,HK6,HBt6⟩
     case measure=>simp [intOf];omega
   ·have ht':t=1:=by omega
    subst ht'
    rw [hv] at m1
    have g0b:W5.cell? ⟨be,oe+2,none⟩=some (.int .i64 js[j].ends[1].piece):=g0
    have g1b:W5.cell? ⟨be,oe+3,none⟩=some (.int .i64 js[j].ends[1].side):=g1
    have g1c:W5.cell? ⟨be,oe+2+1,none⟩=some (.int .i64 js[j].ends[1].side):=g1
    clear hti hti3 hts hs1 hs2
    go_region_with (go_at_call 110;refine HFl.out.mono ?_;rintro e w6 ⟨rfl,⟨xs6,ys6,xf6,yf6,hk6,t6,t6'⟩,hT6⟩)
    all_goals
     have HK6:Hid (LD w0 w6 W.heap.size F w.heap.size pa (some ⟨bj,oj,none⟩) sa (some ⟨bl,ol,none⟩) pc jc sc k1 ps.length js.length ss.length lies xf6 yf6 (flanksF ps js ss lies (lies.take (k+1)))):=by
      have h:=hk6.forget
      rw [← HE.out,← hpj,HNx.out] at h
      exact h
     have HBt6:Hid (Between F w.heap.size W w6):=(HBt5.out.later (Below.refl _ _).drew).turn hT6 (fun x hx=>by cases hx) HVF.out
     clear hk6 t6 t6' hT6 m0 m1 g0 g1 g0b g1b g1c
     go_wp2_with fail
     go_roundw
     case rel=>exact ⟨k+1,xf6,yf6,by omega,by go_num,HK6,HBt6⟩
     case measure=>simp [intOf];omega
  ·have HT:Hid (lies.take k=lies):=List.take_of_length_le (by omega)
   rw [HT.out] at HD
   obtain ⟨fl,hfl'⟩:∃ fl,flanksF ps js ss lies lies=fl:=⟨_,rfl⟩
   rw [hfl'] at HD
   have HFE:=hidP hfl'
   clear hfl'
   have HOo:Hid (wr.ownsRow Bo 44 8 (.slice xo no yo) no oc):=owns_kept2 ho.out (fun b hb=>by
    have h1:=(ho.out.lt b hb).2
    have h2:b≠F:=fun e=>hoF.out (by rw [← e];exact hb)
    exact (HBt.out.only.block b (by omega) (by rintro (h | h) <;> omega)).trans (hbW.block b h1))
   have g4:wr.cell? ⟨F,4,none⟩=some (.slice xo no yo):=(HBt.out.kF 4 (by omega)).1.trans (cell_later hbW c4)
   have gz4:wr.frozen? ⟨F,4,none⟩=false:=(HBt.out.kF 4 (by omega)).2.trans ((hbW.frozen (p:=⟨F,4,none⟩) hFw).trans z4)
   have r0:wr.cell? ⟨w.heap.size,0,none⟩=some (.int .i64 st):=(HBt.out.kQ 0 (by omega)).1.trans (HRow.out.cell (by omega))
   have r1:wr.cell? ⟨w.heap.size,1,none⟩=some (.int .i64 sp):=(HBt.out.kQ 1 (by omega)).1.trans (HRow.out.cell (by omega))
   have r2:wr.cell? ⟨w.heap.size,2,none⟩=some (.slice a0 steps.length k0):=(HBt.out.kQ 2 (by omega)).1.trans (HRow.out.cell (by omega))
   have r3:wr.cell? ⟨w.heap.size,3,none⟩=some (.slice a1 lies.length k1):=HD.out.q3
   have r4:wr.cell? ⟨w.heap.size,4,none⟩=some (.slice a2 crosses.length k2):=(HBt.out.kQ 4 (by omega)).1.trans (HRow.out.cell (by omega))
   have r5:wr.cell? ⟨w.heap.size,5,none⟩=some (.slice a3 parts.length k3):=(HBt.out.kQ 5 (by omega)).1.trans (HRow.out.cell (by omega))
   have r6:wr.cell? ⟨w.heap.size,6,none⟩=some (.slice a4 over.length k4):=(HBt.out.kQ 6 (by omega)).1.trans (HRow.out.cell (by omega))
   have r7:wr.cell? ⟨w.heap.size,7,none⟩=some (.slice xf fl.length yf):=HD.out.f7
   have hQr:w.heap.size<wr.heap.size:=by omega
   have hneF:some F≠(Value.slice xo no yo).ownBlock:=fun e=>hoF.out e.symm
   clear HT hlv
   go_wp2_with fail
   go_region_law
    ((refine step_push (by rfl) (.tmp 42) (.tmp 44) 30 (by rfl) Bo 44 _ 8 160 Tryz.underlying30 Tryz.infoRoute (by rfl) (by decide) (.slice xo no yo) no oc (by rfl) HOo.out wr.heap.size (by rfl) [.int .i64 st,.int .i64 sp,.slice a0 steps.length k0,.slice a1 lies.length k1,.slice a2 crosses.length k2,.slice a3 parts.length k3,.slice a4 over.length k4,.slice xf fl.length yf] (by rfl) (by rfl) (by simp [Value.oneCell']) (by unfold maxLen;omega) (by omega) (by omega) ?_;intro x' y' w2 ho2 hg2 ht2;have h4:=hg2.cell g4 hneF;have h4z:=(World.frozen?_of_block (a:=⟨F,4,none⟩) (hg2.block F hFr hneF)).trans gz4;have HO2:=hidP ho2;have HG2:=hidP hg2;have HT2:=hidP ht2;clear ho2 hg2 ht2))
   all_goals
    go_wp2_with fail
    first
     | refine bodyPost_end (results_none rfl _ _ _) rfl ?_
     | go_end0
    unfold DonePost
    rw [HFE.out]
    refine ⟨rfl,x',y',xf,yf,World.cell?_setCell_same _ _ _ h4,?_,?_,HT2.out.later (by omega),?_,?_,?_,?_⟩
    ·exact ownsRow_setCell_other HO2.out (a:=⟨F,4,none⟩) (fun e=>(HT2.out F e).elim (fun h=>hoF.out h) (fun h=>by omega)) _
    ·exact owns_base (ownsRow_setCell_below (HD.out.oF.kept HG2.out (owns_ne (by decide) HD.out.oF HOo.out)) (by show F<W.heap.size;omega) _) (by omega)
    ·intro o h1 h2
     rw [World.cell?_setCell_other _ _ _ _ (by first | (simp;done) | (simp;omega))]
     exact (World.cell?_of_block (w:=wr) (HG2.out.block F hFr hneF)).trans ((HBt.out.kF o h2).1.trans (World.cell?_of_block (w:=w) (hbW.block F hFw)))
    ·intro o
     rw [World.frozen?_setCell]
     refine (World.frozen?_of_block (HG2.out.block F hFr hneF)).trans ?_
     by_cases h6:o=6
     ·subst h6
      rw [HD.out.z6,z6]
     ·exact (HBt.out.kF o h6).2.trans (World.frozen?_of_block (hbW.block F hFw))
    ·obtain ⟨v,hv⟩:=HD.out.s6
     refine ⟨v,?_⟩
     rw [World.cell?_setCell_other _ _ _ _ (by simp)]
     exact (World.cell?_of_block (w:=wr) (HG2.out.block F hFr hneF)).trans hv
    ·have hO:Only (fun k=>(k=F∨k=w.heap.size)∨(Value.slice xo no yo).ownBlock=some k) w (w2.setCell ⟨F,4,none⟩ (.slice x' (no+1) y')):=
      (((Only.of_below hbW).trans (HBt.out.only.mono (fun k h=>Or.inl h))).trans (Only.of_grown HG2.out (fun k e=>Or.inr e))).setCell (p:=⟨F,4,none⟩) (Or.inl (Or.inl (Or.inl rfl))) _
     exact ⟨hO.os,hO.tape,hO.output,hO.size,fun k hk hn=>hO.block k hk (fun hs=>by
      rcases hs with (h | h) | h
      ·exact hn (Or.inl h)
      ·omega
      ·exact hn (Or.inr h))⟩
end Go.Proofs.YtmkdgnmmebldgaaGreatDoor
