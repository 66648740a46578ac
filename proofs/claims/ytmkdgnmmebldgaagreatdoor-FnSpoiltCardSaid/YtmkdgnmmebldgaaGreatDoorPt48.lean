import Derived.Test.YtmkdgnmmebldgaaGreatDoorPt47
import Derived.Laws.OwnMore
set_option maxRecDepth 100000
set_option maxHeartbeats 8000000
namespace Go.Proofs.YtmkdgnmmebldgaaGreatDoor
open Go.RowKit Go.Deep
theorem l5copy_any (pa:Option Addr)(pc:Nat)(ja:Option Addr)(jc:Nat)(ps:List MPiece)(js:List MJoint)(w:World)(hP:Hid (PiecesAt w pa ps))(hJ:Hid (JointsAt w ja js))(hp1:ps.length≤1000)(hj1:js.length≤1000)(hje:Hid (∀ j ∈ js,j.ends.length≤4)):
  Calls Tryz.prog 102 #[.agg #[.slice pa ps.length pc,.slice ja js.length jc]] w fun e w' => ∃ xp yp xj yj js',e = .returned (.agg #[.slice xp ps.length yp,.slice xj js.length yj])∧js'.map (fun z:MJ=>z.2.2)=js∧OwnNet w' w.heap.size xp yp xj yj ps js'∧Below w.heap.size w w':=by
 go_enter Tryz.func102,Tryz.ntmps102
 go_wp2_with fail
 generalize hW:World.alloc (World.alloc (World.alloc w _) _) _=W
 have hbW:Below w.heap.size w W:=by rw [← hW];exact blo
 have HN0:Hid (NetG W w.heap.size (w.heap.size+2) (w.heap.size+2+1) none 0 none 0 [] []):=by
  rw [← hW]
  exact ⟨by omega,by omega,by simp [go_sem],by simp [go_sem],fun o=>by simp [go_sem],World.ownsRow_nil _ _ _ _,World.ownsRow_nil _ _ _ _,fun x hx=>(by cases hx),List.Pairwise.nil,fun x hx=>(by cases hx),fun x hx=>(by cases hx)⟩
 have R0:W.cell? ⟨w.heap.size+1,0,none⟩=some (.slice none 0 0):=by rw [← hW];simp [go_sem]
 have R1:W.cell? ⟨w.heap.size+1,1,none⟩=some (.slice none 0 0):=by rw [← hW];simp [go_sem]
 have HRZ:Hid (∀ o,W.frozen? ⟨w.heap.size+1,o,none⟩=false):=fun o=>by rw [← hW];simp [go_sem]
 have X0:W.cell? ⟨w.heap.size,0,none⟩=some (.slice pa ps.length pc):=by rw [← hW];simp [go_sem]
 have X1:W.cell? ⟨w.heap.size,1,none⟩=some (.slice ja js.length jc):=by rw [← hW];simp [go_sem]
 have hzW:w.heap.size+2<W.heap.size:=by rw [← hW];simp
 have HBW:=hidP hbW
 clear hW hbW
 obtain ⟨N,hN⟩:∃ N,w.heap.size+2=N:=⟨_,rfl⟩
 obtain ⟨R,hR⟩:∃ R,w.heap.size+1=R:=⟨_,rfl⟩
 obtain ⟨X,hX⟩:∃ X,w.heap.size=X:=⟨_,rfl⟩
 rw [hN] at HN0 hzW ⊢
 rw [hR] at R0 R1 HRZ ⊢
 rw [hX] at HN0 X0 X1 ⊢
 have hXR:X<R:=by omega
 have hRN:R<N:=by omega
 have HXw:Hid (w.heap.size=X):=hX
 clear hN hR hX
 have HLOW:Hid (∀ u,Only (fun b=>N≤b) W u→Below w.heap.size w u):=fun u hu=>HBW.out.trans (hu.below (by have:=HBW.out.size;omega) (fun k hk=>by have:=HXw.out;omega))
 have hzX:X<W.heap.size:=by omega
 go_wp2_with fail
 go_loopw [14] (fun i wr => ∃ k:Nat,k≤ps.length∧i = .int .i64 k∧Hid (∃ xp yp,NetG wr X N (N+1) xp yp none 0 (ps.take k) []∧Only (fun b=>N≤b) W wr)) (fun i _=>ps.length-(intOf i).toNat)
 case atStart=>exact ⟨0,Nat.zero_le _,rfl,none,0,HN0.out,Only.refl _ _⟩
 case round =>
  clear HN0
  obtain ⟨k,hk,rfl,HI⟩:=hrel
  obtain ⟨xp,yp,hnet,honly⟩:=HI.out
  have HN:=hidP hnet
  have HO:=hidP honly
  have hl:(ps.take k).length=k:=by rw [List.length_take];omega
  obtain ⟨L,hL⟩:∃ L,ps.take k=L:=⟨_,rfl⟩
  rw [hL] at HN hl
  have HLL:=hidP hL
  clear HI hnet honly hL
  by_cases hk':k<ps.length
  ·obtain ⟨b1,off1,rfl,hpc⟩:=(hP.out.below (HLOW.out wr HO.out)).2.2.resolve_left (nz hk')
   obtain ⟨c0,c1,c2,c3⟩:=hpc k hk'
   have hnm:=hP.out.2.1 _ (List.getElem_mem hk')
   have HTK:Hid (ps.take (k+1)=L++[ps[k]]):=by unfold Hid;rw [List.take_succ_eq_append_getElem hk',HLL.out]
   generalize ps[k]=pk at c0 c1 c2 c3 hnm HTK
   have n0:=HN.out.c0
   rw [hl] at n0
   have hNz:=HN.out.lt
   have hki:(k:Int)<ps.length:=by omega
   have hzc:=cellLt c0
   dsimp only at hzc
   have hop:=HN.out.op
   rw [hl] at hop
   have HOP:=hidP hop
   clear hpc hop
   go_wp2_with (at_builtin;refine wpList_push (Wp:=wr.alloc (.cells #[.string pk.name,.int .i64 pk.len,.int .i64 pk.speed,.int .i64 pk.brake] 133)) rfl (.tmp 19) (.tmp 21) 23 rfl (N+1) 133 _ 4 40 Tryz.underlying23 Tryz.infoPiece rfl (by decide) (.slice xp k yp) k (flatPc L) rfl (HOP.out.alloc _) (wr.heap.size+1) (by simp) [.string pk.name,.int .i64 pk.len,.int .i64 pk.speed,.int .i64 pk.brake] rfl rfl (by simp [Value.oneCell']) (by unfold maxLen;omega) (by omega) (by simp;omega) ?_;intro xp8 yp8 w8 ho8 hg8;rw [flatPc_push,← hl] at ho8;rw [← hl] at hg8;obtain ⟨m1,m2⟩:=(HN.out.below ((Below.refl _ _).alloc (Nat.le_refl _) _)).rowP hg8;have HN8:=hidP ((HN.out.below ((Below.refl _ _).alloc (Nat.le_refl _) _)).pushP hg8 ho8 hnm);have HO8:Hid (Only (fun b=>N≤b) W w8):=HO.out.trans ⟨hg8.os,hg8.tape,hg8.output,Nat.le_trans (by simp) hg8.size,fun b hb hn=>(hg8.block b (by simp;omega) (fun e=>(by have:=(HN.out.op.lt b e.symm).1;omega))).trans (Below.heap_alloc _ _ _ hb)⟩;rw [hl] at m1 HN8;clear ho8 hg8)
   have HIN:Hid (∃ xp yp,NetG (w8.setCell ⟨N,0,none⟩ (.slice xp8 (k+1) yp8)) X N (N+1) xp yp none 0 (ps.take (k+1)) []∧Only (fun b=>N≤b) W (w8.setCell ⟨N,0,none⟩ (.slice xp8 (k+1) yp8))):=⟨xp8,yp8,by rw [HTK.out];exact HN8.out,HO8.out.setCell (p:=⟨N,0,none⟩) (Or.inl (Nat.le_refl _)) _⟩
   first
    | (go_roundw; (case rel => exact ⟨k+1,by omega,by go_num,HIN⟩); (case measure => (simp [intOf];omega)))
    | exact ⟨⟨k+1,by omega,by go_num,HIN⟩,by simp [intOf];omega⟩
  ·have hki:¬ (k:Int)<ps.length:=by omega
   have hke:k=ps.length:=by omega
   have hLp:L=ps:=by rw [← HLL.out,hke,List.take_length]
   rw [hLp] at HN
   clear HLL hl hLp hke
   have HI2:Hid (∃ xp yp xj yj js',(js':List MJ).map (fun z=>z.2.2)=js.take 0∧NetG wr X N (N+1) xp yp xj yj ps js'∧Only (fun b=>N≤b) W wr):=⟨xp,yp,none,0,[],rfl,HN.out,HO.out⟩
   have x1:=HO.out.cell X1 (by show ¬ N≤X;omega)
   have hXz:=cellLt x1
   dsimp only at hXz
   clear HN HO
   go_wp2_with fail
   go_loopw [28] (fun i wq => ∃ k:Nat,k≤js.length∧i = .int .i64 k∧Hid (∃ xp yp xj yj js',(js':List MJ).map (fun z=>z.2.2)=js.take k∧NetG wq X N (N+1) xp yp xj yj ps js'∧Only (fun b=>N≤b) W wq)) (fun i _=>js.length-(intOf i).toNat)
   case atStart=>exact ⟨0,Nat.zero_le _,rfl,HI2⟩
   case round =>
    clear HI2 x1 hXz
    obtain ⟨k,hk,rfl,HI⟩:=hrel
    obtain ⟨xp,yp,xj,yj,js',hjs',hnet,honly⟩:=HI.out
    have HN:=hidP hnet
    have HO:=hidP honly
    have HJS:=hidP hjs'
    have hl:js'.length=k:=by
     have h:=congrArg List.length hjs'
     rw [List.length_map,List.length_take] at h
     omega
    have hNz:=hnet.lt
    clear HI hnet honly hjs'
    by_cases hk':k<js.length
    ·obtain ⟨b1,off1,rfl,hpc⟩:=(hJ.out.below (HLOW.out wr HO.out)).2.2.resolve_left (nz hk')
     obtain ⟨c0,c1,ea,ec,c2,hE⟩:=hpc k hk'
     have hnm:=hJ.out.2.1 _ (List.getElem_mem hk')
     have h4:=hje.out _ (List.getElem_mem hk')
     have HTK:Hid (js.take (k+1)=js.take k++[js[k]]):=List.take_succ_eq_append_getElem hk'
     generalize js[k]=jk at c0 c1 c2 hE hnm h4 HTK
     have HE:=hidP hE
     have hki:(k:Int)<js.length:=by omega
     have hzc:=cellLt c0
     dsimp only at hzc
     clear hpc hE
     go_wp2_with fail
     generalize hW8:World.alloc (World.alloc wr (.cells #[.int .i64 jk.kind,.string jk.name,.slice ea jk.ends.length ec] 109)) _=W8
     obtain ⟨W7,hW7⟩:∃ W7,World.alloc wr (.cells #[.int .i64 jk.kind,.string jk.name,.slice ea jk.ends.length ec] 109)=W7:=⟨_,rfl⟩
     rw [hW7] at hW8
     have hz7:W7.heap.size=wr.heap.size+1:=by rw [← hW7];simp
     have hb7:Below wr.heap.size wr W7:=by rw [← hW7];exact (Below.refl _ _).alloc (Nat.le_refl _) _
     have s2:W7.cell? ⟨wr.heap.size,2,none⟩=some (.slice ea jk.ends.length ec):=by rw [← hW7];simp [go_sem]
     have HIK:Hid (InK W7 W8 (wr.heap.size+1) 0 jk.kind jk.name none 0 []):=by
      rw [← hz7,← hW8]
      exact ⟨by simp [go_sem],by simp [go_sem],by simp [go_sem],fun o=>by simp [go_sem],rfl,World.ownsRow_nil _ _ _ _,(Below.refl _ _).alloc (Nat.le_refl _) _⟩
     have t2:W8.cell? ⟨wr.heap.size,2,none⟩=some (.slice ea jk.ends.length ec):=by rw [← hW8];exact cell_later ((Below.refl _ _).alloc (Nat.le_refl _) _) s2
     obtain ⟨J,hJe⟩:∃ J,wr.heap.size+1=J:=⟨_,rfl⟩
     have HB7:=hidP hb7
     have HZ7:Hid (W7.heap.size=wr.heap.size+1):=hz7
     have hwJ:wr.heap.size<J:=by omega
     have hJ8:J<W8.heap.size:=by have:=HIK.out.lt;omega
     rw [hJe] at HIK ⊢
     have HJE:Hid (wr.heap.size+1=J):=hJe
     clear hW7 hW8 hz7 hb7 hJe s2 c0 c1 c2
     go_wp2_with fail
     go_loopw [40] (fun qq wi => ∃ (q:Nat) (xe:Option Addr) (ye:Nat),qq = .int .i64 q∧q≤jk.ends.length∧Hid (InK W7 wi J q jk.kind jk.name xe ye (jk.ends.take q))) (fun qq _=>jk.ends.length-(intOf qq).toNat)
     case atStart=>exact ⟨0,none,0,rfl,by omega,HIK⟩
     case round =>
      clear HIK t2
      obtain ⟨q,xe,ye,rfl,hqk,HIK⟩:=hrel
      have hJi:=HIK.out.lt
      by_cases hq:q<jk.ends.length
      ·have HBi:=hidP (HB7.out.trans (HIK.out.base.mono (Nat.le_of_lt hwJ)))
       obtain ⟨be,oe,rfl,hec⟩:=(HE.out.below HBi.out).2.resolve_left (nz hq)
       obtain ⟨e0,e1⟩:=hec q hq
       have HTQ:Hid (jk.ends.take (q+1)=jk.ends.take q++[jk.ends[q]]):=List.take_succ_eq_append_getElem hq
       generalize jk.ends[q]=en at e0 e1 HTQ
       have c2:=HIK.out.c2
       have hqi:(q:Int)<jk.ends.length:=by omega
       have hze:=cellLt e0
       dsimp only at hze
       clear hec
       go_wp2_with (at_builtin;refine wpList_push (Wp:=wr.alloc (.cells #[.int .i64 en.piece,.int .i64 en.side] 114)) rfl (.tmp 45) (.tmp 47) 83 rfl (J+1) 114 _ 2 16 Tryz.underlying83 Tryz.infoEnd rfl (by decide) (.slice xe q ye) q (flatE (jk.ends.take q)) rfl (HIK.out.own.alloc _) (wr.heap.size+1) (by simp) [.int .i64 en.piece,.int .i64 en.side] rfl rfl (by simp [Value.oneCell']) (by unfold maxLen;omega) (by omega) (by simp;omega) ?_;intro xe8 ye8 w8 ho8 hg8;rw [flatE_push] at ho8;have HIK8:=hidP ((HIK.out.below ((Below.refl _ _).alloc (Nat.le_refl _) _)).push hg8 ho8);have hJ8:w8.heap[J]? = wr.heap[J]? := ((hg8.block J (by simp;omega) (fun e=>(by have:=(HIK.out.own.lt J e.symm).1;omega))).trans (Below.heap_alloc _ _ _ hJi));have m1:=(World.cell?_of_block (w:=wr) (a:=⟨J,2,none⟩) hJ8).trans c2;have m2:=(World.frozen?_of_block (w:=wr) (a:=⟨J,2,none⟩) hJ8).trans (HIK.out.z 2);clear ho8 hg8 hJ8)
       rw [← HTQ.out] at HIK8
       first
        | (go_roundw; (case rel => exact ⟨q+1,xe8,ye8,by go_num,by omega,HIK8⟩); (case measure => (simp [intOf];omega)))
        | exact ⟨⟨q+1,xe8,ye8,by go_num,by omega,HIK8⟩,by simp [intOf];omega⟩
      ·have hqe:q=jk.ends.length:=by omega
       subst hqe
       rw [List.take_length] at HIK
       have hqi:¬ (jk.ends.length:Int)<jk.ends.length:=by omega
       have HBi:=hidP (HB7.out.trans (HIK.out.base.mono (Nat.le_of_lt hwJ)))
       have HNi:=hidP (HN.out.below HBi.out)
       have HOi:=hidP (HO.out.trans (Only.of_below HBi.out))
       have n1:=HNi.out.c1
       rw [hl] at n1
       have d0:=HIK.out.c0
       have d1:=HIK.out.c1
       have d2:=HIK.out.c2
       have hNi:=HNi.out.lt
       have hNJ:N<J:=by omega
       have HX:=hidP (HIK.out.ends (N:=N) hNJ (by omega) jk.kind)
       have HAP:Hid (∀ y ∈ js',ownJ y=none∨ownJ y≠ownJ (xe,ye,⟨jk.kind,jk.name,jk.ends⟩)):=fun y hy=>by
        cases hb:ownJ y with
        | none=>exact Or.inl rfl
        | some b=>exact Or.inr (fun e=>by have h1:=((HN.out.je y hy).1.lt b hb).2;have h2:=(HIK.out.own.lt b e.symm).1;omega)
       have hoj:=HNi.out.oj
       rw [hl] at hoj
       have HOJ:=hidP hoj
       clear hoj HN HO HBi HB7
       go_wp2_with (at_builtin;refine wpList_push (Wp:=wr) rfl (.tmp 52) (.tmp 54) 24 rfl (N+1) 109 _ 3 48 Tryz.underlying24 Tryz.infoJoint rfl (by decide) (.slice xj k yj) k (flatJ js') rfl HOJ.out wr.heap.size rfl [.int .i64 jk.kind,.string jk.name,.slice xe jk.ends.length ye] rfl rfl (by simp [Value.oneCell']) (by unfold maxLen;omega) (by omega) (by omega) ?_;intro xj8 yj8 w8 ho8 hg8;rw [flatJ_push js' (xe,ye,jk),← hl] at ho8;rw [← hl] at hg8;obtain ⟨m1,m2⟩:=HNi.out.rowJ hg8;have HN8:=hidP (HNi.out.pushJ hg8 ho8 hnm HX.out HAP.out);have HO8:Hid (Only (fun b=>N≤b) W w8):=HOi.out.trans ⟨hg8.os,hg8.tape,hg8.output,hg8.size,fun b hb hn=>hg8.block b hb (fun e=>(by have:=(HNi.out.oj.lt b e.symm).1;omega))⟩;rw [hl] at m1 HN8;clear ho8 hg8)
       have HIN:Hid (∃ xp yp xj yj js2,(js2:List MJ).map (fun z=>z.2.2)=js.take (k+1)∧NetG (w8.setCell ⟨N,1,none⟩ (.slice xj8 (k+1) yj8)) X N (N+1) xp yp xj yj ps js2∧Only (fun b=>N≤b) W (w8.setCell ⟨N,1,none⟩ (.slice xj8 (k+1) yj8))):=⟨xp,yp,xj8,yj8,js'++[(xe,ye,jk)],by rw [List.map_append,HJS.out,HTK.out];rfl,HN8.out,HO8.out.setCell (p:=⟨N,1,none⟩) (Or.inl (Nat.le_refl _)) _⟩
       first
        | (go_roundw; (case rel => exact ⟨k+1,by omega,by go_num,HIN⟩); (case measure => (simp [intOf];omega)))
        | exact ⟨⟨k+1,by omega,by go_num,HIN⟩,by simp [intOf];omega⟩
    ·have hki:¬ (k:Int)<js.length:=by omega
     have hke:k=js.length:=by omega
     subst hke
     rw [List.take_length] at HJS
     have n0:=HN.out.c0
     have n1:=HN.out.c1
     rw [hl] at n1
     have hRr:wr.heap[R]? = W.heap[R]? := HO.out.block R (by omega) (by omega)
     have q0:=(World.cell?_of_block (w:=W) (a:=⟨R,0,none⟩) hRr).trans R0
     have q1:=(World.cell?_of_block (w:=W) (a:=⟨R,1,none⟩) hRr).trans R1
     have u0:=(World.frozen?_of_block (w:=W) (a:=⟨R,0,none⟩) hRr).trans (HRZ.out 0)
     have u1:=(World.frozen?_of_block (w:=W) (a:=⟨R,1,none⟩) hRr).trans (HRZ.out 1)
     clear R0 R1 hRr
     have hnR:N≠R:=by omega
     go_wp2_with fail
     refine bodyPost_ret (v:=.agg #[.slice xp ps.length yp,.slice xj js.length yj]) (by simp [results,Tryz.results102,go_sem,q0,q1]) rfl ?_
     have hk:∀ b,b≠R→((wr.setCell ⟨R,0,none⟩ (.slice xp ps.length yp)).setCell ⟨R,1,none⟩ (.slice xj js.length yj)).heap[b]? = wr.heap[b]? := fun b hb=>(Below.heap_setCell _ _ _ _ hb).trans (Below.heap_setCell _ _ _ _ hb)
     have hnet:=HN.out.kept (w':=(wr.setCell ⟨R,0,none⟩ (.slice xp ps.length yp)).setCell ⟨R,1,none⟩ (.slice xj js.length yj)) (hk N (by omega)) (fun b h1 _=>hk b (by omega))
     have hw:=HXw.out
     have hoj:=hnet.oj
     rw [hl] at hoj
     refine ⟨xp,yp,xj,yj,rfl,js',HJS.out,⟨owns_base hnet.op (by omega),by rw [hl];exact owns_base hoj (by omega),fun x hx=>(hnet.je x hx).base (by omega),hnet.ap⟩,?_⟩
     ·have h1:=HLOW.out wr HO.out
      exact ⟨h1.os,h1.tape,h1.output,by have:=h1.size;simpa using this,fun b hb=>(hk b (by omega)).trans (h1.block b hb)⟩
theorem flat_set {α:Type}(f:α→List Value)(k:Nat)(hk:∀ x,(f x).length=k):∀ (xs:List α) (i j:Nat) (hi:i<xs.length) (_:j<k) (x':α) (u:Value),f x'=(f xs[i]).set j u→(xs.set i x').flatMap f=(xs.flatMap f).set (i*k+j) u
 | [],_,_,hi,_,_,_,_=>absurd hi (by simp)
 | x::r,0,j,_,hj,x',u,h=>by
  simp only [List.getElem_cons_zero] at h
  simp only [List.set_cons_zero,List.flatMap_cons,Nat.zero_mul,Nat.zero_add]
  rw [h,List.set_append_left _ _ (by rw [hk];omega)]
 | x::r,i+1,j,hi,hj,x',u,h=>by
  have ih:=flat_set f k hk r i j (by simpa using hi) hj x' u (by simpa using h)
  simp only [List.set_cons_succ,List.flatMap_cons]
  rw [ih,List.set_append_right _ _ (by rw [hk,Nat.add_mul];omega),hk,show (i+1)*k+j-k=i*k+j by rw [Nat.add_mul];omega]
theorem Only.grown {S:Nat→Prop}{w w':World}{row:Option Nat}(hg:w.grownBy w' row)(hr:∀ b,row=some b→S b):Only S w w':=
 ⟨hg.os,hg.tape,hg.output,hg.size,fun b hb hn=>hg.block b hb (fun e=>hn (hr b e.symm))⟩
section
variable {w w':World} {C N B:Nat} {xp xj:Option Addr} {yp yj:Nat} {ps:List MPiece} {js:List MJ}
theorem NetG.turnP (h:NetG w C N B xp yp xj yj ps js){ps':List MPiece}(hl:ps'.length=ps.length)(hg:w.grownBy w' (Value.slice xp ps.length yp).ownBlock)(ho:w'.ownsRow B 133 4 (.slice xp ps.length yp) ps.length (flatPc ps'))(hn:∀ p ∈ ps',p.name.size≤maxLen):NetG w' C N B xp yp xj yj ps' js:=by
 have hN:w'.heap[N]? = w.heap[N]? := hg.block N h.lt (fun e=>by have:=(h.op.lt N e.symm).1;have:=h.nb;omega)
 refine ⟨h.cn,h.nb,by rw [hl];exact (World.cell?_of_block (w:=w) hN).trans h.c0,(World.cell?_of_block (w:=w) hN).trans h.c1,fun o=>(World.frozen?_of_block (w:=w) hN).trans (h.z o),by rw [hl];exact ho,h.oj.kept hg ?_,fun x hx=>(h.je x hx).kept (fun b h1 h2=>hg.block b h2.lt (fun e=>h2.ne h.op (by decide) e.symm)),h.ap,hn,h.jn⟩
 exact owns_ne (e:=109) (e':=133) (by decide) h.oj h.op
theorem NetG.turnJ (h:NetG w C N B xp yp xj yj ps js){js':List MJ}(hl:js'.length=js.length)(hg:w.grownBy w' (Value.slice xj js.length yj).ownBlock)(ho:w'.ownsRow B 109 3 (.slice xj js.length yj) js.length (flatJ js'))(hn:∀ x ∈ js',x.2.2.name.size≤maxLen)(he:∀ x ∈ js',EndsO w B x)(ha:js'.Pairwise (fun a b=>ownJ a=none∨ownJ a≠ownJ b)):NetG w' C N B xp yp xj yj ps js':=by
 have hN:w'.heap[N]? = w.heap[N]? := hg.block N h.lt (fun e=>by have:=(h.oj.lt N e.symm).1;have:=h.nb;omega)
 refine ⟨h.cn,h.nb,(World.cell?_of_block (w:=w) hN).trans h.c0,by rw [hl];exact (World.cell?_of_block (w:=w) hN).trans h.c1,fun o=>(World.frozen?_of_block (w:=w) hN).trans (h.z o),h.op.kept hg ?_,by rw [hl];exact ho,fun x hx=>(he x hx).kept (fun b h1 h2=>hg.block b h2.lt (fun e=>h2.ne h.oj (by decide) e.symm)),ha,h.pn,hn⟩
 exact owns_ne (e:=133) (e':=109) (by decide) h.op h.oj
theorem NetG.setP {g:Nat}(h:NetG w C N B (some ⟨g,0,none⟩) yp xj yj ps js){i j:Nat}(hi:i<ps.length)(hj:j<4){p':MPiece}{u:Value}(he:encPc p'=(encPc ps[i]).set j u)(hn:p'.name.size≤maxLen):NetG (w.setCell ⟨g,i*4+j,none⟩ u) C N B (some ⟨g,0,none⟩) yp xj yj (ps.set i p') js∧w.grownBy (w.setCell ⟨g,i*4+j,none⟩ u) (some g):=by
 obtain ⟨h1,h2⟩:=h.op.stored (i*4+j) u
 rw [show (flatPc ps).set (i*4+j) u=flatPc (ps.set i p') from (flat_set encPc 4 (fun _=>rfl) ps i j hi hj p' u he).symm] at h1
 refine ⟨h.turnP (by simp) h2 h1 (fun p hp=>?_),h2⟩
 rcases List.mem_or_eq_of_mem_set hp with hp | rfl
 ·exact h.pn p hp
 ·exact hn
theorem pairwise_set {js:List MJ}(h:js.Pairwise (fun a b=>ownJ a=none∨ownJ a≠ownJ b)){x':MJ}:∀ (i:Nat),(∀ k (_:k<js.length),k≠i→ownJ js[k]=none∨ownJ x'=none∨ownJ js[k]≠ownJ x')→(js.set i x').Pairwise (fun a b=>ownJ a=none∨ownJ a≠ownJ b):=by
 intro i hx
 rw [List.pairwise_iff_getElem] at h ⊢
 intro a b ha hb hab
 simp only [List.length_set] at ha hb
 rw [List.getElem_set,List.getElem_set]
 by_cases h1:i=a
 ·rw [if_pos h1,if_neg (by omega)]
  rcases hx b hb (by omega) with h2 | h2 | h2
  ·by_cases h3:ownJ x'=none
   ·exact Or.inl h3
   ·exact Or.inr (fun e=>h3 (e.trans h2))
  ·exact Or.inl h2
  ·exact Or.inr (fun e=>h2 e.symm)
 ·rw [if_neg h1]
  by_cases h2:i=b
  ·rw [if_pos h2]
   rcases hx a ha (by omega) with h3 | h3 | h3
   ·exact Or.inl h3
   ·by_cases h4:ownJ js[a]=none
    ·exact Or.inl h4
    ·exact Or.inr (fun e=>h4 (e.trans h3))
   ·exact Or.inr h3
  ·rw [if_neg h2]
   exact h a b ha hb hab
theorem NetG.apart (h:NetG w C N B xp yp xj yj ps js){i k:Nat}(hi:i<js.length)(hk:k<js.length)(hne:k≠i):ownJ js[k]=none∨ownJ js[k]≠ownJ js[i]:=by
 have hp:=List.pairwise_iff_getElem.1 h.ap
 by_cases h1:k<i
 ·exact hp k i hk hi h1
 ·rcases hp i k hi hk (by omega) with h2 | h2
  ·by_cases h3:ownJ js[k]=none
   ·exact Or.inl h3
   ·exact Or.inr (fun e=>h3 (e.trans h2))
  ·exact Or.inr (fun e=>h2 e.symm)
theorem NetG.setJ {g:Nat}(h:NetG w C N B xp yp (some ⟨g,0,none⟩) yj ps js){i j:Nat}(hi:i<js.length)(hj:j<3){x':MJ}{u:Value}(he:encJ x'=(encJ js[i]).set j u)(hn:x'.2.2.name.size≤maxLen)(hE:EndsO w B x')(hap:∀ k (_:k<js.length),k≠i→ownJ js[k]=none∨ownJ x'=none∨ownJ js[k]≠ownJ x'):NetG (w.setCell ⟨g,i*3+j,none⟩ u) C N B xp yp (some ⟨g,0,none⟩) yj ps (js.set i x')∧w.grownBy (w.setCell ⟨g,i*3+j,none⟩ u) (some g):=by
 obtain ⟨h1,h2⟩:=h.oj.stored (i*3+j) u
 rw [show (flatJ js).set (i*3+j) u=flatJ (js.set i x') from (flat_set encJ 3 (fun _=>rfl) js i j hi hj x' u he).symm] at h1
 refine ⟨h.turnJ (by simp) h2 h1 (fun p hp=>?_) (fun p hp=>?_) (pairwise_set h.ap i hap),h2⟩
 ·rcases List.mem_or_eq_of_mem_set hp with hp | rfl
  ·exact h.jn p hp
  ·exact hn
 ·rcases List.mem_or_eq_of_mem_set hp with hp | rfl
  ·exact h.je p hp
  ·exact hE
theorem NetG.turnE (h:NetG w C N B xp yp xj yj ps js){i:Nat}(hi:i<js.length)(hg:w.grownBy w' (ownJ js[i])):(w'.cell? ⟨N,0,none⟩=some (.slice xp ps.length yp))∧(w'.cell? ⟨N,1,none⟩=some (.slice xj js.length yj))∧(∀ o,w'.frozen? ⟨N,o,none⟩=false)∧w'.ownsRow B 133 4 (.slice xp ps.length yp) ps.length (flatPc ps)∧w'.ownsRow B 109 3 (.slice xj js.length yj) js.length (flatJ js)∧∀ k (hk:k<js.length),k≠i→EndsO w' B js[k]:=by
 have hE:=h.je _ (List.getElem_mem hi)
 have hN:w'.heap[N]? = w.heap[N]? := hg.block N h.lt (fun e=>by have:=(hE.1.lt N e.symm).1;have:=h.nb;omega)
 refine ⟨(World.cell?_of_block (w:=w) hN).trans h.c0,(World.cell?_of_block (w:=w) hN).trans h.c1,fun o=>(World.frozen?_of_block (w:=w) hN).trans (h.z o),h.op.kept hg ?_,h.oj.kept hg ?_,fun k hk hne=>⟨(h.je _ (List.getElem_mem hk)).1.kept hg (h.apart hi hk hne),(h.je _ (List.getElem_mem hk)).2⟩⟩
 ·exact owns_ne (e:=133) (e':=114) (by decide) h.op hE.1
 ·exact owns_ne (e:=109) (e':=114) (by decide) h.oj hE.1
theorem NetG.setE (h:NetG w C N B xp yp xj yj ps js){i q j:Nat}(hi:i<js.length)(hq:q<js[i].2.2.ends.length)(hj:j<2){g:Nat}(hx:js[i].1=some ⟨g,0,none⟩){e':MEnd}{u:Value}(he:encE e'=(encE js[i].2.2.ends[q]).set j u):NetG (w.setCell ⟨g,q*2+j,none⟩ u) C N B xp yp xj yj ps (js.set i (js[i].1,js[i].2.1,⟨js[i].2.2.kind,js[i].2.2.name,js[i].2.2.ends.set q e'⟩))∧w.grownBy (w.setCell ⟨g,q*2+j,none⟩ u) (some g):=by
 have hE:=h.je _ (List.getElem_mem hi)
 have hrow:=hE.1
 rw [hx] at hrow
 obtain ⟨h1,h2⟩:=hrow.stored (q*2+j) u
 have hg:w.grownBy (w.setCell ⟨g,q*2+j,none⟩ u) (ownJ js[i]):=by unfold ownJ;rw [hx];exact h2
 obtain ⟨a0,a1,a2,a3,a4,a5⟩:=h.turnE hi hg
 rw [show (flatE js[i].2.2.ends).set (q*2+j) u=flatE (js[i].2.2.ends.set q e') from (flat_set encE 2 (fun _=>rfl) js[i].2.2.ends q j hq hj e' u he).symm] at h1
 have hj2:flatJ (js.set i (js[i].1,js[i].2.1,⟨js[i].2.2.kind,js[i].2.2.name,js[i].2.2.ends.set q e'⟩))=flatJ js:=by
  have:=flat_set encJ 3 (fun _=>rfl) js i 0 hi (by omega) (js[i].1,js[i].2.1,⟨js[i].2.2.kind,js[i].2.2.name,js[i].2.2.ends.set q e'⟩) (.int .i64 js[i].2.2.kind) (by simp [encJ])
  refine this.trans ?_
  rw [← flat_set encJ 3 (fun _=>rfl) js i 0 hi (by omega) js[i] (.int .i64 js[i].2.2.kind) (by simp [encJ]),List.set_getElem_self]
  rfl
 have hlen:(js.set i (js[i].1,js[i].2.1,⟨js[i].2.2.kind,js[i].2.2.name,js[i].2.2.ends.set q e'⟩)).length=js.length:=by simp
 refine ⟨⟨h.cn,h.nb,a0,by rw [hlen];exact a1,a2,a3,by rw [hlen,hj2];exact a4,fun x hm=>?_,?_,h.pn,fun x hm=>?_⟩,h2⟩
 ·obtain ⟨k,hk,rfl⟩:=List.getElem_of_mem hm
  rw [List.getElem_set]
  split
  ·refine ⟨?_,by simpa using hE.2⟩
   show World.ownsRow _ _ _ _ (.slice js[i].1 (js[i].2.2.ends.set q e').length js[i].2.1) _ _
   rw [List.length_set,hx]
   exact h1
  ·exact a5 k (by simpa using hk) (by omega)
 ·refine pairwise_set h.ap i (fun k hk hne=>?_)
  rcases h.apart hi hk hne with h3 | h3
  ·exact Or.inl h3
  ·refine Or.inr (Or.inr ?_)
   simpa [ownJ] using h3
 ·rcases List.mem_or_eq_of_mem_set hm with hm | rfl
  ·exact h.jn x hm
  ·have h9:=h.jn js[i] (List.getElem_mem hi)
   exact h9
end
end Go.Proofs.YtmkdgnmmebldgaaGreatDoor
