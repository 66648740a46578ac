import Derived.Test.YtmkdgnmmebldgaaGreatDoorPt12
import Derived.Test.YtmkdgnmmebldgaaGreatDoorPt14
set_option maxRecDepth 100000
set_option maxHeartbeats 8000000
namespace Go.Proofs.YtmkdgnmmebldgaaGreatDoor
open Go.RowKit Go.Deep
theorem fold_app {f:List MEnd × List MFlank→Nat→List MEnd × List MFlank}(h:∀ s fs t,f (s,fs) t=((f (s,[]) t).1,fs++(f (s,[]) t).2)):∀ (L:List Nat) (s:List MEnd) (fs:List MFlank),L.foldl f (s,fs)=((L.foldl f (s,[])).1,fs++(L.foldl f (s,[])).2)
 | [],s,fs=>by simp
 | t::r,s,fs=>by
  simp only [List.foldl_cons]
  rw [h s fs t,fold_app h r _ (fs++(f (s,[]) t).2)]
  have e:f (s,[]) t=((f (s,[]) t).1,(f (s,[]) t).2):=rfl
  rw [e,fold_app h r _ (f (s,[]) t).2,List.append_assoc]
theorem look_app (js:List MJoint)(ss:List MPiece)(lies:List MLie)(pl:Int):∀ (n:Nat) (s:List MEnd) (fs:List MFlank) (e:MEnd),lookF js ss lies pl n (s,fs) e=((lookF js ss lies pl n (s,[]) e).1,fs++(lookF js ss lies pl n (s,[]) e).2)
 | 0,s,fs,e=>by simp [lookF]
 | n+1,s,fs,e=>by
  simp only [lookF]
  generalize (if e.side=0 then (-1:Int) else 1)=wy
  split
  ·simp
  ·split
   ·simp
   ·split
    ·simp
    ·split
     ·simp
     ·exact fold_app (fun s fs t=>look_app js ss lies pl n s fs _) _ _ _
theorem flanksF_snoc (ps:List MPiece)(js:List MJoint)(ss:List MPiece)(lies:List MLie):∀ (L:List MLie) (l:MLie),flanksF ps js ss lies (L++[l])=flanksF ps js ss lies L++(lookF js ss lies l.piece (depthR ps) ([],[]) (endE js l.piece.toNat (3-l.side).toNat)).2
 | [],l=>by simp [flanksF]
 | x::r,l=>by
  show _++flanksF ps js ss lies (r++[l])=_
  rw [flanksF_snoc ps js ss lies r l]
  show _=(_++flanksF ps js ss lies r)++_
  rw [List.append_assoc]
theorem look_next (ps:List MPiece)(js:List MJoint)(ss:List MPiece)(lies:List MLie)(k:Nat)(hk:k<lies.length):
  (lookF js ss lies lies[k].piece (depthR ps) ([],flanksF ps js ss lies (lies.take k)) (endE js lies[k].piece.toNat (3-lies[k].side).toNat)).2=flanksF ps js ss lies (lies.take (k+1)):=by
 rw [look_app,List.take_succ_eq_append_getElem hk,flanksF_snoc]
theorem flanksF_len {ps:List MPiece}{js:List MJoint}{ss:List MPiece}(R:Right ps js ss)(lies:List MLie):∀ (L:List MLie),(∀ l ∈ L,ValidE ps (endE js l.piece.toNat (3-l.side).toNat))→(flanksF ps js ss lies L).length≤2*ps.length*L.length
 | [],_=>by simp [flanksF]
 | l::r,h=>by
  have h1:=look_grew R lies l.piece (depthR ps) ([],[]) _ (Seen.nil ps) (h l (by simp))
  have h2:=flanksF_len R lies r (fun x hx=>h x (by simp [hx]))
  have h3:=h1.1.few
  have h4:=h1.2.2
  simp only [List.length_nil,Nat.add_zero,Nat.zero_add] at h4
  show ((lookF js ss lies l.piece (depthR ps) ([],[]) (endE js l.piece.toNat (3-l.side).toNat)).2++flanksF ps js ss lies r).length≤_
  rw [List.length_append,List.length_cons,Nat.mul_add,Nat.mul_one]
  omega
structure LD (w0 w:World)(B F Q:Nat)(pa ja sa la:Option Addr)(pc jc sc lc:Nat)(np nj ns:Nat)(lies:List MLie)(xf:Option Addr)(yf:Nat)(fl:List MFlank):Prop where
 base:Below w0.heap.size w0 w
 bz:B≤w.heap.size
 c0:w.cell? ⟨F,0,none⟩=some (.slice pa np pc)
 c1:w.cell? ⟨F,1,none⟩=some (.slice ja nj jc)
 c2:w.cell? ⟨F,2,none⟩=some (.slice sa ns sc)
 q3:w.cell? ⟨Q,3,none⟩=some (.slice la lies.length lc)
 L:EndsAt w la lies
 s6:∃ v,w.cell? ⟨F,6,none⟩=some v
 z6:w.frozen? ⟨F,6,none⟩=false
 f7:w.cell? ⟨Q,7,none⟩=some (.slice xf fl.length yf)
 z7:w.frozen? ⟨Q,7,none⟩=false
 oF:w.ownsRow B 50 4 (.slice xf fl.length yf) fl.length (flatF fl)
section
variable {w0 w w':World} {B F Q:Nat} {pa ja sa la:Option Addr} {pc jc sc lc np nj ns:Nat} {ps:List MPiece} {js:List MJoint} {ss:List MPiece} {lies:List MLie} {xf:Option Addr} {yf:Nat} {fl:List MFlank}
theorem LD.below (h:LD w0 w B F Q pa ja sa la pc jc sc lc np nj ns lies xf yf fl)(hb:Below w.heap.size w w'):LD w0 w' B F Q pa ja sa la pc jc sc lc np nj ns lies xf yf fl:=by
 obtain ⟨v,hv⟩:=h.s6
 exact ⟨h.base.trans (hb.mono h.base.size),Nat.le_trans h.bz hb.size,cell_later hb h.c0,cell_later hb h.c1,cell_later hb h.c2,cell_later hb h.q3,h.L.below hb,⟨v,cell_later hb hv⟩,(hb.frozen (p:=⟨F,6,none⟩) (cellLt hv)).trans h.z6,cell_later hb h.f7,(hb.frozen (p:=⟨Q,7,none⟩) (cellLt h.f7)).trans h.z7,owns_below h.oF hb⟩
theorem LK.forget {xs:Option Addr}{ys:Nat}{st:List MEnd × List MFlank}(h:LK w0 w B F Q pa ja sa la pc jc sc lc np nj ns lies xs ys xf yf st):LD w0 w B F Q pa ja sa la pc jc sc lc np nj ns lies xf yf st.2:=
 ⟨h.base,h.bz,h.c0,h.c1,h.c2,h.q3,h.L,⟨_,h.s6⟩,h.z6,h.f7,h.z7,h.oF⟩
theorem LD.reset (b0:LB w0 B F Q pa ja sa la ps js ss lies)(h:LD w0 w B F Q pa ja sa la pc jc sc lc np nj ns lies xf yf fl):LK w0 (w.setCell ⟨F,6,none⟩ (.slice none 0 0)) B F Q pa ja sa la pc jc sc lc np nj ns lies none 0 xf yf ([],fl):=by
 obtain ⟨v,hv⟩:=h.s6
 have cF:∀ {o:Nat} {u:Value},o≠6→w.cell? ⟨F,o,none⟩=some u→(w.setCell ⟨F,6,none⟩ (.slice none 0 0)).cell? ⟨F,o,none⟩=some u:=fun ho hc=>by
  rw [World.cell?_setCell_other _ _ _ _ (by first | (simp;done) | (simp;omega))]
  exact hc
 have cQ:∀ {o:Nat} {u:Value},w.cell? ⟨Q,o,none⟩=some u→(w.setCell ⟨F,6,none⟩ (.slice none 0 0)).cell? ⟨Q,o,none⟩=some u:=fun hc=>by
  rw [World.cell?_setCell_other _ _ _ _ (by have:=b0.fq;first | (simp;done) | (simp;omega) | (simp_all;done) | (simp_all;omega))]
  exact hc
 refine ⟨h.base.setCell (p:=⟨F,6,none⟩) b0.f0 _,by simpa using h.bz,cF (by omega) h.c0,cF (by omega) h.c1,cF (by omega) h.c2,cQ h.q3,?_,World.cell?_setCell_same _ _ _ hv,?_,cQ h.f7,?_,World.ownsRow_nil _ _ _ _,ownsRow_setCell_below h.oF b0.f1 _⟩
 ·refine h.L.kept ?_
  rcases b0.la with hl | hl
  ·exact Or.inl hl
  ·refine Or.inr (fun b off e=>?_)
   rw [Below.heap_setCell _ _ _ _ (hl b off e).2.1]
 ·rw [World.frozen?_setCell];exact h.z6
 ·rw [World.frozen?_setCell];exact h.z7
end
structure Between (F Q:Nat)(w w':World):Prop where
 only:Only (fun k=>k=F∨k=Q) w w'
 kF:KeptBut F 6 w w'
 kQ:KeptBut Q 7 w w'
 f:F<w.heap.size
 q:Q<w.heap.size
theorem Between.refl {F Q:Nat}{w:World}(f:F<w.heap.size)(q:Q<w.heap.size):Between F Q w w:=⟨Only.refl _ _,KeptBut.of_block rfl,KeptBut.of_block rfl,f,q⟩
theorem Between.later {F Q:Nat}{a b c:World}(h:Between F Q a b)(k:Below b.heap.size b c):Between F Q a c:=
 ⟨h.only.trans (Only.of_below k),h.kF.trans (KeptBut.of_block (k.block F (Nat.lt_of_lt_of_le h.f h.only.size))),h.kQ.trans (KeptBut.of_block (k.block Q (Nat.lt_of_lt_of_le h.q h.only.size))),h.f,h.q⟩
theorem Between.set {F Q:Nat}{a b:World}(h:Between F Q a b)(hfq:F≠Q)(v:Value):Between F Q a (b.setCell ⟨F,6,none⟩ v):=
 ⟨h.only.setCell (p:=⟨F,6,none⟩) (Or.inl (Or.inl rfl)) v,h.kF.trans (fun o ho=>⟨World.cell?_setCell_other _ _ _ _ (by first | (simp;done) | (simp;omega)),World.frozen?_setCell _ _ _ _⟩),h.kQ.trans (KeptBut.of_block (Below.heap_setCell _ _ _ _ (fun e=>hfq (by simpa using e.symm)))),h.f,h.q⟩
theorem Between.turn {F Q:Nat}{vs vf:Value}{a b c:World}(h:Between F Q a b)(k:Turn F Q vs vf b c)(h1:∀ x,vs.ownBlock=some x→a.heap.size≤x)(h2:∀ x,vf.ownBlock=some x→a.heap.size≤x):Between F Q a c:=
 ⟨⟨k.only.os.trans h.only.os,k.only.tape.trans h.only.tape,k.only.output.trans h.only.output,Nat.le_trans h.only.size k.size,fun x hx hn=>(k.only.block x (Nat.lt_of_lt_of_le hx h.only.size) (fun hs=>by
  rcases hs with hs | hs | hs | hs
  ·exact hn (Or.inl hs)
  ·exact hn (Or.inr hs)
  ·have:=h1 x hs;omega
  ·have:=h2 x hs;omega)).trans (h.only.block x hx hn)⟩,h.kF.trans k.kF,h.kQ.trans k.kQ,h.f,h.q⟩
end Go.Proofs.YtmkdgnmmebldgaaGreatDoor
