import Derived.Test.YtmkdgnmmebldgabGreatDoorPl30
import Derived.Test.YtmkdgnmmebldgabGreatDoorPl2
import Derived.ProofKit
import Derived.Deep.Slices
import Derived.Deep.Strs
import Derived.Lib.SmallJoins
import Derived.Test.YtmkdgnmmebldgabGreatDoorRows
import Derived.WalkKit
import Derived.OpenShut
import Derived.ShutString
import Derived.ChangeOld
import Derived.Below
set_option maxRecDepth 100000
set_option maxHeartbeats 8000000
namespace Go.Proofs.YtmkdgnmmebldgabGreatDoor
open Go.RowKit Go.Deep Go.ChangeShapes Go.WideShapes
theorem choose_list {α:Type}{p:Nat→α→Prop}:∀ (n:Nat),(∀ i,i<n→∃ x,p i x)→∃ l:List α,l.length=n∧∀ i (hi:i<l.length),p i l[i]
 | 0,_=>⟨[],rfl,fun i hi=>absurd hi (Nat.not_lt_zero i)⟩
 | n+1,h=>by
  obtain ⟨l,hl,hp⟩:=choose_list n (fun i hi=>h i (by omega))
  obtain ⟨x,hx⟩:=h n (by omega)
  refine ⟨l++[x],by simp [hl],fun i hi=>?_⟩
  by_cases e:i<l.length
  ·rw [List.getElem_append_left e];exact hp i e
  ·have:i=n:=by simp at hi;omega
   subst this
   simp [hl]
   exact hx
theorem addr_add2 (b o n m:Nat):(Addr.add ⟨b,o,none⟩ n).add m=⟨b,o+n+m,none⟩:=by
 unfold Addr.add
 by_cases h1:n=0 <;> by_cases h2:m=0 <;> simp [h1,h2]
theorem spot_of {w:World}{a:Addr}{k n:Nat}{cs:List Value}(h:w.cells? 0 (a.add (0*k)) n=some cs)(hn:0<n):a.spot=none:=by
 obtain ⟨_,hlen,hc⟩:=World.cells?_some h
 have k0:=hc 0 hn
 rw [List.getElem?_eq_getElem (by omega)] at k0
 have:=World.cell?_spot k0
 simpa [Addr.add] using this
theorem Tryz.cellsLPiece:Tryz.prog.cellsOf 112=4:=by kernel_rfl
theorem Tryz.cellsLEnd:Tryz.prog.cellsOf 254=2:=by kernel_rfl
theorem Tryz.cellsLJoint:Tryz.prog.cellsOf 116=3:=by kernel_rfl
theorem Tryz.cellsStr:Tryz.prog.cellsOf 9=1:=by kernel_rfl
theorem Tryz.cellsLEndS:Tryz.prog.cellsOf 114=1:=by kernel_rfl
section
variable {H:Type} {enc:TypeId × Value→H} {w:World}
theorem open_pieces {fuel:Nat}{cs:List Value}{y:DataW H × List MemPlace}(h:DataW.trod enc Tryz.prog w 0 (fun _=>true) true fuel 22 cs=some y):
  ∃ (a:Option Addr) (cap:Nat) (ps:List MPiece),cs=[.slice a ps.length cap]∧PiecesAt w a ps:=by
 rcases open_slice Tryz.underlying22 h with ⟨hcs,_⟩ | ⟨a,len,cap,m,n,D,Pl,hcs,_,hl,hm,hmm,_,hx⟩
 ·exact ⟨none,0,[],hcs,by simp [maxLen],by simp,Or.inl rfl⟩
 ·rw [if_pos rfl] at hmm
  subst hmm
  by_cases hl0:len=0
  ·subst hl0
   exact ⟨some a,m,[],hcs,by simp [maxLen],by simp,Or.inl rfl⟩
  obtain ⟨cs0,hcs0,_⟩:=hx 0 (by omega)
  have hspot:=spot_of hcs0 (by rw [Tryz.cellsLPiece];omega)
  clear hcs0
  obtain ⟨ab,ao,asp⟩:=a
  simp only at hspot
  subst hspot
  have hi:∀ i,i<len→∃ p:MPiece,p.name.size≤maxLen∧w.cell? ⟨ab,ao+i*4,none⟩=some (.string p.name)∧w.cell? ⟨ab,ao+i*4+1,none⟩=some (.int .i64 p.len) ∧
    w.cell? ⟨ab,ao+i*4+2,none⟩=some (.int .i64 p.speed)∧w.cell? ⟨ab,ao+i*4+3,none⟩=some (.int .i64 p.brake):=by
   intro i hi
   obtain ⟨cs',h1,h2⟩:=hx i (by omega)
   rw [Tryz.cellsLPiece] at h1
   obtain ⟨_,hlen,hc⟩:=World.cells?_some h1
   match cs',hlen with
   | [c0,c1,c2,c3],_ =>
    obtain ⟨y0,y1,y2,y3,n',_,_,t0,t1,t2,t3⟩:=Joins.trod_struct4 Tryz.underlying112 h2
    simp [Tryz.cellsStr,Tryz.cellsInt] at t0 t1 t2 t3
    obtain ⟨s,e0,_,hs⟩:=DataW.trod_string Tryz.underlying9 t0
    obtain ⟨x1,e1,_,_⟩:=DataW.trod_int Tryz.underlying3 t1
    obtain ⟨x2,e2,_,_⟩:=DataW.trod_int Tryz.underlying3 t2
    obtain ⟨x3,e3,_,_⟩:=DataW.trod_int Tryz.underlying3 t3
    simp at e0 e1 e2 e3
    subst e0 e1 e2 e3
    have k0:=hc 0 (by omega)
    have k1:=hc 1 (by omega)
    have k2:=hc 2 (by omega)
    have k3:=hc 3 (by omega)
    rw [addr_add2] at k0 k1 k2 k3
    simp at k0 k1 k2 k3
    exact ⟨⟨s,x1,x2,x3⟩,hs,k0,k1,k2,k3⟩
  obtain ⟨ps,hpl,hp⟩:=choose_list len hi
  subst hpl
  refine ⟨_,m,ps,hcs,by omega,?_,?_⟩
  ·intro p hp'
   obtain ⟨i,hi',rfl⟩:=List.getElem_of_mem hp'
   exact (hp i hi').1
  ·exact Or.inr ⟨ab,ao,rfl,fun i hi'=>(hp i hi').2⟩
theorem open_ends {fuel:Nat}{cs:List Value}{y:DataW H × List MemPlace}(h:DataW.trod enc Tryz.prog w 0 (fun _=>true) true fuel 114 cs=some y):
  ∃ (a:Option Addr) (cap:Nat) (ps:List MEnd),cs=[.slice a ps.length cap]∧EndsAt w a ps:=by
 rcases open_slice Tryz.underlying114 h with ⟨hcs,_⟩ | ⟨a,len,cap,m,n,D,Pl,hcs,_,hl,hm,hmm,_,hx⟩
 ·exact ⟨none,0,[],hcs,by simp [maxLen],Or.inl rfl⟩
 ·rw [if_pos rfl] at hmm
  subst hmm
  by_cases hl0:len=0
  ·subst hl0
   exact ⟨some a,m,[],hcs,by simp [maxLen],Or.inl rfl⟩
  obtain ⟨cs0,hcs0,_⟩:=hx 0 (by omega)
  have hspot:=spot_of hcs0 (by rw [Tryz.cellsLEnd];omega)
  clear hcs0
  obtain ⟨ab,ao,asp⟩:=a
  simp only at hspot
  subst hspot
  have hi:∀ i,i<len→∃ p:MEnd,w.cell? ⟨ab,ao+i*2,none⟩=some (.int .i64 p.piece)∧w.cell? ⟨ab,ao+i*2+1,none⟩=some (.int .i64 p.side):=by
   intro i hi
   obtain ⟨cs',h1,h2⟩:=hx i (by omega)
   rw [Tryz.cellsLEnd] at h1
   obtain ⟨_,hlen,hc⟩:=World.cells?_some h1
   match cs',hlen with
   | [c0,c1],_ =>
    obtain ⟨y0,y1,n',_,_,t0,t1⟩:=trod_struct2 Tryz.underlying254 h2
    simp [Tryz.cellsInt] at t0 t1
    obtain ⟨x0,e0,_,_⟩:=DataW.trod_int Tryz.underlying3 t0
    obtain ⟨x1,e1,_,_⟩:=DataW.trod_int Tryz.underlying3 t1
    simp at e0 e1
    subst e0 e1
    have k0:=hc 0 (by omega)
    have k1:=hc 1 (by omega)
    rw [addr_add2] at k0 k1
    simp at k0 k1
    exact ⟨⟨x0,x1⟩,k0,k1⟩
  obtain ⟨ps,hpl,hp⟩:=choose_list len hi
  subst hpl
  refine ⟨_,m,ps,hcs,by omega,?_⟩
  exact Or.inr ⟨ab,ao,rfl,fun i hi'=>hp i hi'⟩
theorem open_joints {fuel:Nat}{cs:List Value}{y:DataW H × List MemPlace}(h:DataW.trod enc Tryz.prog w 0 (fun _=>true) true fuel 23 cs=some y):
  ∃ (a:Option Addr) (cap:Nat) (ps:List MJoint),cs=[.slice a ps.length cap]∧JointsAt w a ps:=by
 rcases open_slice Tryz.underlying23 h with ⟨hcs,_⟩ | ⟨a,len,cap,m,n,D,Pl,hcs,_,hl,hm,hmm,_,hx⟩
 ·exact ⟨none,0,[],hcs,by simp [maxLen],by simp,Or.inl rfl⟩
 ·rw [if_pos rfl] at hmm
  subst hmm
  by_cases hl0:len=0
  ·subst hl0
   exact ⟨some a,m,[],hcs,by simp [maxLen],by simp,Or.inl rfl⟩
  obtain ⟨cs0,hcs0,_⟩:=hx 0 (by omega)
  have hspot:=spot_of hcs0 (by rw [Tryz.cellsLJoint];omega)
  clear hcs0
  obtain ⟨ab,ao,asp⟩:=a
  simp only at hspot
  subst hspot
  have hi:∀ i,i<len→∃ p:MJoint,p.name.size≤maxLen∧w.cell? ⟨ab,ao+i*3,none⟩=some (.int .i64 p.kind)∧w.cell? ⟨ab,ao+i*3+1,none⟩=some (.string p.name) ∧
    ∃ ea ec,w.cell? ⟨ab,ao+i*3+2,none⟩=some (.slice ea p.ends.length ec)∧EndsAt w ea p.ends:=by
   intro i hi
   obtain ⟨cs',h1,h2⟩:=hx i (by omega)
   rw [Tryz.cellsLJoint] at h1
   obtain ⟨_,hlen,hc⟩:=World.cells?_some h1
   match cs',hlen with
   | [c0,c1,c2],_ =>
    obtain ⟨y0,y1,y2,n',_,_,t0,t1,t2⟩:=trod_struct3 Tryz.underlying116 h2
    simp [Tryz.cellsStr,Tryz.cellsInt,Tryz.cellsLEndS] at t0 t1 t2
    obtain ⟨x0,e0,_,_⟩:=DataW.trod_int Tryz.underlying3 t0
    obtain ⟨s,e1,_,hs⟩:=DataW.trod_string Tryz.underlying9 t1
    obtain ⟨ea,ec,es,e2,he⟩:=open_ends t2
    simp at e0 e1 e2
    subst e0 e1 e2
    have k0:=hc 0 (by omega)
    have k1:=hc 1 (by omega)
    have k2:=hc 2 (by omega)
    rw [addr_add2] at k0 k1 k2
    simp at k0 k1 k2
    exact ⟨⟨x0,s,es⟩,hs,k0,k1,ea,ec,k2,he⟩
  obtain ⟨ps,hpl,hp⟩:=choose_list len hi
  subst hpl
  refine ⟨_,m,ps,hcs,by omega,?_,?_⟩
  ·intro p hp'
   obtain ⟨i,hi',rfl⟩:=List.getElem_of_mem hp'
   exact (hp i hi').1
  ·exact Or.inr ⟨ab,ao,rfl,fun i hi'=>(hp i hi').2⟩
end
end Go.Proofs.YtmkdgnmmebldgabGreatDoor
namespace Go.Proofs.YtmkdgnmmebldgabGreatDoor
open Go.RowKit Go.Deep
theorem Tryz.infoS:(Tryz.prog.info? 84).map (fun i=>(i.zero,i.size,i.bytes))=some (some (.agg #[.string ⟨#[]⟩,.int .i64 0,.int .i64 0,.int .i64 0]),4,40):=by kernel_rfl
theorem szSignal_any (s:ByteArray)(l sp br left:Int)(w:World)(hs:s.size≤maxLen)(h0:0≤left)(h1:left≤1048576):
  Calls Tryz.prog 29 #[.agg #[.string s,.int .i64 l,.int .i64 sp,.int .i64 br],.int .i64 left] w fun e w'=>e = .returned (.int .i64 (if left<s.size then -1 else left-s.size))∧Below w.heap.size w w':=by
 unfold maxLen at hs
 by_cases hl:left<s.size
 ·rw [if_pos hl]
  go_enter Tryz.func29,Tryz.ntmps29
  go_wp2
  go_ret
  exact ⟨rfl,(Below.refl _ _).alloc (Nat.le_refl _) _⟩
 ·rw [if_neg hl]
  go_enter Tryz.func29,Tryz.ntmps29
  go_wp2
  go_ret
  exact ⟨rfl,(Below.refl _ _).alloc (Nat.le_refl _) _⟩
theorem toSignal_any (s:ByteArray)(l sp br:Int)(w:World):
  Calls Tryz.prog 39 #[.agg #[.string s,.int .i64 l,.int .i64 sp,.int .i64 br]] w fun e w'=>e = .returned (.agg #[.string s,.int .i64 l,.int .i64 sp,.int .i64 br])∧Below w.heap.size w w':=by
 go_enter Tryz.func39,Tryz.ntmps39
 go_wp2
 exact bodyPost_ret (v:=.agg #[.string s,.int .i64 l,.int .i64 sp,.int .i64 br]) (by simp [results,Tryz.results39,go_sem]) rfl ⟨rfl,blo⟩
theorem eqSignal_any (s:ByteArray)(l sp br:Int)(w:World):
  Calls Tryz.prog 45 #[.agg #[.string s,.int .i64 l,.int .i64 sp,.int .i64 br],.agg #[.string s,.int .i64 l,.int .i64 sp,.int .i64 br]] w fun e w'=>e = .returned (.bool true)∧Below w.heap.size w w':=by
 go_enter Tryz.func45,Tryz.ntmps45
 go_wp2
 go_ret
 exact ⟨rfl,blo⟩
theorem szSignalS_walk (b off cap:Nat)(ps:List MPiece)(left:Int)(w:World)(hl:ps.length≤maxLen)(hn:Hid (∀ p,p ∈ ps→p.name.size≤maxLen))(hc:Hid (PieceCells w b off ps))(h0:0≤left)(h1:left≤1048576):
  Calls Tryz.prog 7 #[.slice (some ⟨b,off,none⟩) ps.length cap,.int .i64 left] w fun e w'=>e = .returned (.int .i64 (if left<ps.length then -1 else szP (left-ps.length) ps))∧Below w.heap.size w w':=by
 unfold maxLen at hl
 by_cases hlt:left<ps.length
 ·rw [if_pos hlt]
  go_enter Tryz.func7,Tryz.ntmps7
  go_wp2
  go_ret
  exact ⟨rfl,blo⟩
 ·rw [if_neg hlt]
  go_enter Tryz.func7,Tryz.ntmps7
  go_wp2_with fail
  go_loopw [1,5] (fun l i wr => ∃ (k:Nat) (lf:Int),k≤ps.length∧i = .int .i64 k∧l = .int .i64 lf∧0≤lf∧lf≤1048576∧Hid (szP (left-ps.length) ps=szP lf (ps.drop k))∧Below w.heap.size w wr) (fun _ i _=>ps.length-(intOf i).toNat)
  case atStart=>exact ⟨0,left-ps.length,Nat.zero_le _,rfl,rfl,by omega,by omega,rfl,blo⟩
  case round =>
   obtain ⟨k,lf,hk,rfl,rfl,hf0,hf1,HZ,hb⟩:=hrel
   by_cases hk':k<ps.length
   ·obtain ⟨c1,c2,c3,c4⟩:=(hc.out.below hb) k hk'
    have hsz:ps[k].name.size≤maxLen:=hn.out _ (List.getElem_mem hk')
    have HD:Hid (szP lf (ps.drop k)=if lf<ps[k].name.size then -1 else szP (lf-ps[k].name.size) (ps.drop (k+1))):=by
     unfold Hid
     rw [List.drop_eq_getElem_cons hk']
     rfl
    by_cases hs:lf<ps[k].name.size
    ·have HE:Hid (szP (left-ps.length) ps = -1):=by
      have h:=HD.out
      rw [if_pos hs] at h
      exact HZ.out.trans h
     clear HZ HD
     go_wp2_with (go_at_call 29;refine (szSignal_any _ _ _ _ _ _ hsz hf0 hf1).mono ?_;rintro e w1 ⟨rfl,hb1⟩;rw [if_pos hs])
     go_ret
     exact ⟨ret_int HE.out.symm,hb.trans (hb1.mono hb.size)⟩
    ·have HE:Hid (szP (left-ps.length) ps=szP (lf-ps[k].name.size) (ps.drop (k+1))):=by
      have h:=HD.out
      rw [if_neg hs] at h
      exact HZ.out.trans h
     clear HZ HD
     go_wp2_with (go_at_call 29;refine (szSignal_any _ _ _ _ _ _ hsz hf0 hf1).mono ?_;rintro e w1 ⟨rfl,hb1⟩;rw [if_neg hs])
     go_roundw
     case rel=>exact ⟨k+1,_,by omega,by go_num,rfl,by omega,by omega,HE,hb.trans (hb1.mono hb.size)⟩
     case measure=>simp [intOf];omega
   ·have HE:Hid (szP (left-ps.length) ps=lf):=by
     have h:=HZ.out
     rw [List.drop_of_length_le (by omega)] at h
     exact h
    clear HZ
    go_wp2
    go_ret
    exact ⟨ret_int HE.out.symm,hb⟩
theorem szSignalS_nil (a:Option Addr)(cap:Nat)(left:Int)(w:World)(h0:0≤left)(h1:left≤1048576):
  Calls Tryz.prog 7 #[.slice a 0 cap,.int .i64 left] w fun e w'=>e = .returned (.int .i64 left)∧Below w.heap.size w w':=by
 go_enter Tryz.func7,Tryz.ntmps7
 go_wp2_with fail
 go_loopw [1,5] (fun l i wr=>i = .int .i64 0∧l = .int .i64 left∧wr=w) (fun _ _ _=>0)
 case atStart=>exact ⟨rfl,by simp,rfl⟩
 case round =>
  obtain ⟨rfl,rfl,rfl⟩:=hrel
  go_wp2
  go_ret
  exact ⟨rfl,blo⟩
theorem szSignalS_any (a:Option Addr)(cap:Nat)(ps:List MPiece)(left:Int)(w:World)(hp:PiecesAt w a ps)(h0:0≤left)(h1:left≤1048576):
  Calls Tryz.prog 7 #[.slice a ps.length cap,.int .i64 left] w fun e w'=>e = .returned (.int .i64 (if left<ps.length then -1 else szP (left-ps.length) ps))∧Below w.heap.size w w':=by
 obtain ⟨hl,hn,h⟩:=hp
 rcases h with rfl | ⟨b,off,rfl,hc⟩
 ·rw [if_neg (by simp;omega)]
  have:=szSignalS_nil a cap left w h0 h1
  simpa [szP] using this
 ·exact szSignalS_walk b off cap ps left w hl hn hc h0 h1
theorem eqSignalS_walk (a b:Option Addr)(ac bc:Nat)(ps:List MPiece)(w:World)(ha:Hid (PiecesAt w a ps))(hb:Hid (PiecesAt w b ps)):
  Calls Tryz.prog 18 #[.slice a ps.length ac,.slice b ps.length bc] w fun e w'=>e = .returned (.bool true)∧Below w.heap.size w w':=by
 have hl:=ha.out.1
 unfold maxLen at hl
 go_enter Tryz.func18,Tryz.ntmps18
 go_wp2_with fail
 go_loopw [5] (fun i wr => ∃ (k:Nat),k≤ps.length∧i = .int .i64 k∧Below w.heap.size w wr) (fun i _=>ps.length-(intOf i).toNat)
 case atStart=>exact ⟨0,Nat.zero_le _,rfl,blo⟩
 case round =>
  obtain ⟨k,hk,rfl,hbw⟩:=hrel
  by_cases hk':k<ps.length
  ·obtain ⟨b1,off1,rfl,hpc1⟩:=ha.out.2.2.resolve_left (nz hk')
   obtain ⟨b2,off2,rfl,hpc2⟩:=hb.out.2.2.resolve_left (nz hk')
   obtain ⟨c1,c2,c3,c4⟩:=(hpc1.below hbw) k hk'
   obtain ⟨d1,d2,d3,d4⟩:=(hpc2.below hbw) k hk'
   clear hpc1 hpc2
   go_wp2_with fail
   go_region_with (go_at_call 45;refine (eqSignal_any _ _ _ _ _).mono ?_;rintro e w2 ⟨rfl,hb2⟩)
   all_goals
    go_wp2_with fail
    go_roundw
    case rel=>exact ⟨k+1,by omega,by go_num,hbw.drew.trans (hb2.mono hbw.size)⟩
    case measure=>simp [intOf];omega
  ·go_wp2
   go_ret
   exact ⟨rfl,hbw⟩
end Go.Proofs.YtmkdgnmmebldgabGreatDoor
namespace Go.Proofs.YtmkdgnmmebldgabGreatDoor
open Go.ChangeShapes Go.WideShapes Go.ChangeAt Go.RowKit Go.Deep
theorem Tryz.cellsLSignal:Tryz.prog.cellsOf 63=4:=by kernel_rfl
theorem ownSig:ownKnob Tryz.prog.godebug=none:=by kernel_rfl
theorem cellsLNetSig:Tryz.prog.cellsOf 25=2:=by kernel_rfl
section
variable {H:Type} {enc:TypeId × Value→H} {w:World}
theorem open_signals {fuel:Nat}{cs:List Value}{y:DataW H × List MemPlace}(h:DataW.trod enc Tryz.prog w 0 (fun _=>true) true fuel 26 cs=some y):
  ∃ (a:Option Addr) (cap:Nat) (ps:List MPiece),cs=[.slice a ps.length cap]∧PiecesAt w a ps:=by
 rcases open_slice Tryz.underlying26 h with ⟨hcs,_⟩ | ⟨a,len,cap,m,n,D,Pl,hcs,_,hl,hm,hmm,_,hx⟩
 ·exact ⟨none,0,[],hcs,by simp [maxLen],by simp,Or.inl rfl⟩
 ·rw [if_pos rfl] at hmm
  subst hmm
  by_cases hl0:len=0
  ·subst hl0
   exact ⟨some a,m,[],hcs,by simp [maxLen],by simp,Or.inl rfl⟩
  obtain ⟨cs0,hcs0,_⟩:=hx 0 (by omega)
  have hspot:=spot_of hcs0 (by rw [Tryz.cellsLSignal];omega)
  clear hcs0
  obtain ⟨ab,ao,asp⟩:=a
  simp only at hspot
  subst hspot
  have hi:∀ i,i<len→∃ p:MPiece,p.name.size≤maxLen∧w.cell? ⟨ab,ao+i*4,none⟩=some (.string p.name)∧w.cell? ⟨ab,ao+i*4+1,none⟩=some (.int .i64 p.len) ∧
    w.cell? ⟨ab,ao+i*4+2,none⟩=some (.int .i64 p.speed)∧w.cell? ⟨ab,ao+i*4+3,none⟩=some (.int .i64 p.brake):=by
   intro i hi
   obtain ⟨cs',h1,h2⟩:=hx i (by omega)
   rw [Tryz.cellsLSignal] at h1
   obtain ⟨_,hlen,hc⟩:=World.cells?_some h1
   match cs',hlen with
   | [c0,c1,c2,c3],_ =>
    obtain ⟨y0,y1,y2,y3,n',_,_,t0,t1,t2,t3⟩:=Joins.trod_struct4 Tryz.underlying63 h2
    simp [Tryz.cellsStr,Tryz.cellsInt] at t0 t1 t2 t3
    obtain ⟨s,e0,_,hs⟩:=DataW.trod_string Tryz.underlying9 t0
    obtain ⟨x1,e1,_,_⟩:=DataW.trod_int Tryz.underlying3 t1
    obtain ⟨x2,e2,_,_⟩:=DataW.trod_int Tryz.underlying3 t2
    obtain ⟨x3,e3,_,_⟩:=DataW.trod_int Tryz.underlying3 t3
    simp at e0 e1 e2 e3
    subst e0 e1 e2 e3
    have k0:=hc 0 (by omega)
    have k1:=hc 1 (by omega)
    have k2:=hc 2 (by omega)
    have k3:=hc 3 (by omega)
    rw [addr_add2] at k0 k1 k2 k3
    simp at k0 k1 k2 k3
    exact ⟨⟨s,x1,x2,x3⟩,hs,k0,k1,k2,k3⟩
  obtain ⟨ps,hpl,hp⟩:=choose_list len hi
  subst hpl
  refine ⟨_,m,ps,hcs,by omega,?_,?_⟩
  ·intro p hp'
   obtain ⟨i,hi',rfl⟩:=List.getElem_of_mem hp'
   exact (hp i hi').1
  ·exact Or.inr ⟨ab,ao,rfl,fun i hi'=>(hp i hi').2⟩
end
end Go.Proofs.YtmkdgnmmebldgabGreatDoor
