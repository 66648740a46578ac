import Derived.Test.YtmkdgnmmebldgabGreatDoorPl51
import Derived.Laws.IdiomStrings
import Derived.Lib.BufferRead
import Derived.Test.YtmkdgnmmebldgabGreatDoorPl50
import Derived.Test.YtmkdgnmmebldgabGreatDoorPl43
import Derived.Test.YtmkdgnmmebldgabGreatDoorPl38
import Derived.Test.YtmkdgnmmebldgabGreatDoorPl37
set_option maxRecDepth 100000
set_option maxHeartbeats 8000000
namespace Go.Proofs.YtmkdgnmmebldgabGreatDoor
open Go.RowKit Go.Deep
theorem conv_row {w:World}{B:Nat}{v:Value}{bs:List UInt8}(h:w.ownsRow B 5 1 v bs.length (Lib.byteCells bs)):(convert 102 9 v).run Tryz.prog w = .ok (.string ⟨bs.toArray⟩) w:=by
 rcases h.2 with ⟨hv,hz⟩ | ⟨g,cap,cur,hv,r⟩
 ·have e:bs=[]:=List.eq_nil_of_length_eq_zero hz
  subst e
  rw [hv]
  exact Lib.run_convert_nil_bytes w _ _ _ _ Tryz.underlying102 Tryz.underlying5 Tryz.underlying9
 ·subst hv
  refine run_convert_bytes_back w _ _ 5 ⟨g,0,none⟩ cap bs Tryz.underlying102 Tryz.underlying5 Tryz.underlying9 (fun j hj=>?_)
  have:=h.cells (g:=g) rfl j (.int .u8 bs[j].toNat) (by simp [Lib.byteCells,hj])
  simpa [Addr.add] using this
theorem why_parts {ps:List MPiece}{js:List MJoint}{ss:List MPiece}{rs:List MRoute}(h:whyF ps js ss rs=0):sigF ps js ss=(0,0)∧rs.length≤300:=by
 by_cases h1:sigF ps js ss=(0,0)
 ·refine ⟨h1,?_⟩
  by_cases h2:300<rs.length
  ·rw [whyF_2 h1 h2] at h;cases h
  ·omega
 ·rw [whyF_1 h1] at h;cases h
theorem itoa_le {k:Nat}(h:k≤1000):(Lib.itoa (k:Int)).length≤21:=Lib.itoa_length_le k (by omega) (by omega)
theorem specListing_any (pa ja sa ra:Option Addr)(pc jc sc rc:Nat)(ps:List MPiece)(js:List MJoint)(ss:List MPiece)(rs:List MRoute)(w:World)(hp:Hid (PiecesAt w pa ps))(hj:Hid (JointsAt w ja js))(hs:Hid (PiecesAt w sa ss))(hr:Hid (RoutesAt w ra rs)):
  Calls Tryz.prog 21 #[.agg #[.slice pa ps.length pc,.slice ja js.length jc],.slice sa ss.length sc,.slice ra rs.length rc] w fun e w' => ∃ t:ByteArray,e = .returned (.string t)∧t.data.toList=textF ps js ss rs∧Below w.heap.size w w':=by
 obtain ⟨O,hO⟩:∃ O,textF ps js ss rs=O:=⟨_,rfl⟩
 rw [hO]
 have HO:=hidP hO
 clear hO
 obtain ⟨i0,hi,hz0,hz1,hz2⟩:=info_parts Tryz.infoByteW
 have hrl:=hr.out.1
 unfold maxLen at hrl
 go_enter Tryz.func21,Tryz.ntmps21
 go_upto_region 1 with fail
 generalize hW:World.alloc w _=W
 have e0:W.cell? ⟨w.heap.size,0,none⟩=some (.slice pa ps.length pc):=by rw [← hW];simp [go_sem]
 have e1:W.cell? ⟨w.heap.size,1,none⟩=some (.slice ja js.length jc):=by rw [← hW];simp [go_sem]
 have hbW:Below w.heap.size w W:=by rw [← hW];exact blo
 clear hW
 have HLO:=hidP (l4route_any pa ja sa ra pc jc sc rc ps js ss rs W (hp.out.below hbW) (hj.out.below hbW) (hs.out.below hbW) (hr.out.below hbW))
 have HBW:=hidP hbW
 have HP:=hidP (hp.out.below hbW)
 have HJ:=hidP (hj.out.below hbW)
 have HR:=hidP (hr.out.below hbW)
 have HS:=hidP (hs.out.below hbW)
 have HWB:Hid (whyB ps js ss rs=decide (whyF ps js ss rs=0)):=rfl
 obtain ⟨y,hy⟩:∃ y,whyB ps js ss rs=y:=⟨_,rfl⟩
 rw [hy] at HLO HWB
 clear hy hbW hp hj hs hr
 go_wp2_with fail
 refine HLO.out.mono ?_
 rintro e w1 ⟨rfl,hb1⟩
 have E0:=hidP (cell_later hb1 e0)
 have E1:=hidP (cell_later hb1 e1)
 have HB1:=hidP hb1
 have HP1:=hidP (HP.out.below hb1)
 have HJ1:=hidP (HJ.out.below hb1)
 have HR1:=hidP (HR.out.below hb1)
 have HS1:=hidP (HS.out.below hb1)
 clear hb1 HLO HR HS HP HJ e0 e1
 generalize w.heap.size=X0 at E0 E1 ⊢
 obtain ⟨n,hn⟩:∃ n,rs.length=n:=⟨_,rfl⟩
 rw [hn] at hrl ⊢
 have HN:=hidP hn
 clear hn
 cases y
 ·have HE:Hid (O=[]):=by unfold Hid;rw [← HO.out];unfold textF;rw [if_neg (of_decide_eq_false HWB.out.symm)]
  go_wp2_with fail
  go_ret
  exact ⟨_,rfl,by rw [HE.out],HBW.out.trans (HB1.out.mono HBW.out.size)⟩
 have HWY:Hid (whyF ps js ss rs=0):=by have h:=HWB.out.symm;unfold Hid;exact of_decide_eq_true h
 have HALL:=hidP (all_line HWY.out)
 have N:=hidP (short_of (why_parts HWY.out).1)
 have hn3:n≤300:=by rw [← HN.out];exact (why_parts HWY.out).2
 have HE:Hid (O=linesT ps js ss 0 rs):=by unfold Hid;rw [← HO.out];unfold textF;rw [if_pos HWY.out]
 clear HWB HWY HO
 go_wp2_with fail
 go_loopw [7,18] (fun u c wr => ∃ (k:Nat) (o:Value),k≤n∧o=u∧c = .int .i64 k∧Hid (wr.ownsRow w1.heap.size 5 1 o (linesT ps js ss 0 (rs.take k)).length (Lib.byteCells (linesT ps js ss 0 (rs.take k))))∧Hid (Below w1.heap.size w1 wr)) (fun _ c _=>n-(intOf c).toNat)
 case atStart=>exact ⟨0,_,Nat.zero_le _,rfl,rfl,World.ownsRow_nil _ _ _ _,Below.refl _ _⟩
 case round =>
  obtain ⟨k,o,hk,rfl,rfl,HOW,HBr⟩:=hrel
  by_cases hk':k<n
  ·have hki:(k:Int)<n:=by omega
   have hkl:k<rs.length:=by rw [HN.out];exact hk'
   obtain ⟨b,o2,ha,hc⟩:=(HR1.out.below HBr.out).2.resolve_left (fun e=>by rw [e] at hkl;exact absurd hkl (Nat.not_lt_zero _))
   obtain ⟨d,⟨c0,c1,c2,c3,c4,c5,c6,c7⟩,ql⟩:=hc k hkl
   have HLN:=hidP (HALL.out _ (List.getElem_mem hkl))
   have HON:=hidP (linesT_on (ps:=ps) (js:=js) (ss:=ss) hkl)
   have HLL:Hid ((linesT ps js ss 0 (rs.take k)).length≤300000000):=by
    have h:=linesT_le N.out (rs.take k) 0 (fun r hr=>HALL.out r (List.mem_of_mem_take hr)) (by rw [List.length_take];omega)
    rw [List.length_take] at h
    unfold Hid
    omega
   generalize rs[k]=r at c0 c1 c2 c3 c4 c5 c6 c7 ql HLN HON
   generalize linesT ps js ss 0 (rs.take k)=bs at HOW HON HLL
   have HQL:=hidP ql
   subst ha
   clear hc ql hkl
   go_upto_region 7 with fail
   generalize hW2:World.alloc wr _=W2
   have hb2:Below wr.heap.size wr W2:=by rw [← hW2];exact blo
   have HX:Hid (RouteCell W2 wr.heap.size 0 d r):=by rw [← hW2];exact routeCell_box _ _ _ _
   clear hW2 c0 c1 c2 c3 c4 c5 c6 c7
   have HB2:Hid (Below w1.heap.size w1 W2):=HBr.out.trans (hb2.mono HBr.out.size)
   have HQ2:=hidP (HQL.out.below hb2)
   have HO2:=hidP (owns_below HOW.out hb2)
   have e0:=cell_later HB2.out E0.out
   have e1:=cell_later HB2.out E1.out
   generalize wr.heap.size=X at HX ⊢
   clear hb2 HQL HOW HBr
   obtain ⟨S,hS⟩:∃ S:World→Prop,∀ u,S u↔Below W2.heap.size W2 u:=⟨_,fun _=>Iff.rfl⟩
   have HS0:=hidP hS
   have yr:∀ u:Held S,RouteCell u.val X 0 d r:=fun u=>HX.out.below ((hS u.val).1 u.2)
   have q0:∀ u:Held S,World.cell? u.val ⟨X0,0,none⟩=some (.slice pa ps.length pc):=fun u=>cell_later ((hS u.val).1 u.2) e0
   have q1:∀ u:Held S,World.cell? u.val ⟨X0,1,none⟩=some (.slice ja js.length jc):=fun u=>cell_later ((hS u.val).1 u.2) e1
   have v0:∀ u:Held S,World.cell? u.val ⟨X,0,none⟩=some (.int .i64 r.start):=fun u=>by simpa using (yr u).k0
   have v1:∀ u:Held S,World.cell? u.val ⟨X,1,none⟩=some (.int .i64 r.stop):=fun u=>by simpa using (yr u).k1
   have v2:∀ u:Held S,World.cell? u.val ⟨X,2,none⟩=some (.slice d.a0 r.steps.length d.c0):=fun u=>by simpa using (yr u).k2
   have v3:∀ u:Held S,World.cell? u.val ⟨X,3,none⟩=some (.slice d.a1 r.lies.length d.c1):=fun u=>by simpa using (yr u).k3
   have v4:∀ u:Held S,World.cell? u.val ⟨X,4,none⟩=some (.slice d.a2 r.crosses.length d.c2):=fun u=>by simpa using (yr u).k4
   have v5:∀ u:Held S,World.cell? u.val ⟨X,5,none⟩=some (.slice d.a3 r.parts.length d.c3):=fun u=>by simpa using (yr u).k5
   have v6:∀ u:Held S,World.cell? u.val ⟨X,6,none⟩=some (.slice d.a4 r.over.length d.c4):=fun u=>by simpa using (yr u).k6
   have v7:∀ u:Held S,World.cell? u.val ⟨X,7,none⟩=some (.slice d.a5 r.flanks.length d.c5):=fun u=>by simpa using (yr u).k7
   have hS1:S W2.drew:=(hS _).2 ((Below.refl _ _).drew)
   have hne:=held_ne hS1
   have hz32:(ByteArray.mk #[32]).size=1:=rfl
   have HLI:Hid (∀ u,Below W2.heap.size W2 u→Calls Tryz.prog 49 #[.agg #[.slice pa ps.length pc,.slice ja js.length jc],.slice sa ss.length sc,routeV d r] u fun e w'=>(∃ t:ByteArray,e = .returned (.string t)∧t.data.toList=lineS ps js ss r)∧Below u.heap.size u w'):=fun u hu =>
    have hb:=HB2.out.trans (hu.mono HB2.out.size)
    l4line_any pa ja sa pc jc sc d r u (hidQ (HP1.out.below hb)) (hidQ (HJ1.out.below hb)) (hidQ (HS1.out.below hb)) (hidQ (HQ2.out.below hu)) N HLN
   clear hS yr e0 e1 HX
   refine wp_region_tree (fun w' => ∃ u:Held S,w'=u.val) 7 (by kernel_rfl) (by kernel_rfl) (held_some hS1) ?_
   (refine wpT_sea 0 ?_;intro K hK;go_big_quiet_op;go_big_quiet_on)
   (refine wpT_sea 3 ?_;intro K hK;go_big_quiet_op;go_big_quiet_on);(refine wpT_sea 4 ?_;intro K hK;go_big_quiet_op;go_big_quiet_on);(refine wpT_sea 5 ?_;intro K hK;go_big_quiet_op;go_big_quiet_on)
   refine wpT_loud 1 (by rfl) (by kernel_rfl) (by kernel_rfl) ?_
   intro KK hK
   go_wp2_with (go_at_call 48;refine (decimalT_any k _ (by omega)).mono ?_;rintro e w5 ⟨⟨t,rfl,ht⟩,hb5'⟩)
   have hb5:Below W2.heap.size W2 w5:=(Below.refl _ _).drew.trans hb5'
   refine hK _ _ (held_some ((HS0.out _).2 hb5)) ?_
   clear hK KK hb5'
   have HT:=hidP ht
   have hts:t.size≤21:=by rw [size_of ht];exact itoa_le (by omega)
   clear ht
   (refine wpT_sea 2 ?_;intro K hK;go_big_quiet_op;go_big_quiet_on)
   refine wpT_loud 6 (by rfl) (by kernel_rfl) (by kernel_rfl) ?_
   intro KK hK
   go_wp2_with (go_at_call 49;refine (HLI.out _ hb5).mono ?_;rintro e w6 ⟨⟨t2,rfl,ht2⟩,hb6'⟩)
   have hb6:Below W2.heap.size W2 w6:=hb5.trans (hb6'.mono hb5.size)
   refine hK _ _ (held_some ((HS0.out _).2 hb6)) ?_
   clear hK KK hb6' hb5 q0 q1 v0 v1 v2 v3 v4 v5 v6 v7 hS1 hne
   refine wpT_done (by kernel_rfl) ?_
   have HTX:Hid ((t++⟨#[32]⟩++t2).data.toList=lineT ps js ss k r):=by
    unfold Hid
    rw [catL,catL,HT.out,ht2,lineS_line,List.append_assoc]
   have HTL:=hidP (lineT_le N.out HLN.out (i:=(k:Int)) (by omega) (by omega))
   have hsz:t2.size≤1000000:=by
    have h:=size_of HTX.out
    have h2:=HTL.out
    rw [ByteArray.size_append] at h
    omega
   have hsx:(t++⟨#[32]⟩++t2).size≤1000000:=by
    have h:=size_of HTX.out
    have h2:=HTL.out
    omega
   have HO6:=hidP (owns_below HO2.out hb6)
   have HB6:Hid (Below w1.heap.size w1 w6):=HB2.out.trans (hb6.mono HB2.out.size)
   have hll:=HLL.out
   clear HO2 hb6 ht2 HLI
   go_wp2_with (at_builtin;refine Lib.wpList_append_own_string _ rfl (.tmp 31) (.tmp 32) 102 9 rfl w1.heap.size 5 i0 Tryz.underlying102 Tryz.underlying9 hi hz0 hz1 hz2 _ _ _ rfl HO6.out (t++⟨#[32]⟩++t2) rfl (by unfold maxLen;omega) (by omega) HB6.out.size ?_)
   intro v' w7 hown hg hnil
   have HB7:=hidP (push_below HB6.out HO6.out hg HB6.out.size)
   have HO7:Hid (w7.ownsRow w1.heap.size 5 1 v' (linesT ps js ss 0 (rs.take (k+1))).length (Lib.byteCells (linesT ps js ss 0 (rs.take (k+1))))):=by
    unfold Hid
    have hl:(t++⟨#[32]⟩++t2).data.toList.length=t.size+1+t2.size:=by
     show (t++⟨#[32]⟩++t2).size=_
     rw [ByteArray.size_append,ByteArray.size_append]
     rfl
    rw [HON.out,← HTX.out,List.length_append,Lib.byteCells_append,hl]
    exact hown
   clear hown hg hnil HO6 HB6
   go_wp2_with fail
   go_roundw
   case rel=>exact ⟨k+1,_,by omega,rfl,by go_num,HO7,HB7⟩
   case measure=>simp [intOf];omega
  ·have hki:¬ (k:Int)<n:=by omega
   have HOW2:Hid (wr.ownsRow w1.heap.size 5 1 o (linesT ps js ss 0 rs).length (Lib.byteCells (linesT ps js ss 0 rs))):=by
    have h:=HOW.out
    rw [List.take_of_length_le (by rw [HN.out];omega)] at h
    exact h
   have hcv:=conv_row HOW2.out
   generalize linesT ps js ss 0 rs=bs at hcv HE
   clear HOW HOW2
   go_wp2_with fail
   go_ret
   exact ⟨_,rfl,by rw [HE.out],HBW.out.trans ((HB1.out.trans (HBr.out.mono HB1.out.size)).mono HBW.out.size)⟩
end Go.Proofs.YtmkdgnmmebldgabGreatDoor
namespace Go.Proofs.YtmkdgnmmebldgabGreatDoor
open Go.RowKit Go.Deep Go.Maps
theorem pieces_rowD {w:World}{t g:Nat}{ps:List MPiece}{a:Option Addr}{w0:World}(h:PieceRowAt w t g ps)(h0:PiecesAt w0 a ps):PiecesAt w (some ⟨g,0,none⟩) ps:=⟨h0.1,h0.2.1,Or.inr ⟨g,0,rfl,h.cells⟩⟩
theorem joints_rowD {w:World}{g:Nat}{js:List MJoint}{a:Option Addr}{w0:World}(h:JointRowAt w g js)(h0:JointsAt w0 a js)(hl:∀ j,j ∈ js→j.ends.length≤1048576):JointsAt w (some ⟨g,0,none⟩) js:=⟨h0.1,h0.2.1,Or.inr ⟨g,0,rfl,h.cells hl⟩⟩
theorem bytesEq {a b:ByteArray}(h:a.data.toList=b.data.toList):a=b:=by
 cases a
 cases b
 congr
 exact Array.ext' h
theorem lawListing_any (pa ja sa ra:Option Addr)(pc jc sc rc:Nat)(ps:List MPiece)(js:List MJoint)(ss:List MPiece)(rs:List MRoute)(w:World)(hp:Hid (PiecesAt w pa ps))(hj:Hid (JointsAt w ja js))(hs:Hid (PiecesAt w sa ss))(hr:Hid (RoutesAt w ra rs))(ht:Hid (TabU w)):
  Calls Tryz.prog 4 #[.agg #[.slice pa ps.length pc,.slice ja js.length jc],.slice sa ss.length sc,.slice ra rs.length rc] w fun e w'=>e = .returned (.bool true)∧Below w.heap.size w w':=by
 go_enter Tryz.func4,Tryz.ntmps4
 go_upto_region 1 with fail
 generalize hW:World.alloc w _=W
 have e0:W.cell? ⟨w.heap.size,0,none⟩=some (.slice pa ps.length pc):=by rw [← hW];simp [go_sem]
 have e1:W.cell? ⟨w.heap.size,1,none⟩=some (.slice ja js.length jc):=by rw [← hW];simp [go_sem]
 have hzA:w.heap.size<W.heap.size:=by rw [← hW];simp
 have HBW:Hid (Below w.heap.size w W):=by rw [← hW];exact (Below.refl _ _).alloc (Nat.le_refl _) _
 have HP:=hidQ (hp.out.below HBW.out)
 have HJ:=hidQ (hj.out.below HBW.out)
 have HS:=hidQ (hs.out.below HBW.out)
 have HR:=hidQ (hr.out.below HBW.out)
 have HTB:=hidQ (ht.out.below HBW.out)
 have E0:=hidP e0
 have E1:=hidP e1
 clear hW hp hj hs hr ht
 have HSZ0:=hidP (szNet_any pa ja pc jc ps js 1048576 W HP HJ (by omega) (by omega))
 go_upto_region 3 with (go_at_call 6;refine HSZ0.out.mono ?_;rintro e w1 ⟨r,rfl,hr1,hr2,hb1⟩;have HSZ:=hidQ hr2;have HB1:=hidP hb1;clear hr2 hb1)
 by_cases hr:r<0
 ·go_wp2_with fail
  go_ret
  exact ⟨rfl,HBW.out.trans (HB1.out.mono HBW.out.size)⟩
 obtain ⟨sz1,sz2,sz3⟩:=HSZ.out (by omega)
 have SZ3:=hidQ sz3
 clear sz3 HSZ HSZ0
 have hrs:∃ r2:Int,(if r<ss.length then -1 else szP (r-ss.length) ss)=r2∧r2≤r∧(0≤r2→(ss.length:Int)≤1048576):=by
  refine ⟨_,rfl,?_,?_⟩
  ·by_cases h:r<ss.length
   ·rw [if_pos h];omega
   ·rw [if_neg h]
    have:=(szP_le ss (r-ss.length) (by omega)).1
    omega
  ·by_cases h:r<ss.length
   ·rw [if_pos h];exact fun h=>absurd h (by omega)
   ·exact fun _=>by omega
 obtain ⟨r2,hq1,hq3,hq2⟩:=hrs
 have HQ2:=hidQ hq2
 have HSG0:=hidP (szSignalS_any sa sc ss r w1 (HS.out.below HB1.out) (by omega) (by omega))
 rw [hq1] at HSG0
 clear hq1 hq2
 go_upto_region 6 with (go_at_call 7;refine HSG0.out.mono ?_;rintro e w2 ⟨rfl,hb2⟩;have HB2:Hid (Below W.heap.size W w2):=HB1.out.trans (hb2.mono HB1.out.size);clear hb2)
 by_cases hr3:r2<0
 ·go_wp2_with fail
  go_ret
  exact ⟨rfl,HBW.out.trans (HB2.out.mono HBW.out.size)⟩
 have sz4:ss.length≤1048576:=by have:=HQ2.out (by omega);omega
 clear HQ2 HSG0 HB1
 have HSR0:=hidP (szRouteS_any ra rc rs r2 w2 (HR.out.below HB2.out) (by omega) (by omega))
 go_upto_region 9 with (go_at_call 8;refine HSR0.out.mono ?_;rintro e w3 ⟨r3,rfl,hle3,hln3,hb3⟩;have HL3:=hidP hln3;have HB3:Hid (Below W.heap.size W w3):=HB2.out.trans (hb3.mono HB2.out.size);clear hb3 hln3)
 by_cases hr4:r3<0
 ·go_wp2_with fail
  go_ret
  exact ⟨rfl,HBW.out.trans (HB3.out.mono HBW.out.size)⟩
 have HLR:=hidP (HL3.out (by omega))
 clear HL3 HSR0 HB2
 have HTN:Hid (∀ u:World,Below W.heap.size W u→Calls Tryz.prog 11 #[.agg #[.slice pa ps.length pc,.slice ja js.length jc]] u fun e w' => ∃ g h,e = .returned (.agg #[.slice (some ⟨g,0,none⟩) ps.length ps.length,.slice (some ⟨h,0,none⟩) js.length js.length])∧Hid (PiecesAt w' (some ⟨g,0,none⟩) ps)∧Hid (JointsAt w' (some ⟨h,0,none⟩) js)∧Below u.heap.size u w'):=fun u hu=>(toNet_row pa ja pc jc ps js u (HP.out.below hu) (HJ.out.below hu) sz1 sz2 SZ3).mono (fun e w' ⟨g,h,he,hpr,hjr,hb,_,_⟩=>⟨g,h,he,pieces_rowD hpr.out HP.out,joints_rowD hjr.out HJ.out SZ3.out,hb⟩)
 have HTS:Hid (∀ u:World,Below W.heap.size W u→Calls Tryz.prog 12 #[.slice sa ss.length sc] u fun e w' => ∃ g,e = .returned (.slice (some ⟨g,0,none⟩) ss.length ss.length)∧Hid (PiecesAt w' (some ⟨g,0,none⟩) ss)∧Below u.heap.size u w'):=fun u hu=>(toSignalS_row sa sc ss u (HS.out.below hu) sz4).mono (fun e w' ⟨g,he,hsr,hb,_⟩=>⟨g,he,pieces_rowD hsr.out HS.out,hb⟩)
 have HTR:Hid (∀ u:World,Below W.heap.size W u→Calls Tryz.prog 13 #[.slice ra rs.length rc] u fun e w' => ∃ G,e = .returned (.slice (some ⟨G,0,none⟩) rs.length rs.length)∧Hid (RoutesAt w' (some ⟨G,0,none⟩) rs)∧Below u.heap.size u w'):=fun u hu=>(toRouteS_row ra rc rs u (HR.out.below hu) HLR).mono (fun e w' ⟨G,gg,f,he,h1,h2,hb,_⟩=>⟨G,he,routes_of_row h1.out h2.out HLR.out,hb⟩)
 replace e0:=cell_later HB3.out E0.out
 replace e1:=cell_later HB3.out E1.out
 have hz4:=cellLt e0
 dsimp only at hz4
 go_upto_region 12 with (first
  | (go_at_call 11;refine (HTN.out _ HB3.out).mono ?_;rintro e w5 ⟨g1,g2,rfl,hp5,hj5,hb5⟩;have HB5:Hid (Below W.heap.size W w5):=HB3.out.trans (hb5.mono HB3.out.size);clear hb5)
  | (go_at_call 12;refine (HTS.out _ HB5.out).mono ?_;rintro e w6 ⟨g3,rfl,hs6,hb6⟩;have HB6:Hid (Below W.heap.size W w6):=HB5.out.trans (hb6.mono HB5.out.size);have hp6:=hidP (hp5.out.below hb6);have hj6:=hidP (hj5.out.below hb6);clear hb6)
  | (go_at_call 13;refine (HTR.out _ HB6.out).mono ?_;rintro e w7 ⟨g4,rfl,hr7,hb7⟩;have HB7:Hid (Below W.heap.size W w7):=HB6.out.trans (hb7.mono HB6.out.size);have hp7:=hidP (hp6.out.below hb7);have hj7:=hidP (hj6.out.below hb7);have hs7:=hidP (hs6.out.below hb7);clear hb7)
  | (go_at_call 21;refine (specListing_any _ _ _ _ _ _ _ _ ps js ss rs w7 hp7 hj7 hs7 hr7).mono ?_;rintro e w9 ⟨t1,rfl,ht1,hb9⟩;have HT1:=hidP ht1;have HB9:Hid (Below W.heap.size W w9):=HB7.out.trans (hb9.mono HB7.out.size);clear hb9 ht1))
 obtain ⟨WA,hWA⟩:∃ u,u=w9:=⟨_,rfl⟩
 subst hWA
 have HBA:=HB9
 clear hp5 hj5 hp6 hj6 hs6 hp7 hj7 hs7 hr7 HB5 HB6 HB7 HB9
 replace e0:=cell_later HBA.out E0.out
 replace e1:=cell_later HBA.out E1.out
 have hzA2:=cellLt e0
 dsimp only at hzA2
 go_upto_region 13 with (go_at_call 11;refine (HTN.out _ HBA.out).mono ?_;rintro e w10 ⟨g6,g7,rfl,hp10,hj10,hb10⟩)
 generalize hWB:World.alloc w10 _=WB
 have x0:WB.cell? ⟨w10.heap.size,0,none⟩=some (.slice (some ⟨g6,0,none⟩) ps.length ps.length):=by rw [← hWB];simp [go_sem]
 have x1:WB.cell? ⟨w10.heap.size,1,none⟩=some (.slice (some ⟨g7,0,none⟩) js.length js.length):=by rw [← hWB];simp [go_sem]
 have hbB:Below w10.heap.size w10 WB:=by rw [← hWB];exact (Below.refl _ _).alloc (Nat.le_refl _) _
 have HAB:Hid (Below WA.heap.size WA WB):=hb10.trans (hbB.mono hb10.size)
 have hpB:=hidP (hp10.out.below hbB)
 have hjB:=hidP (hj10.out.below hbB)
 generalize w10.heap.size=B at x0 x1 hbB ⊢
 clear hWB hp10 hj10 hb10 hbB e0 e1 hzA2
 have HBB:Hid (Below W.heap.size W WB):=HBA.out.trans (HAB.out.mono HBA.out.size)
 go_upto_region 14 with (go_at_call 12;refine (HTS.out _ HBB.out).mono ?_;rintro e w11 ⟨g8,rfl,hs11,hb11⟩)
 have HB11:Hid (Below WB.heap.size WB w11):=hb11
 clear hb11
 have HW11:Hid (Below W.heap.size W w11):=HBB.out.trans (HB11.out.mono HBB.out.size)
 go_upto_region 15 with (go_at_call 13;refine (HTR.out _ HW11.out).mono ?_;rintro e w12 ⟨g9,rfl,hr12,hb12⟩)
 have HB12:Hid (Below WB.heap.size WB w12):=HB11.out.trans (hb12.mono HB11.out.size)
 have hs12:=hidP (hs11.out.below hb12)
 clear hb12
 have HW12:Hid (Below W.heap.size W w12):=HBB.out.trans (HB12.out.mono HBB.out.size)
 have HB13:=HB12
 have HW13:=HW12
 obtain ⟨w13,hw13⟩:∃ u,u=w12:=⟨_,rfl⟩
 subst hw13
 have hs13:=hs12
 have hr13:=hr12
 have hp13:=hidP (hpB.out.below HB13.out)
 have hj13:=hidP (hjB.out.below HB13.out)
 clear hs11 hs12 hr12 hpB hjB HB11 HB12 HW11 HW12
 replace x0:=cell_later HB13.out x0
 replace x1:=cell_later HB13.out x1
 have hzx:=cellLt x0
 dsimp only at hzx
 have X0:=hidP x0
 have X1:=hidP x1
 have HIC:=hidP (implListing_any (some ⟨g6,0,none⟩) (some ⟨g7,0,none⟩) (some ⟨g8,0,none⟩) (some ⟨g9,0,none⟩) ps.length js.length ss.length rs.length ps js ss rs w13 hp13 hj13 hs13 hr13 (HTB.out.below HW13.out))
 go_upto_region 16 with (go_at_call 22;refine HIC.out.mono ?_;rintro e w15 ⟨t2,rfl,ht2,hb15⟩)
 have htt:t1=t2:=bytesEq (HT1.out.trans ht2.symm)
 subst htt
 clear ht2 HT1
 go_upto_region 18 with fail
 have HB15:Hid (Below w13.heap.size w13 w15):=hb15
 clear hb15 HIC x0 x1 hzx HAB
 have HW15:Hid (Below W.heap.size W w15):=HW13.out.trans (HB15.out.mono HW13.out.size)
 have hp15:=hidP (hp13.out.below HB15.out)
 have hj15:=hidP (hj13.out.below HB15.out)
 have hs15:=hidP (hs13.out.below HB15.out)
 have hr15:=hidP (hr13.out.below HB15.out)
 have e0:=cell_later HW15.out E0.out
 have e1:=cell_later HW15.out E1.out
 have x0:=cell_later HB15.out X0.out
 have x1:=cell_later HB15.out X1.out
 have hzx:=cellLt x0
 have hze:=cellLt e0
 dsimp only at hzx hze
 obtain ⟨S,hS⟩:∃ S:World→Prop,∀ u,S u↔Below w15.heap.size w15 u:=⟨_,fun _=>Iff.rfl⟩
 have HS0:=hidP hS
 have q0:∀ u:Held S,World.cell? u.val ⟨w.heap.size,0,none⟩=some (.slice pa ps.length pc):=fun u=>cell_later ((hS u.val).1 u.2) e0
 have q1:∀ u:Held S,World.cell? u.val ⟨w.heap.size,1,none⟩=some (.slice ja js.length jc):=fun u=>cell_later ((hS u.val).1 u.2) e1
 have q2:∀ u:Held S,World.cell? u.val ⟨B,0,none⟩=some (.slice (some ⟨g6,0,none⟩) ps.length ps.length):=fun u=>cell_later ((hS u.val).1 u.2) x0
 have q3:∀ u:Held S,World.cell? u.val ⟨B,1,none⟩=some (.slice (some ⟨g7,0,none⟩) js.length js.length):=fun u=>cell_later ((hS u.val).1 u.2) x1
 have hS1:S w15.drew:=(hS _).2 ((Below.refl _ _).drew)
 have hne:=held_ne hS1
 clear hS
 refine wp_region_tree (fun w' => ∃ u:Held S,w'=u.val) 3 (by kernel_rfl) (by kernel_rfl) (held_some hS1) ?_
 (refine wpT_sea 0 ?_;intro K hK;go_big_quiet_op;go_big_quiet_on);(refine wpT_sea 1 ?_;intro K hK;go_big_quiet_op;go_big_quiet_on)
 refine wpT_loud 2 (by rfl) (by kernel_rfl) (by kernel_rfl) ?_
 intro KK hK
 go_wp2_with (go_at_call 11;refine (HTN.out _ (HW15.out.trans ((Below.refl _ _).drew.mono HW15.out.size))).mono ?_;rintro e w16 ⟨g11,g12,rfl,hp16,hj16,hb16'⟩)
 have hb16:Below w15.heap.size w15 w16:=(Below.refl _ _).drew.trans hb16'
 refine hK _ _ (held_some ((HS0.out _).2 hb16)) ?_
 clear hK KK hb16' q0 q1 q2 q3 hS1 hne e0 e1 x0 x1 hzx hze
 have HQ16:=hidP (eqNet_any (some ⟨g6,0,none⟩) (some ⟨g7,0,none⟩) (some ⟨g11,0,none⟩) (some ⟨g12,0,none⟩) ps.length js.length ps.length js.length ps js w16 (hp15.out.below hb16) (hj15.out.below hb16) hp16.out hj16.out)
 have HB16:=hidP hb16
 clear hb16 hp16 hj16
 refine wpT_done (by kernel_rfl) ?_
 go_upto_region 20 with (go_at_call 17;refine HQ16.out.mono ?_;rintro e w17 ⟨rfl,hb17⟩;have HB17:Hid (Below w15.heap.size w15 w17):=HB16.out.trans (hb17.mono HB16.out.size);clear hb17)
 have HW17:Hid (Below W.heap.size W w17):=HW15.out.trans (HB17.out.mono HW15.out.size)
 have hs17:=hidP (hs15.out.below HB17.out)
 have hr17:=hidP (hr15.out.below HB17.out)
 go_upto_region 22 with (first
  | (go_at_call 12;refine (HTS.out _ HW17.out).mono ?_;rintro e w18 ⟨g13,rfl,hs18,hb18⟩;have HQ18:=hidP (eqSignalS_walk (some ⟨g8,0,none⟩) (some ⟨g13,0,none⟩) ss.length ss.length ss w18 (hs17.out.below hb18) hs18.out);have HB18:Hid (Below w17.heap.size w17 w18):=hb18;clear hb18)
  | (go_at_call 18;refine HQ18.out.mono ?_;rintro e w19 ⟨rfl,hb19⟩;have HB19:Hid (Below w17.heap.size w17 w19):=HB18.out.trans (hb19.mono HB18.out.size);clear hb19))
 have HW19:Hid (Below W.heap.size W w19):=HW17.out.trans (HB19.out.mono HW17.out.size)
 have hr19:=hidP (hr17.out.below HB19.out)
 go_wp2_with (first
  | (go_at_call 13;refine (HTR.out _ HW19.out).mono ?_;rintro e w20 ⟨g14,rfl,hr20,hb20⟩;have HQ20:=hidP (eqRouteS_walk (some ⟨g9,0,none⟩) (some ⟨g14,0,none⟩) rs.length rs.length rs w20 (hr19.out.below hb20) hr20.out);have HB20:Hid (Below w19.heap.size w19 w20):=hb20;clear hb20)
  | (go_at_call 19;refine HQ20.out.mono ?_;rintro e w21 ⟨rfl,hb21⟩;have HB21:Hid (Below w19.heap.size w19 w21):=HB20.out.trans (hb21.mono HB20.out.size);clear hb21))
 have HW21:Hid (Below W.heap.size W w21):=HW19.out.trans (HB21.out.mono HW19.out.size)
 go_ret
 exact ⟨rfl,HBW.out.trans (HW21.out.mono HBW.out.size)⟩
end Go.Proofs.YtmkdgnmmebldgabGreatDoor
