import Derived.Test.YtmkdgnmmebldgaaGreatDoorPt51
import Derived.Laws.IdiomStrings
import Derived.Lib.BufferRead
set_option maxRecDepth 100000
set_option maxHeartbeats 8000000
namespace Go.Proofs.YtmkdgnmmebldgaaGreatDoor
open Go.RowKit Go.Deep
theorem conv_row {w:World}{B:Nat}{v:Value}{bs:List UInt8}(h:w.ownsRow B 5 1 v bs.length (Lib.byteCells bs)):(convert 22 9 v).run Tryz.prog w = .ok (.string ⟨bs.toArray⟩) w:=by
 rcases h.2 with ⟨hv,hz⟩ | ⟨g,cap,cur,hv,r⟩
 ·have e:bs=[]:=List.eq_nil_of_length_eq_zero hz
  subst e
  rw [hv]
  exact Lib.run_convert_nil_bytes w _ _ _ _ Tryz.underlying22 Tryz.underlying5 Tryz.underlying9
 ·subst hv
  refine run_convert_bytes_back w _ _ 5 ⟨g,0,none⟩ cap bs Tryz.underlying22 Tryz.underlying5 Tryz.underlying9 (fun j hj=>?_)
  have:=h.cells (g:=g) rfl j (.int .u8 bs[j].toNat) (by simp [Lib.byteCells,hj])
  simpa [Addr.add] using this
theorem why_parts {ps:List MPiece}{js:List MJoint}{ss:List MPiece}{rs:List MRoute}(h:whyF ps js ss rs=0):sigF ps js ss=(0,0)∧rs.length≤300:=by
 by_cases h1:sigF ps js ss=(0,0)
 ·refine ⟨h1,?_⟩
  by_cases h2:300<rs.length
  ·rw [whyF_2 h1 h2] at h;cases h
  ·omega
 ·rw [whyF_1 h1] at h;cases h
theorem itoa_le {k:Nat}(h:k≤1000):(Lib.itoa (k:Int)).length≤21:=Lib.itoa_length_le k (by omega) (by omega)
theorem specListing_any (pa ja sa ra:Option Addr)(pc jc sc rc:Nat)(ps:List MPiece)(js:List MJoint)(ss:List MPiece)(rs:List MRoute)(w:World)(hp:Hid (PiecesAt w pa ps))(hj:Hid (JointsAt w ja js))(hs:Hid (PiecesAt w sa ss))(hr:Hid (RoutesAt w ra rs)):
  Calls Tryz.prog 23 #[.agg #[.slice pa ps.length pc,.slice ja js.length jc],.slice sa ss.length sc,.slice ra rs.length rc] w fun e w' => ∃ t:ByteArray,e = .returned (.string t)∧t.data.toList=textF ps js ss rs∧Below w.heap.size w w':=by
 obtain ⟨O,hO⟩:∃ O,textF ps js ss rs=O:=⟨_,rfl⟩
 rw [hO]
 have HO:=hidP hO
 clear hO
 obtain ⟨i0,hi,hz0,hz1,hz2⟩:=info_parts Tryz.infoByteW
 have hrl:=hr.out.1
 unfold maxLen at hrl
 go_enter Tryz.func23,Tryz.ntmps23
 go_upto_region 1 with fail
 generalize hW:World.alloc w _=W
 have e0:W.cell? ⟨w.heap.size,0,none⟩=some (.slice pa ps.length pc):=by rw [← hW];simp [go_sem]
 have e1:W.cell? ⟨w.heap.size,1,none⟩=some (.slice ja js.length jc):=by rw [← hW];simp [go_sem]
 have hbW:Below w.heap.size w W:=by rw [← hW];exact blo
 clear hW
 have HLO:=hidP (l4route_any pa ja sa ra pc jc sc rc ps js ss rs W (hp.out.below hbW) (hj.out.below hbW) (hs.out.below hbW) (hr.out.below hbW))
 have HBW:=hidP hbW
 have HP:=hidP (hp.out.below hbW)
 have HJ:=hidP (hj.out.below hbW)
 have HR:=hidP (hr.out.below hbW)
 have HS:=hidP (hs.out.below hbW)
 have HWB:Hid (whyB ps js ss rs=decide (whyF ps js ss rs=0)):=rfl
 obtain ⟨y,hy⟩:∃ y,whyB ps js ss rs=y:=⟨_,rfl⟩
 rw [hy] at HLO HWB
 clear hy hbW hp hj hs hr
 go_wp2_with fail
 refine HLO.out.mono ?_
 rintro e w1 ⟨rfl,hb1⟩
 have E0:=hidP (cell_later hb1 e0)
 have E1:=hidP (cell_later hb1 e1)
 have HB1:=hidP hb1
 have HP1:=hidP (HP.out.below hb1)
 have HJ1:=hidP (HJ.out.below hb1)
 have HR1:=hidP (HR.out.below hb1)
 have HS1:=hidP (HS.out.below hb1)
 clear hb1 HLO HR HS HP HJ e0 e1
 generalize w.heap.size=X0 at E0 E1 ⊢
 obtain ⟨n,hn⟩:∃ n,rs.length=n:=⟨_,rfl⟩
 rw [hn] at hrl ⊢
 have HN:=hidP hn
 clear hn
 cases y
 ·have HE:Hid (O=[]):=by unfold Hid;rw [← HO.out];unfold textF;rw [if_neg (of_decide_eq_false HWB.out.symm)]
  go_wp2_with fail
  go_ret
  exact ⟨_,rfl,by rw [HE.out],HBW.out.trans (HB1.out.mono HBW.out.size)⟩
 have HWY:Hid (whyF ps js ss rs=0):=by have h:=HWB.out.symm;unfold Hid;exact of_decide_eq_true h
 have HALL:=hidP (all_line HWY.out)
 have N:=hidP (short_of (why_parts HWY.out).1)
 have hn3:n≤300:=by rw [← HN.out];exact (why_parts HWY.out).2
 have HE:Hid (O=linesT ps js ss 0 rs):=by unfold Hid;rw [← HO.out];unfold textF;rw [if_pos HWY.out]
 clear HWB HWY HO
 go_wp2_with fail
 go_loopw [7,18] (fun u c wr => ∃ (k:Nat) (o:Value),k≤n∧o=u∧c = .int .i64 k∧Hid (wr.ownsRow w1.heap.size 5 1 o (linesT ps js ss 0 (rs.take k)).length (Lib.byteCells (linesT ps js ss 0 (rs.take k))))∧Hid (Below w1.heap.size w1 wr)) (fun _ c _=>n-(intOf c).toNat)
 case atStart=>exact ⟨0,_,Nat.zero_le _,rfl,rfl,World.ownsRow_nil _ _ _ _,Below.refl _ _⟩
 case round =>
  obtain ⟨k,o,hk,rfl,rfl,HOW,HBr⟩:=hrel
  by_cases hk':k<n
  ·have hki:(k:Int)<n:=by omega
   have hkl:k<rs.length:=by rw [HN.out];exact hk'
   obtain ⟨b,o2,ha,hc⟩:=(HR1.out.below HBr.out).2.resolve_left (fun e=>by rw [e] at hkl;exact absurd hkl (Nat.not_lt_zero _))
   obtain ⟨d,⟨c0,c1,c2,c3,c4,c5,c6,c7⟩,ql⟩:=hc k hkl
   have HLN:=hidP (HALL.out _ (List.getElem_mem hkl))
   have HON:=hidP (linesT_on (ps:=ps) (js:=js) (ss:=ss) hkl)
   have HLL:Hid ((linesT ps js ss 0 (rs.take k)).length≤300000000):=by
    have h:=linesT_le N.out (rs.take k) 0 (fun r hr=>HALL.out r (List.mem_of_mem_take hr)) (by rw [List.length_take];omega)
    rw [List.length_take] at h
    unfold Hid
    omega
   generalize rs[k]=r at c0 c1 c2 c3 c4 c5 c6 c7 ql HLN HON
   generalize linesT ps js ss 0 (rs.take k)=bs at HOW HON HLL
   have HQL:=hidP ql
   subst ha
   clear hc ql hkl
   go_upto_region 7 with fail
   generalize hW2:World.alloc wr _=W2
   have hb2:Below wr.heap.size wr W2:=by rw [← hW2];exact blo
   have HX:Hid (RouteCell W2 wr.heap.size 0 d r):=by rw [← hW2];exact routeCell_box _ _ _ _
   clear hW2 c0 c1 c2 c3 c4 c5 c6 c7
   have HB2:Hid (Below w1.heap.size w1 W2):=HBr.out.trans (hb2.mono HBr.out.size)
   have HQ2:=hidP (HQL.out.below hb2)
   have HO2:=hidP (owns_below HOW.out hb2)
   have e0:=cell_later HB2.out E0.out
   have e1:=cell_later HB2.out E1.out
   generalize wr.heap.size=X at HX ⊢
   clear hb2 HQL HOW HBr
   obtain ⟨S,hS⟩:∃ S:World→Prop,∀ u,S u↔Below W2.heap.size W2 u:=⟨_,fun _=>Iff.rfl⟩
   have HS0:=hidP hS
   have yr:∀ u:Held S,RouteCell u.val X 0 d r:=fun u=>HX.out.below ((hS u.val).1 u.2)
   have q0:∀ u:Held S,World.cell? u.val ⟨X0,0,none⟩=some (.slice pa ps.length pc):=fun u=>cell_later ((hS u.val).1 u.2) e0
   have q1:∀ u:Held S,World.cell? u.val ⟨X0,1,none⟩=some (.slice ja js.length jc):=fun u=>cell_later ((hS u.val).1 u.2) e1
   have v0:∀ u:Held S,World.cell? u.val ⟨X,0,none⟩=some (.int .i64 r.start):=fun u=>by simpa using (yr u).k0
   have v1:∀ u:Held S,World.cell? u.val ⟨X,1,none⟩=some (.int .i64 r.stop):=fun u=>by simpa using (yr u).k1
   have v2:∀ u:Held S,World.cell? u.val ⟨X,2,none⟩=some (.slice d.a0 r.steps.length d.c0):=fun u=>by simpa using (yr u).k2
   have v3:∀ u:Held S,World.cell? u.val ⟨X,3,none⟩=some (.slice d.a1 r.lies.length d.c1):=fun u=>by simpa using (yr u).k3
   have v4:∀ u:Held S,World.cell? u.val ⟨X,4,none⟩=some (.slice d.a2 r.crosses.length d.c2):=fun u=>by simpa using (yr u).k4
   have v5:∀ u:Held S,World.cell? u.val ⟨X,5,none⟩=some (.slice d.a3 r.parts.length d.c3):=fun u=>by simpa using (yr u).k5
   have v6:∀ u:Held S,World.cell? u.val ⟨X,6,none⟩=some (.slice d.a4 r.over.length d.c4):=fun u=>by simpa using (yr u).k6
   have v7:∀ u:Held S,World.cell? u.val ⟨X,7,none⟩=some (.slice d.a5 r.flanks.length d.c5):=fun u=>by simpa using (yr u).k7
   have hS1:S W2.drew:=(hS _).2 ((Below.refl _ _).drew)
   have hne:=held_ne hS1
   have hz32:(ByteArray.mk #[32]).size=1:=rfl
   have HLI:Hid (∀ u,Below W2.heap.size W2 u→Calls Tryz.prog 56 #[.agg #[.slice pa ps.length pc,.slice ja js.length jc],.slice sa ss.length sc,routeV d r] u fun e w'=>(∃ t:ByteArray,e = .returned (.string t)∧t.data.toList=lineS ps js ss r)∧Below u.heap.size u w'):=fun u hu =>
    have hb:=HB2.out.trans (hu.mono HB2.out.size)
    l4line_any pa ja sa pc jc sc d r u (hidQ (HP1.out.below hb)) (hidQ (HJ1.out.below hb)) (hidQ (HS1.out.below hb)) (hidQ (HQ2.out.below hu)) N HLN
   clear hS yr e0 e1 HX
   refine wp_region_tree (fun w' => ∃ u:Held S,w'=u.val) 7 (by kernel_rfl) (by kernel_rfl) (held_some hS1) ?_
   (refine wpT_sea 0 ?_;intro K hK;go_big_quiet_op;go_big_quiet_on)
   (refine wpT_sea 3 ?_;intro K hK;go_big_quiet_op;go_big_quiet_on);(refine wpT_sea 4 ?_;intro K hK;go_big_quiet_op;go_big_quiet_on);(refine wpT_sea 5 ?_;intro K hK;go_big_quiet_op;go_big_quiet_on)
   refine wpT_loud 1 (by rfl) (by kernel_rfl) (by kernel_rfl) ?_
   intro KK hK
   go_wp2_with (go_at_call 55;refine (decimalT_any k _ (by omega)).mono ?_;rintro e w5 ⟨⟨t,rfl,ht⟩,hb5'⟩)
   have hb5:Below W2.heap.size W2 w5:=(Below.refl _ _).drew.trans hb5'
   refine hK _ _ (held_some ((HS0.out _).2 hb5)) ?_
   clear hK KK hb5'
   have HT:=hidP ht
   have hts:t.size≤21:=by rw [size_of ht];exact itoa_le (by omega)
   clear ht
   (refine wpT_sea 2 ?_;intro K hK;go_big_quiet_op;go_big_quiet_on)
   refine wpT_loud 6 (by rfl) (by kernel_rfl) (by kernel_rfl) ?_
   intro KK hK
   go_wp2_with (go_at_call 56;refine (HLI.out _ hb5).mono ?_;rintro e w6 ⟨⟨t2,rfl,ht2⟩,hb6'⟩)
   have hb6:Below W2.heap.size W2 w6:=hb5.trans (hb6'.mono hb5.size)
   refine hK _ _ (held_some ((HS0.out _).2 hb6)) ?_
   clear hK KK hb6' hb5 q0 q1 v0 v1 v2 v3 v4 v5 v6 v7 hS1 hne
   refine wpT_done (by kernel_rfl) ?_
   have HTX:Hid ((t++⟨#[32]⟩++t2).data.toList=lineT ps js ss k r):=by
    unfold Hid
    rw [catL,catL,HT.out,ht2,lineS_line,List.append_assoc]
   have HTL:=hidP (lineT_le N.out HLN.out (i:=(k:Int)) (by omega) (by omega))
   have hsz:t2.size≤1000000:=by
    have h:=size_of HTX.out
    have h2:=HTL.out
    rw [ByteArray.size_append] at h
    omega
   have hsx:(t++⟨#[32]⟩++t2).size≤1000000:=by
    have h:=size_of HTX.out
    have h2:=HTL.out
    omega
   have HO6:=hidP (owns_below HO2.out hb6)
   have HB6:Hid (Below w1.heap.size w1 w6):=HB2.out.trans (hb6.mono HB2.out.size)
   have hll:=HLL.out
   clear HO2 hb6 ht2 HLI
   go_wp2_with (at_builtin;refine Lib.wpList_append_own_string _ rfl (.tmp 31) (.tmp 32) 22 9 rfl w1.heap.size 5 i0 Tryz.underlying22 Tryz.underlying9 hi hz0 hz1 hz2 _ _ _ rfl HO6.out (t++⟨#[32]⟩++t2) rfl (by unfold maxLen;omega) (by omega) HB6.out.size ?_)
   intro v' w7 hown hg hnil
   have HB7:=hidP (push_below HB6.out HO6.out hg HB6.out.size)
   have HO7:Hid (w7.ownsRow w1.heap.size 5 1 v' (linesT ps js ss 0 (rs.take (k+1))).length (Lib.byteCells (linesT ps js ss 0 (rs.take (k+1))))):=by
    unfold Hid
    have hl:(t++⟨#[32]⟩++t2).data.toList.length=t.size+1+t2.size:=by
     show (t++⟨#[32]⟩++t2).size=_
     rw [ByteArray.size_append,ByteArray.size_append]
     rfl
    rw [HON.out,← HTX.out,List.length_append,Lib.byteCells_append,hl]
    exact hown
   clear hown hg hnil HO6 HB6
   go_wp2_with fail
   go_roundw
   case rel=>exact ⟨k+1,_,by omega,rfl,by go_num,HO7,HB7⟩
   case measure=>simp [intOf];omega
  ·have hki:¬ (k:Int)<n:=by omega
   have HOW2:Hid (wr.ownsRow w1.heap.size 5 1 o (linesT ps js ss 0 rs).length (Lib.byteCells (linesT ps js ss 0 rs))):=by
    have h:=HOW.out
    rw [List.take_of_length_le (by rw [HN.out];omega)] at h
    exact h
   have hcv:=conv_row HOW2.out
   generalize linesT ps js ss 0 rs=bs at hcv HE
   clear HOW HOW2
   go_wp2_with fail
   go_ret
   exact ⟨_,rfl,by rw [HE.out],HBW.out.trans ((HB1.out.trans (HBr.out.mono HB1.out.size)).mono HBW.out.size)⟩
end Go.Proofs.YtmkdgnmmebldgaaGreatDoor
