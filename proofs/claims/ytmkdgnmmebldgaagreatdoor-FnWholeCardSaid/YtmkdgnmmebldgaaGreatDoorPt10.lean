import Derived.Test.YtmkdgnmmebldgaaGreatDoorPt6
import Derived.Test.YtmkdgnmmebldgaaGreatDoorPt9
import Derived.Test.YtmkdgnmmebldgaaGreatDoorPt2
set_option maxRecDepth 100000
set_option maxHeartbeats 8000000
namespace Go.Proofs.YtmkdgnmmebldgaaGreatDoor
open Go.RowKit Go.Deep
def endV (e:MEnd):Value:=.agg #[.int .i64 e.piece,.int .i64 e.side]
def partV (p:MPart):Value:=.agg #[.int .i64 p.piece,.int .i64 p.lo,.int .i64 p.hi]
theorem ret_end {e e':MEnd}(h:e=e'):Ending.returned (endV e) = .returned (endV e'):=by rw [h]
theorem l2head_any (p way:Int)(w:World):
  Calls Tryz.prog 47 #[.int .i64 p,.int .i64 way] w fun e w'=>e = .returned (endV (aheadE ⟨p,way⟩))∧Below w.heap.size w w':=by
 by_cases h:way=1
 ·have HE:Hid (aheadE ⟨p,way⟩=⟨p,1⟩):=by unfold Hid aheadE;rw [if_pos h]
  have h1:(way==1)=true:=by simp [h]
  clear h
  go_enter Tryz.func47,Tryz.ntmps47
  go_wp2_with fail
  exact bodyPost_ret (v:=.agg #[.int .i64 p,.int .i64 1]) (by simp [results,Tryz.results47,go_sem]) rfl ⟨(ret_end HE.out).symm,blo⟩
 ·have HE:Hid (aheadE ⟨p,way⟩=⟨p,0⟩):=by unfold Hid aheadE;rw [if_neg h]
  have h1:(way==1)=false:=by simp [h]
  clear h
  go_enter Tryz.func47,Tryz.ntmps47
  go_wp2_with fail
  exact bodyPost_ret (v:=.agg #[.int .i64 p,.int .i64 0]) (by simp [results,Tryz.results47,go_sem]) rfl ⟨(ret_end HE.out).symm,blo⟩
def farI (ps:List MPiece)(p pos way:Int):Int:=if way=1 then pos else lenI ps p-pos
theorem l2far_any (pa ja:Option Addr)(pc jl jc:Nat)(ps:List MPiece)(i:Nat)(pos way:Int)(w:World)(hp:Hid (PiecesAt w pa ps))(hi:i<ps.length)(hl:1≤ps[i].len∧ps[i].len≤10000000)(h0:0≤pos)(h1:pos≤10000000):
  Calls Tryz.prog 36 #[.agg #[.slice pa ps.length pc,.slice ja jl jc],.int .i64 i,.int .i64 pos,.int .i64 way] w fun e w'=>e = .returned (.int .i64 (farI ps i pos way))∧Below w.heap.size w w':=by
 have hlen:=hp.out.1
 unfold maxLen at hlen
 by_cases h:way=1
 ·have HE:Hid (farI ps i pos way=pos):=by unfold Hid farI;rw [if_pos h]
  have h1:(way==1)=true:=by simp [h]
  clear h
  go_enter Tryz.func36,Tryz.ntmps36
  go_wp2_with fail
  go_ret
  exact ⟨ret_int HE.out.symm,blo⟩
 ·have HE:Hid (farI ps i pos way=ps[i].len-pos):=by unfold Hid farI;rw [if_neg h,lenI_at hi]
  have h1:(way==1)=false:=by simp [h]
  obtain ⟨b1,off1,rfl,hpc⟩:=hp.out.2.2.resolve_left (nz hi)
  obtain ⟨c1,c2,c3,c4⟩:=hpc i hi
  have hz:=cellLt c2
  clear h hpc c1 c3 c4
  go_enter Tryz.func36,Tryz.ntmps36
  go_wp2_with fail
  go_ret
  exact ⟨ret_int HE.out.symm,blo⟩
def specPart (ps:List MPiece)(p way a b:Int):MPart:=if way = -1 then ⟨p,lenI ps p-b,lenI ps p-a⟩ else ⟨p,a,b⟩
theorem ret_part {e e':MPart}(h:e=e'):Ending.returned (partV e) = .returned (partV e'):=by rw [h]
theorem l2part_any (pa ja:Option Addr)(pc jl jc:Nat)(ps:List MPiece)(i:Nat)(way a b:Int)(w:World)(hp:Hid (PiecesAt w pa ps))(hi:i<ps.length)(hl:1≤ps[i].len∧ps[i].len≤10000000)(h0:0≤a)(h1:a≤10000000)(h2:0≤b)(h3:b≤10000000):
  Calls Tryz.prog 76 #[.agg #[.slice pa ps.length pc,.slice ja jl jc],.int .i64 i,.int .i64 way,.int .i64 a,.int .i64 b] w fun e w'=>e = .returned (partV (specPart ps i way a b))∧Below w.heap.size w w':=by
 have hlen:=hp.out.1
 unfold maxLen at hlen
 by_cases h:way = -1
 ·have HE:Hid (specPart ps i way a b=⟨i,ps[i].len-b,ps[i].len-a⟩):=by unfold Hid specPart;rw [if_pos h,lenI_at hi]
  have h4:(way == -1)=true:=by simp [h]
  obtain ⟨b1,off1,rfl,hpc⟩:=hp.out.2.2.resolve_left (nz hi)
  obtain ⟨c1,c2,c3,c4⟩:=hpc i hi
  have hz:=cellLt c2
  clear h hpc c1 c3 c4
  go_enter Tryz.func76,Tryz.ntmps76
  go_wp2_with fail
  exact bodyPost_ret (v:=.agg #[.int .i64 i,.int .i64 (ps[i].len-b),.int .i64 (ps[i].len-a)]) (by simp [results,Tryz.results76,go_sem]) rfl ⟨(ret_part HE.out).symm,blo⟩
 ·have HE:Hid (specPart ps i way a b=⟨i,a,b⟩):=by unfold Hid specPart;rw [if_neg h]
  have h4:(way == -1)=false:=by simp [h]
  clear h
  go_enter Tryz.func76,Tryz.ntmps76
  go_wp2_with fail
  exact bodyPost_ret (v:=.agg #[.int .i64 i,.int .i64 a,.int .i64 b]) (by simp [results,Tryz.results76,go_sem]) rfl ⟨(ret_part HE.out).symm,blo⟩
theorem nextB_range (ss:List MPiece)(p way pos:Int):∀ k,k≤ss.length→nextB ss p way pos k = -1∨∃ (b:Nat) (hb:b<ss.length),b<k∧nextB ss p way pos k=b∧ss[b].len=p∧ss[b].brake=way
 | 0,_=>Or.inl rfl
 | k+1,h=>by
  have hk:k<ss.length:=by omega
  have ih:=nextB_range ss p way pos k (by omega)
  have ih':nextB ss p way pos k = -1∨∃ (b:Nat) (hb:b<ss.length),b<k+1∧nextB ss p way pos k=b∧ss[b].len=p∧ss[b].brake=way:=by
   rcases ih with ih | ⟨b,h1,h2,h3⟩
   ·exact Or.inl ih
   ·exact Or.inr ⟨b,h1,by omega,h3⟩
  simp only [nextB,List.getElem?_eq_getElem hk]
  split
  ·exact ih'
  ·split
   ·rename_i h1 _
    refine Or.inr ⟨k,hk,by omega,rfl,?_⟩
    constructor
    ·by_cases e:ss[k].len=p
     ·exact e
     ·exact absurd (Or.inl e) h1
    ·by_cases e:ss[k].brake=way
     ·exact e
     ·exact absurd (Or.inr (Or.inl e)) h1
   ·exact ih'
section
variable {ss:List MPiece} {p way pos:Int} {k:Nat}
theorem nextB_skip (hk:k<ss.length)(h:ss[k].len≠p∨ss[k].brake≠way∨(ss[k].speed-pos)*way≤0):nextB ss p way pos (k+1)=nextB ss p way pos k:=by
 simp only [nextB,List.getElem?_eq_getElem hk,if_pos h]
theorem nextB_take (hk:k<ss.length)(h:¬ (ss[k].len≠p∨ss[k].brake≠way∨(ss[k].speed-pos)*way≤0))(h2:nextB ss p way pos k<0∨(ss[k].speed-sigAt ss (nextB ss p way pos k))*way<0):nextB ss p way pos (k+1)=k:=by
 simp only [nextB,List.getElem?_eq_getElem hk,if_neg h,if_pos h2]
theorem nextB_leave (hk:k<ss.length)(h:¬ (ss[k].len≠p∨ss[k].brake≠way∨(ss[k].speed-pos)*way≤0))(h2:¬ (nextB ss p way pos k<0∨(ss[k].speed-sigAt ss (nextB ss p way pos k))*way<0)):nextB ss p way pos (k+1)=nextB ss p way pos k:=by
 simp only [nextB,List.getElem?_eq_getElem hk,if_neg h,if_neg h2]
theorem farI_le {ps:List MPiece}{q:Int}(h:way=1∨way = -1){a b:Int}:farI ps q a way≤farI ps q b way↔(a-b)*way≤0:=by
 unfold farI
 rcases h with rfl | rfl
 ·first | (simp;done) | (simp;omega)
 ·first | (simp;done) | (simp;omega)
theorem farI_lt {ps:List MPiece}{q:Int}(h:way=1∨way = -1){a b:Int}:farI ps q a way<farI ps q b way↔(a-b)*way<0:=by
 unfold farI
 rcases h with rfl | rfl
 ·first | (simp;done) | (simp;omega)
 ·first | (simp;done) | (simp;omega)
end
theorem l2signal_any (pa ja sa:Option Addr)(pc jl jc sc:Nat)(ps ss:List MPiece)(i:Nat)(way pos:Int)(w:World)(hp:Hid (PiecesAt w pa ps))(hs:Hid (PiecesAt w sa ss))(hi:i<ps.length)(hl:1≤ps[i].len∧ps[i].len≤10000000)
  (hw:way=1∨way = -1) (hsp:Hid (∀ k (hk:k<ss.length),0≤ss[k].speed∧ss[k].speed≤10000000)) :
  Calls Tryz.prog 45 #[.agg #[.slice pa ps.length pc,.slice ja jl jc],.slice sa ss.length sc,.int .i64 i,.int .i64 way,.int .i64 (farI ps i pos way)] w fun e w'=>e = .returned (.int .i64 (nextB ss i way pos ss.length))∧Below w.heap.size w w':=by
 have hsl:=hs.out.1
 unfold maxLen at hsl
 have HW:=hidP hw
 clear hw
 obtain ⟨far,hfar⟩:∃ far,farI ps i pos way=far:=⟨_,rfl⟩
 rw [hfar]
 have HFAR:=hidP hfar
 clear hfar
 go_enter Tryz.func45,Tryz.ntmps45
 go_wp2_with fail
 generalize hW:w.alloc (Obj.cells #[Value.slice pa ps.length pc,Value.slice ja jl jc] 26)=W
 have e0:W.cell? ⟨w.heap.size,0,none⟩=some (.slice pa ps.length pc):=by rw [← hW];simp [go_sem]
 have e1:W.cell? ⟨w.heap.size,1,none⟩=some (.slice ja jl jc):=by rw [← hW];simp [go_sem]
 have hz:w.heap.size+1≤W.heap.size:=by rw [← hW];simp
 have hbW:Below w.heap.size w W:=by rw [← hW];exact blo
 have HP:=hidP (hp.out.below hbW)
 have HS:=hidP (hs.out.below hbW)
 clear hW hp hs
 go_loopw [11,16] (fun b c wr => ∃ (k:Nat),k≤ss.length∧c = .int .i64 k∧b = .int .i64 (nextB ss i way pos k)∧Below W.heap.size W wr) (fun _ c _=>ss.length-(intOf c).toNat)
 case atStart=>exact ⟨0,Nat.zero_le _,rfl,rfl,Below.refl _ _⟩
 case round =>
  obtain ⟨k,hk,rfl,rfl,hb⟩:=hrel
  have hbs:=hb.size
  have hz2:w.heap.size<wr.heap.size:=by omega
  have e0':=cell_later hb e0
  have e1':=cell_later hb e1
  by_cases hk':k<ss.length
  ·obtain ⟨b1,off1,rfl,hpc⟩:=HS.out.2.2.resolve_left (nz hk')
   obtain ⟨c1,c2,c3,c4⟩:=(hpc.below hb) k hk'
   obtain ⟨hs0,hs1⟩:=hsp.out k hk'
   have HR:=hidP (nextB_range ss i way pos k hk)
   have HPC:=hidP hpc
   clear hpc
   cases t1:(ss[k].len != (i:Int))
   rotate_left
   ·have HN:=hidP (nextB_skip (pos:=pos) (way:=way) hk' (Or.inl (by simpa using t1)))
    go_wp2_with fail
    go_roundw
    case rel=>exact ⟨k+1,by omega,by go_num,by rw [HN.out],blo⟩
    case measure=>simp [intOf];omega
   cases t2:(ss[k].brake != way)
   rotate_left
   ·have HN:=hidP (nextB_skip (p:=(i:Int)) (pos:=pos) hk' (Or.inr (Or.inl (by simpa using t2))))
    go_wp2_with fail
    go_roundw
    case rel=>exact ⟨k+1,by omega,by go_num,by rw [HN.out],blo⟩
    case measure=>simp [intOf];omega
   obtain ⟨x,hx⟩:∃ x,farI ps i ss[k].speed way=x:=⟨_,rfl⟩
   have HX:=hidP hx
   clear hx
   have T12:Hid (ss[k].len=(i:Int)∧ss[k].brake=way):=by unfold Hid;simpa using And.intro t1 t2
   by_cases t3:x≤far
   ·have HN:=hidP (nextB_skip (p:=(i:Int)) hk' (Or.inr (Or.inr ((farI_le (ps:=ps) (q:=i) (a:=ss[k].speed) (b:=pos) HW.out).1 (by rw [HX.out,HFAR.out];exact t3)))))
    go_wp2_with (go_at_call 36;refine (l2far_any _ _ _ _ _ _ _ _ _ _ (HP.out.below (hb.trans blo)) hi hl hs0 hs1).mono ?_;rintro e w2 ⟨rfl,hb2⟩;rw [HX.out])
    have hb3:Below wr.heap.size wr w2:=Below.trans blo (hb2.mono (by simp))
    have hb4:=hb.trans (hb3.mono hb.size)
    go_roundw
    case rel=>exact ⟨k+1,by omega,by go_num,by rw [HN.out],blo⟩
    case measure=>simp [intOf];omega
   ·have HT:Hid (¬ (ss[k].len≠(i:Int)∨ss[k].brake≠way∨(ss[k].speed-pos)*way≤0)):=by
     intro h
     rcases h with h | h | h
     ·exact h T12.out.1
     ·exact h T12.out.2
     ·exact t3 (by rw [← HX.out,← HFAR.out];exact (farI_le (ps:=ps) (q:=i) (a:=ss[k].speed) (b:=pos) HW.out).2 h)
    rcases HR.out with hn | ⟨b,hb1,hb2,hn,hb3,hb4⟩
    ·have HN:=hidP (nextB_take (p:=(i:Int)) (pos:=pos) hk' HT.out (Or.inl (by rw [hn];omega)))
     rw [hn]
     clear hn
     go_wp2_with (go_at_call 36;refine (l2far_any _ _ _ _ _ _ _ _ _ _ (HP.out.below (hb.trans blo)) hi hl hs0 hs1).mono ?_;rintro e w2 ⟨rfl,hb2⟩;rw [HX.out])
     have hb3:Below wr.heap.size wr w2:=Below.trans blo (hb2.mono (by simp))
     have hb4:=hb.trans (hb3.mono hb.size)
     have hbs4:=hb4.size
     clear hb2
     go_region
     all_goals
      go_wp2_with fail
      go_roundw
      case rel=>exact ⟨k+1,by omega,by go_num,by rw [HN.out],blo⟩
      case measure=>simp [intOf];omega
    ·obtain ⟨hq0,hq1⟩:=hsp.out b hb1
     obtain ⟨y,hy⟩:∃ y,farI ps i ss[b].speed way=y:=⟨_,rfl⟩
     have HY:=hidP hy
     clear hy
     have HN:Hid (nextB ss (i:Int) way pos (k+1)=if x<y then (k:Int) else (b:Int)):=by
      unfold Hid
      by_cases hxy:x<y
      ·rw [if_pos hxy]
       exact nextB_take hk' HT.out (Or.inr (by rw [hn,sigAt_at hb1];exact (farI_lt (ps:=ps) (q:=i) HW.out).1 (by rw [HX.out,HY.out];exact hxy)))
      ·rw [if_neg hxy,← hn]
       refine nextB_leave hk' HT.out ?_
       rw [hn,sigAt_at hb1]
       rintro (h | h)
       ·omega
       ·exact hxy (by rw [← HX.out,← HY.out];exact (farI_lt (ps:=ps) (q:=i) HW.out).2 h)
     obtain ⟨q1,q2,q3,q4⟩:=(HPC.out.below hb) b hb1
     rw [hn]
     clear hn hb3 hb4 hb2 q1 q2 q4 HR
     go_wp2_with (go_at_call 36;refine (l2far_any _ _ _ _ _ _ _ _ _ _ (HP.out.below (hb.trans blo)) hi hl hs0 hs1).mono ?_;rintro e w2 ⟨rfl,hb2⟩;rw [HX.out])
     have hb3:Below wr.heap.size wr w2:=Below.trans blo (hb2.mono (by simp))
     have hb4:=hb.trans (hb3.mono hb.size)
     have hbs4:=hb4.size
     have sA:=cell_later hb2 (show (wr.alloc (Obj.cells #[Value.string ss[k].name,Value.int IntKind.i64 ss[k].len,Value.int IntKind.i64 ss[k].speed,Value.int IntKind.i64 ss[k].brake] 62)).cell? ⟨wr.heap.size,2,none⟩=some (.int .i64 ss[k].speed) by simp [go_sem])
     have q3':=cell_later hb3 q3
     have e0'':=cell_later hb3 e0'
     have e1'':=cell_later hb3 e1'
     have zA:=cellLt sA
     have zB:=cellLt e0''
     have zC:=cellLt q3'
     clear hb2 hb3 c1 c2 c3 c4 q3 e0' e1'
     have hbi0:(0:Int)≤(b:Int):=by omega
     have hbi1:(b:Int)<(ss.length:Int):=by omega
     have gd:decide ((b:Int)<0)=false:=decide_eq_false (by omega)
     by_cases hxy:x<y
     ·rw [if_pos hxy] at HN
      go_region_held3 (fun w'=>w'.cell? ⟨w.heap.size,0,none⟩=some (.slice pa ps.length pc)∧w'.cell? ⟨w.heap.size,1,none⟩=some (.slice ja jl jc)∧w'.cell? ⟨wr.heap.size,2,none⟩=some (.int .i64 ss[k].speed)∧w'.cell? ⟨b1,off1+b*4+2,none⟩=some (.int .i64 ss[b].speed)) (first | go_keep | (refine ⟨?_,?_,?_,?_⟩ <;> assumption))
       (first
        | (go_at_call 36;refine (l2far_any pa ja pc jl jc ps i ss[k].speed way w2.drew (HP.out.below hb4.drew) hi hl hs0 hs1).mono ?_;rintro e wA ⟨rfl,hbA⟩;rw [HX.out];have hbA2:Below w2.heap.size w2 wA:=((Below.refl _ w2).drew).trans hbA;replace sA:=cell_later hbA2 sA;replace q3':=cell_later hbA2 q3';replace e0'':=cell_later hbA2 e0'';replace e1'':=cell_later hbA2 e1'';replace hb4:=hb4.trans (hbA2.mono hbs4);clear hbA hbA2 hs0)
        | (go_at_call 36;refine (l2far_any pa ja pc jl jc ps i ss[b].speed way wA (HP.out.below hb4) hi hl hq0 hq1).mono ?_;rintro e wB ⟨rfl,hbB⟩;rw [HY.out];replace sA:=cell_later hbB sA;replace q3':=cell_later hbB q3';replace e0'':=cell_later hbB e0'';replace e1'':=cell_later hbB e1'';replace hb4:=hb4.trans (hbB.mono hb4.size);clear hbB))
      all_goals
       go_wp2_with fail
       go_roundw
       case rel=>exact ⟨k+1,by omega,by go_num,by rw [HN.out],blo⟩
       case measure=>simp [intOf];omega
     ·rw [if_neg hxy] at HN
      go_region_held3 (fun w'=>w'.cell? ⟨w.heap.size,0,none⟩=some (.slice pa ps.length pc)∧w'.cell? ⟨w.heap.size,1,none⟩=some (.slice ja jl jc)∧w'.cell? ⟨wr.heap.size,2,none⟩=some (.int .i64 ss[k].speed)∧w'.cell? ⟨b1,off1+b*4+2,none⟩=some (.int .i64 ss[b].speed)) (first | go_keep | (refine ⟨?_,?_,?_,?_⟩ <;> assumption))
       (first
        | (go_at_call 36;refine (l2far_any pa ja pc jl jc ps i ss[k].speed way w2.drew (HP.out.below hb4.drew) hi hl hs0 hs1).mono ?_;rintro e wA ⟨rfl,hbA⟩;rw [HX.out];have hbA2:Below w2.heap.size w2 wA:=((Below.refl _ w2).drew).trans hbA;replace sA:=cell_later hbA2 sA;replace q3':=cell_later hbA2 q3';replace e0'':=cell_later hbA2 e0'';replace e1'':=cell_later hbA2 e1'';replace hb4:=hb4.trans (hbA2.mono hbs4);clear hbA hbA2 hs0)
        | (go_at_call 36;refine (l2far_any pa ja pc jl jc ps i ss[b].speed way wA (HP.out.below hb4) hi hl hq0 hq1).mono ?_;rintro e wB ⟨rfl,hbB⟩;rw [HY.out];replace sA:=cell_later hbB sA;replace q3':=cell_later hbB q3';replace e0'':=cell_later hbB e0'';replace e1'':=cell_later hbB e1'';replace hb4:=hb4.trans (hbB.mono hb4.size);clear hbB))
      all_goals
       go_wp2_with fail
       go_roundw
       case rel=>exact ⟨k+1,by omega,by go_num,by rw [HN.out],blo⟩
       case measure=>simp [intOf];omega
  ·have hkk:k=ss.length:=by omega
   subst hkk
   go_wp2
   go_ret
   exact ⟨rfl,hbW.trans (hb.mono hbW.size)⟩
theorem l1at_any (pa ja:Option Addr)(pl pc jc:Nat)(js:List MJoint)(e:MEnd)(i k:Nat)(w:World)(hj:Hid (JointsAt w ja js))(hs:Hid (spotF js e 0=some (i,k))):
  Calls Tryz.prog 46 #[.agg #[.slice pa pl pc,.slice ja js.length jc],endV e] w fun r w'=>r = .returned (.tuple #[.int .i64 i,.int .i64 k])∧Below w.heap.size w w':=by
 have hl:=hj.out.1
 unfold maxLen at hl
 obtain ⟨_,hi,hk,h1,h2,h3⟩:=spotF_some hs.out
 simp only [Nat.sub_zero] at hi hk h1 h2 h3
 have H1:=hidP h1
 have H2:=hidP h2
 have H3:=hidP h3
 clear h1 h2 h3 hs
 obtain ⟨p,s⟩:=e
 unfold endV
 dsimp only
 go_enter Tryz.func46,Tryz.ntmps46
 go_wp2_with fail
 generalize hW:(w.alloc (Obj.cells #[Value.slice pa pl pc,Value.slice ja js.length jc] 26)).alloc (Obj.cells #[Value.int IntKind.i64 p,Value.int IntKind.i64 s] 114)=W
 have e0:W.cell? ⟨w.heap.size+1,0,none⟩=some (.int .i64 p):=by rw [← hW];simp [go_sem]
 have e1:W.cell? ⟨w.heap.size+1,1,none⟩=some (.int .i64 s):=by rw [← hW];simp [go_sem]
 have hz:w.heap.size+2=W.heap.size:=by rw [← hW];simp
 have hbW:Below w.heap.size w W:=by rw [← hW];exact blo
 clear hW
 go_loopw [13] (fun c wr => ∃ (n:Nat),n≤i∧c = .int .i64 n∧Below W.heap.size W wr) (fun c _=>js.length-(intOf c).toNat)
 case atStart=>exact ⟨0,Nat.zero_le _,rfl,Below.refl _ _⟩
 case round =>
  obtain ⟨n,hn,rfl,hb⟩:=hrel
  have hn':n<js.length:=by omega
  obtain ⟨b1,off1,rfl,hpc1⟩:=hj.out.2.2.resolve_left (nz hn')
  obtain ⟨c1,c2,ea,ec,c3,c4⟩:=(hpc1.below hbW) n hn'
  have C4:=hidQ c4
  replace c1:=cell_later hb c1
  replace c2:=cell_later hb c2
  replace c3:=cell_later hb c3
  have hel:=c4.1
  unfold maxLen at hel
  clear hpc1 c4
  have hbs:=hb.size
  go_wp2_with fail
  go_loopw [21] (fun c wr2 => ∃ (m:Nat),m≤js[n].ends.length∧(n=i→m≤k)∧c = .int .i64 m∧Below W.heap.size W wr2) (fun c _=>js[n].ends.length-(intOf c).toNat)
  case atStart=>exact ⟨0,Nat.zero_le _,fun _=>Nat.zero_le _,rfl,blo⟩
  case round =>
   clear c1 c2 c3 hb hbs
   obtain ⟨m,hm,hmk,rfl,hb⟩:=hrel
   have hbs:=hb.size
   by_cases hm':m<js[n].ends.length
   ·obtain ⟨b2,off2,rfl,hpc2⟩:=C4.out.2.resolve_left (nz hm')
    obtain ⟨d1,d2⟩:=(hpc2.below hb) m hm'
    have hz2:w.heap.size+1<_:=Nat.lt_of_lt_of_le (by omega:w.heap.size+1<W.heap.size) hb.size
    have f0:=cell_later hb e0
    have f1:=cell_later hb e1
    clear hpc2
    by_cases hit:n=i∧m=k
    ·obtain ⟨rfl,rfl⟩:=hit
     have h1:js[n].ends[m].piece=p∧js[n].ends[m].side=s:=by rw [H1.out];exact ⟨rfl,rfl⟩
     rw [h1.1] at d1
     rw [h1.2] at d2
     clear h1 hmk
     go_wp2_with fail
     go_ret2
     exact ⟨rfl,hbW.trans (Below.mono (show Below W.heap.size W _ from blo) hbW.size)⟩
    ·have hne:sameE js[n].ends[m] ⟨p,s⟩=false:=by
      by_cases hni:n=i
      ·subst hni
       exact H2.out m hm' (by have:=hmk rfl;omega)
      ·exact H3.out n hn' (by omega) m hm'
     have HMK:Hid (n=i→m+1≤k):=by
      intro hni
      have:=hmk hni
      omega
     have hcs:(js[n].ends[m].piece==p)=false∨(js[n].ends[m].piece==p)=true∧(js[n].ends[m].side==s)=false:=by
      unfold sameE at hne
      revert hne
      cases (js[n].ends[m].piece==p) <;> cases (js[n].ends[m].side==s) <;> simp
     clear hne hit hmk
     rcases hcs with h1 | ⟨h1,h2⟩
     all_goals
      go_wp2_with fail
      go_roundw
      case rel=>exact ⟨m+1,by omega,HMK,by go_num,blo⟩
      case measure=>simp [intOf];omega
   ·have hni:n<i:=by
     by_cases e:n=i
     ·subst e;have:=hmk rfl;omega
     ·omega
    clear hmk
    go_wp2_with fail
    go_roundw
    case rel=>exact ⟨n+1,by omega,by go_num,hb⟩
    case measure=>simp [intOf];omega
def AcrossPost (w:World)(L:List MEnd)(e:Ending)(w':World):Prop := ∃ g,e = .returned (.slice (some ⟨g,0,none⟩) L.length L.length)∧EndCells w' g 0 L∧Below w.heap.size w w'
theorem across_post {w w':World}{L:List MEnd}{g n:Nat}(hn:n=L.length)(hc:EndCells w' g 0 L)(hb:Below w.heap.size w w'):AcrossPost w L (.returned (.slice (some ⟨g,0,none⟩) n n)) w':=by
 subst hn
 exact ⟨g,rfl,hc,hb⟩
theorem endCells_1 {w:World}{g:Nat}{a:MEnd}(h0:w.cell? ⟨g,0,none⟩=some (.int .i64 a.piece))(h1:w.cell? ⟨g,1,none⟩=some (.int .i64 a.side)):EndCells w g 0 [a]:=by
 intro i hi
 have:i=0:=by simpa using hi
 subst this
 exact ⟨h0,h1⟩
theorem endCells_2 {w:World}{g:Nat}{a b:MEnd}(h0:w.cell? ⟨g,0,none⟩=some (.int .i64 a.piece))(h1:w.cell? ⟨g,1,none⟩=some (.int .i64 a.side))(h2:w.cell? ⟨g,2,none⟩=some (.int .i64 b.piece))(h3:w.cell? ⟨g,3,none⟩=some (.int .i64 b.side)):EndCells w g 0 [a,b]:=by
 intro i hi
 have:i=0∨i=1:=by simp at hi;omega
 rcases this with rfl | rfl
 ·exact ⟨h0,h1⟩
 ·exact ⟨h2,h3⟩
theorem l1across_2_0 (s:ByteArray)(x0 x1:MEnd)(ea:Option Addr)(ec:Nat)(w:World)(he:Hid (EndsAt w ea [x0,x1])):
  Calls Tryz.prog 48 #[.agg #[.int .i64 2,.string s,.slice ea 2 ec],.int .i64 0] w (AcrossPost w [x1]):=by
 obtain ⟨b,off,rfl,hpc⟩:=he.out.2.resolve_left (fun h=>by simp at h)
 obtain ⟨c0,d0⟩:=hpc 0 (by simp)
 obtain ⟨c1,d1⟩:=hpc 1 (by simp)
 simp only [Nat.zero_mul,Nat.one_mul,Nat.add_zero,List.getElem_cons_zero,List.getElem_cons_succ] at c0 d0 c1 d1
 have hz:=cellLt c0
 clear hpc
 go_enter Tryz.func48,Tryz.ntmps48
 go_wp2_with fail
 go_ret
 exact across_post rfl (endCells_1 (by simp [go_sem]) (by simp [go_sem])) blo
theorem l1across_2_1 (s:ByteArray)(x0 x1:MEnd)(ea:Option Addr)(ec:Nat)(w:World)(he:Hid (EndsAt w ea [x0,x1])):
  Calls Tryz.prog 48 #[.agg #[.int .i64 2,.string s,.slice ea 2 ec],.int .i64 1] w (AcrossPost w [x0]):=by
 obtain ⟨b,off,rfl,hpc⟩:=he.out.2.resolve_left (fun h=>by simp at h)
 obtain ⟨c0,d0⟩:=hpc 0 (by simp)
 obtain ⟨c1,d1⟩:=hpc 1 (by simp)
 simp only [Nat.zero_mul,Nat.one_mul,Nat.add_zero,List.getElem_cons_zero,List.getElem_cons_succ] at c0 d0 c1 d1
 have hz:=cellLt c0
 clear hpc
 go_enter Tryz.func48,Tryz.ntmps48
 go_wp2_with fail
 go_ret
 exact across_post rfl (endCells_1 (by simp [go_sem]) (by simp [go_sem])) blo
theorem l1across_4_0 (s:ByteArray)(x0 x1 x2 x3:MEnd)(ea:Option Addr)(ec:Nat)(w:World)(he:Hid (EndsAt w ea [x0,x1,x2,x3])):
  Calls Tryz.prog 48 #[.agg #[.int .i64 4,.string s,.slice ea 4 ec],.int .i64 0] w (AcrossPost w [x1]):=by
 obtain ⟨b,off,rfl,hpc⟩:=he.out.2.resolve_left (fun h=>by simp at h)
 obtain ⟨c0,d0⟩:=hpc 0 (by simp)
 obtain ⟨c1,d1⟩:=hpc 1 (by simp)
 obtain ⟨c2,d2⟩:=hpc 2 (by simp)
 obtain ⟨c3,d3⟩:=hpc 3 (by simp)
 simp only [Nat.zero_mul,Nat.one_mul,Nat.reduceMul,Nat.add_zero,List.getElem_cons_zero,List.getElem_cons_succ] at c0 d0 c1 d1 c2 d2 c3 d3
 have hz:=cellLt c0
 clear hpc
 go_enter Tryz.func48,Tryz.ntmps48
 go_wp2_with fail
 go_region
 all_goals
  go_wp2_with fail
  go_ret
  exact across_post rfl (endCells_1 (by simp [go_sem]) (by simp [go_sem])) blo
theorem l1across_4_1 (s:ByteArray)(x0 x1 x2 x3:MEnd)(ea:Option Addr)(ec:Nat)(w:World)(he:Hid (EndsAt w ea [x0,x1,x2,x3])):
  Calls Tryz.prog 48 #[.agg #[.int .i64 4,.string s,.slice ea 4 ec],.int .i64 1] w (AcrossPost w [x0]):=by
 obtain ⟨b,off,rfl,hpc⟩:=he.out.2.resolve_left (fun h=>by simp at h)
 obtain ⟨c0,d0⟩:=hpc 0 (by simp)
 obtain ⟨c1,d1⟩:=hpc 1 (by simp)
 obtain ⟨c2,d2⟩:=hpc 2 (by simp)
 obtain ⟨c3,d3⟩:=hpc 3 (by simp)
 simp only [Nat.zero_mul,Nat.one_mul,Nat.reduceMul,Nat.add_zero,List.getElem_cons_zero,List.getElem_cons_succ] at c0 d0 c1 d1 c2 d2 c3 d3
 have hz:=cellLt c0
 clear hpc
 go_enter Tryz.func48,Tryz.ntmps48
 go_wp2_with fail
 go_region
 all_goals
  go_wp2_with fail
  go_ret
  exact across_post rfl (endCells_1 (by simp [go_sem]) (by simp [go_sem])) blo
theorem l1across_4_2 (s:ByteArray)(x0 x1 x2 x3:MEnd)(ea:Option Addr)(ec:Nat)(w:World)(he:Hid (EndsAt w ea [x0,x1,x2,x3])):
  Calls Tryz.prog 48 #[.agg #[.int .i64 4,.string s,.slice ea 4 ec],.int .i64 2] w (AcrossPost w [x3]):=by
 obtain ⟨b,off,rfl,hpc⟩:=he.out.2.resolve_left (fun h=>by simp at h)
 obtain ⟨c0,d0⟩:=hpc 0 (by simp)
 obtain ⟨c1,d1⟩:=hpc 1 (by simp)
 obtain ⟨c2,d2⟩:=hpc 2 (by simp)
 obtain ⟨c3,d3⟩:=hpc 3 (by simp)
 simp only [Nat.zero_mul,Nat.one_mul,Nat.reduceMul,Nat.add_zero,List.getElem_cons_zero,List.getElem_cons_succ] at c0 d0 c1 d1 c2 d2 c3 d3
 have hz:=cellLt c0
 clear hpc
 go_enter Tryz.func48,Tryz.ntmps48
 go_wp2_with fail
 go_region
 all_goals
  go_wp2_with fail
  go_ret
  exact across_post rfl (endCells_1 (by simp [go_sem]) (by simp [go_sem])) blo
theorem l1across_4_3 (s:ByteArray)(x0 x1 x2 x3:MEnd)(ea:Option Addr)(ec:Nat)(w:World)(he:Hid (EndsAt w ea [x0,x1,x2,x3])):
  Calls Tryz.prog 48 #[.agg #[.int .i64 4,.string s,.slice ea 4 ec],.int .i64 3] w (AcrossPost w [x2]):=by
 obtain ⟨b,off,rfl,hpc⟩:=he.out.2.resolve_left (fun h=>by simp at h)
 obtain ⟨c0,d0⟩:=hpc 0 (by simp)
 obtain ⟨c1,d1⟩:=hpc 1 (by simp)
 obtain ⟨c2,d2⟩:=hpc 2 (by simp)
 obtain ⟨c3,d3⟩:=hpc 3 (by simp)
 simp only [Nat.zero_mul,Nat.one_mul,Nat.reduceMul,Nat.add_zero,List.getElem_cons_zero,List.getElem_cons_succ] at c0 d0 c1 d1 c2 d2 c3 d3
 have hz:=cellLt c0
 clear hpc
 go_enter Tryz.func48,Tryz.ntmps48
 go_wp2_with fail
 go_region
 all_goals
  go_wp2_with fail
  go_ret
  exact across_post rfl (endCells_1 (by simp [go_sem]) (by simp [go_sem])) blo
end Go.Proofs.YtmkdgnmmebldgaaGreatDoor
