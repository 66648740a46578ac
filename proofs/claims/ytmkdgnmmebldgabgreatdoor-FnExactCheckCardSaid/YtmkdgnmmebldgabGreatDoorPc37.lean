import Derived.Test.YtmkdgnmmebldgabGreatDoorPc23
import Derived.Test.YtmkdgnmmebldgabGreatDoorPc35
set_option maxRecDepth 100000
set_option maxHeartbeats 8000000
namespace Go.Proofs.YtmkdgnmmebldgabGreatDoor
open Go.RowKit Go.Deep Go.Maps
open Go.WideMaps (KeyLaw)
theorem Tryz.rowLie:(109:TypeId)<Tryz.prog.types.size:=of_decide_eq_true (by kernel_rfl)
theorem lawKL:KeyLaw Tryz.prog 109:=deep_law_laid Tryz.laidOutB (m:=2) (by omega) Tryz.rowLie (by kernel_rfl) (by rw [Tryz.underlying109])
theorem lawL:Keyed Tryz.prog 109:=Keyed.of_law lawKL
theorem Tryz.cellsLie:Tryz.prog.cellsOf 109=2:=by kernel_rfl
theorem Tryz.cellsIntL:Tryz.prog.cellsOf 3=1:=by kernel_rfl
theorem Tryz.keyTypeLie:Tryz.prog.keyType 109=true:=by kernel_rfl
theorem keyL {p s:Int}(hp:(Lit.int .i64 p).wf=true)(hs:(Lit.int .i64 s).wf=true):∃ kl,keyOf Tryz.prog 109 (.agg #[.int .i64 p,.int .i64 s])=some kl:=by
 have hn:∃ m,Tryz.prog.types.size=m+1:=by
  have h:=Tryz.rowLie
  revert h
  generalize Tryz.prog.types.size=n
  intro h
  cases n with
  | zero=>exact absurd h (Nat.not_lt_zero _)
  | succ m=>exact ⟨m,rfl⟩
 obtain ⟨m,hm⟩:=hn
 unfold keyOf
 simp only [Tryz.underlying109]
 rw [if_pos (by simp [Tryz.keyTypeLie,Value.formed,Tryz.underlying109,Tryz.cellsLie]),hm]
 unfold Program.keyLits
 simp only [Tryz.underlying109,Value.cells]
 rw [if_pos (by rw [Tryz.cellsLie];exact ⟨rfl,by simp⟩)]
 simp [Tryz.cellsIntL,Program.keyLits,Tryz.underlying3,hp,hs]
def standsL (es:List MEnd)(p s:Int):Nat:=es.countP fun e=>e.piece==p&&e.side==s
def fL (es:List MEnd):Value→Int
 | .agg ⟨[.int .i64 p,.int .i64 s]⟩=>standsL es p s
 | _=>0
theorem fL_at (es:List MEnd)(p s:Int):fL es (.agg #[.int .i64 p,.int .i64 s])=standsL es p s:=rfl
theorem fL_nil:fL []=fun _=>0:=by
 funext v
 unfold fL
 split <;> rfl
theorem standsL_snoc (es:List MEnd)(e:MEnd)(p s:Int):standsL (es++[e]) p s=standsL es p s+if (e.piece==p&&e.side==s)=true then 1 else 0:=by
 unfold standsL
 rw [List.countP_append,List.countP_singleton]
theorem fL_same (es:List MEnd)(p s:Int):fL (es++[⟨p,s⟩]) (.agg #[.int .i64 p,.int .i64 s])=fL es (.agg #[.int .i64 p,.int .i64 s])+1:=by
 rw [fL_at,fL_at,standsL_snoc,if_pos (by simp)]
 simp
theorem fL_other (es:List MEnd)(p s:Int):∀ k,k≠.agg #[.int .i64 p,.int .i64 s]→fL (es++[⟨p,s⟩]) k=fL es k:=by
 intro k hk
 unfold fL
 split
 ·rename_i p' s'
  rw [standsL_snoc,if_neg]
  ·simp
  ·intro h
   simp at h
   apply hk
   rw [h.1,h.2]
 ·rfl
theorem standsL_le (es:List MEnd)(p s:Int):standsL es p s≤es.length:=List.countP_le_length
theorem fL_bd (L:List MEnd)(k:Value):0≤fL L k∧fL L k≤L.length:=by
 unfold fL
 split
 ·rename_i p s
  have:=standsL_le L p s
  omega
 ·omega
theorem standsL_met (out:List MEnd)(f:MFlank):decide ((0:Int)<(standsL out f.of f.lie:Nat))=metL out f:=by
 unfold metL standsL
 rw [Bool.eq_iff_iff,decide_eq_true_iff,List.any_eq_true]
 have h:(0:Int)<((List.countP (fun e=>e.piece==f.of&&e.side==f.lie) out:Nat):Int)↔0<List.countP (fun e=>e.piece==f.of&&e.side==f.lie) out:=by omega
 rw [h,List.countP_pos_iff]
def LMap (w:World)(b:Nat)(L:List MEnd):Prop:=CMap 109 w b L.length (fL L)
theorem LMap.below {w w':World}{b:Nat}{L:List MEnd}(h:LMap w b L)(hb:Below w.heap.size w w'):LMap w' b L:=CMap.below h hb
theorem LMap.made (w:World):LMap (w.alloc (.map #[] 0)) w.heap.size []:=by
 have h:=CMap.made 109 w
 rw [← fL_nil] at h
 exact h
theorem LMap.kept {w w':World}{b:Nat}{L:List MEnd}(h:LMap w b L)(e:w'.heap[b]? = w.heap[b]?):LMap w' b L:=CMap.of_block h e
theorem LMap.count {w:World}{b:Nat}{L:List MEnd}(h:LMap w b L){p s:Int}(hp:(Lit.int .i64 p).wf=true)(hs:(Lit.int .i64 s).wf=true)(hn:L.length≤100000000):
  ∃ (c:Int) (v0:Value) (st:Nat) (w1 w2:World),0≤c∧c≤100000000 ∧
   (Instr.lookup 319 (.map (some b)) (.agg #[.int .i64 p,.int .i64 s]) false).run Tryz.prog w = .ok (.int .i64 c) w ∧
   (Instr.mapEntry 319 (.map (some b)) (.agg #[.int .i64 p,.int .i64 s])).run Tryz.prog w = .ok (.tuple #[v0,.int .i64 st]) w1 ∧
   (Instr.lookup 319 (.map (some b)) (.agg #[.int .i64 p,.int .i64 s]) false).run Tryz.prog w1 = .ok (.int .i64 c) w1 ∧
   (Instr.entryStore 319 (.map (some b)) (.int .i64 st) (.int .i64 (c+1))).run Tryz.prog w1 = .ok () w2∧LMap w2 b (L++[⟨p,s⟩])∧w.grownBy w2 (some b):=by
 obtain ⟨kl,hkey⟩:=keyL hp hs
 have hbd:=fL_bd L (.agg #[.int .i64 p,.int .i64 s])
 have hlk:=CMap.lookup h lawL Tryz.underlying319 hkey
 obtain ⟨v0,st,w1,w2,hme,hl1,hes,hM3,hg⟩:=CMap.entry h lawKL Tryz.underlying319 (by unfold maxLen;omega) hkey (fL L (.agg #[.int .i64 p,.int .i64 s])+1) (wf64 (by omega) (by omega)) (fL (L++[⟨p,s⟩])) (fL_same _ _ _) (fL_other _ _ _)
 exact ⟨_,v0,st,w1,w2,hbd.1,by omega,hlk,hme,hl1,hes,by unfold LMap;rw [List.length_append];exact hM3,hg⟩
theorem LMap.look {w:World}{b:Nat}{L:List MEnd}(h:LMap w b L){p s:Int}(hp:(Lit.int .i64 p).wf=true)(hs:(Lit.int .i64 s).wf=true):
   (Instr.lookup 319 (.map (some b)) (.agg #[.int .i64 p,.int .i64 s]) false).run Tryz.prog w = .ok (.int .i64 (standsL L p s)) w:=by
 obtain ⟨kl,hkey⟩:=keyL hp hs
 exact CMap.lookup h lawL Tryz.underlying319 hkey
end Go.Proofs.YtmkdgnmmebldgabGreatDoor
namespace Go.Proofs.YtmkdgnmmebldgabGreatDoor
open Go.RowKit Go.Deep
theorem grown_cellS {w w':World}{b:Nat}{p:Addr}{v:Value}(h:w.grownBy w' (some b))(hc:w.cell? p=some v)(hp:p.block≠b):w'.cell? p=some v:=
 (World.cell?_of_block (w:=w) (h.block p.block (cellLt hc) (fun e=>by cases e;exact hp rfl))).trans hc
theorem owns_grown {w w':World}{b B e s n:Nat}{v:Value}{xs:List Value}(h:w.ownsRow B e s v n xs)(hg:w.grownBy w' (some b))(hb:v.ownBlock≠some b):w'.ownsRow B e s v n xs:=by
 refine ⟨h.1,?_⟩
 rcases h.2 with h2 | ⟨g,cap,cur,h1,h2,h3,h4⟩
 ·exact Or.inl h2
 ·exact Or.inr ⟨g,cap,cur,h1,h2,(hg.block g (Array.getElem?_eq_some_iff.1 h3).1 (fun e=>hb (by rw [h1];exact e))).trans h3,h4⟩
theorem LMap.apart {w:World}{b B e s n:Nat}{v:Value}{xs:List Value}{L:List MEnd}(h:LMap w b L)(ho:w.ownsRow B e s v n xs):v.ownBlock≠some b:=by
 obtain ⟨D,⟨es,clock,hb,_⟩,_⟩:=h
 rcases ho.2 with ⟨rfl,_⟩ | ⟨g,cap,cur,rfl,h2,h3,h4⟩
 ·intro e;cases e
 ·intro e
  cases e
  rw [hb] at h3
  cases h3
theorem LMap.grown {w w':World}{b:Nat}{row:Option Nat}{L:List MEnd}(h:LMap w b L)(hg:w.grownBy w' row)(hr:row≠some b):LMap w' b L:=
 h.kept (hg.block b (CMap.lt h) (fun e=>hr e.symm))
theorem implNeeds_any (d:RAddr)(r:MRoute)(w:World)(h1:Hid (EndsAt w d.a1 r.lies))(h5:Hid (FlanksAt w d.a5 r.flanks))(hl1:r.lies.length≤1048576)(hl5:r.flanks.length≤1048576)(hwf:Hid (WfR r))(hnil:Hid (d.a1=none→d.c1=0)):
  Calls Tryz.prog 149 #[routeV d r] w fun e w' => ∃ x y,e = .returned (.slice x (needsF r.lies r.flanks).length y)∧w'.ownsRow w.heap.size 109 2 (.slice x (needsF r.lies r.flanks).length y) (needsF r.lies r.flanks).length (flatE (needsF r.lies r.flanks))∧Below w.heap.size w w':=by
 have hmm := @run_makeMap Tryz.prog
 unfold routeV
 obtain ⟨a0,c0,a1,c1,a2,c2,a3,c3,a4,c4,a5,c5⟩:=d
 dsimp only at h1 h5 hnil ⊢
 have HNone:Hid (a1=none→r.lies.length=0):=fun e=>by
  rcases h1.out.2 with h | ⟨b,off,h,_⟩
  ·rw [h];rfl
  ·rw [h] at e;cases e
 go_enter Tryz.func149,Tryz.ntmps149
 go_wp2_with (at_builtin;generalize hW:w.alloc _=W;have e7:W.cell? ⟨w.heap.size,7,none⟩=some (.slice a5 r.flanks.length c5):=(by rw [← hW];simp [go_sem]);have hz:w.heap.size+1=W.heap.size:=(by rw [← hW];simp);have hbW:Below w.heap.size w W:=(by rw [← hW];exact blo);have H1:=hidP (h1.out.below hbW);have H5:=hidP (h5.out.below hbW);clear hW h1 h5;refine wpList_append_list rfl (.const (.slice none 0 0)) (.tmp 11) 77 rfl W.heap.size 109 _ 2 16 Tryz.underlying77 Tryz.infoLie rfl (by decide) (.slice none 0 0) 0 [] rfl (World.ownsRow_nil _ _ _ _) a1 r.lies.length c1 (flatE r.lies) rfl hnil.out (flatE_len _) (newsE H1.out) HNone.out (flatE_one _) (by unfold maxLen;omega) (by omega) (Nat.le_refl _) ?_;intro v' w1 ho1 hg1;rw [Nat.zero_add,List.nil_append] at ho1;obtain ⟨x1,y1,hv1,_⟩:=owns_shape ho1;subst hv1;have HO1:=hidP ho1;have hb1:Below W.heap.size W w1:=(Below.refl W.heap.size W).grown hg1 (Nat.le_refl _) (fun j hj=>by cases hj);clear ho1 hg1)
 have hz1:=hb1.size
 obtain ⟨xa,ya,hxy,HEA,_,_⟩:=ownE HO1.out (by unfold maxLen;omega)
 cases hxy
 have HEA':=hidP HEA
 have HM0:=hidP (LMap.made w1)
 clear HEA H1
 go_loopw [16] (fun i wr => ∃ (k:Nat),k≤r.lies.length∧i = .int .i64 k∧Hid (LMap wr w1.heap.size (r.lies.take k))∧Below w1.heap.size w1 wr) (fun i _=>r.lies.length-(intOf i).toNat)
 case atStart=>exact ⟨0,Nat.zero_le _,rfl,HM0.out,blo⟩
 case round =>
  clear HM0 hmm
  obtain ⟨k,hk,rfl,HM,hb⟩:=hrel
  have hbs:=hb.size
  by_cases hk':k<r.lies.length
  ·obtain ⟨b1,off1,rfl,hpc⟩:=HEA'.out.2.resolve_left (nz hk')
   obtain ⟨d0,d1⟩:=(hpc.below hb) k hk'
   clear hpc
   have hM2:=HM.out.below (show Below wr.heap.size wr (wr.alloc (Obj.cells #[Value.int IntKind.i64 r.lies[k].piece,Value.int IntKind.i64 r.lies[k].side] 109)).drew from blo)
   obtain ⟨c,v0,st,w2,w3,hc0,hc1,hlk,hme,hlk2,hes,hM3,hg⟩:=hM2.count (hwf.out.lies k hk').1 (hwf.out.lies k hk').2 (by rw [List.length_take];omega)
   have HM3:Hid (LMap w3 w1.heap.size (r.lies.take (k+1))):=by unfold Hid;rw [List.take_succ_eq_append_getElem hk'];exact hM3
   have hb4:Below w1.heap.size w1 w3:=Below.grown (show Below w1.heap.size w1 (wr.alloc _).drew from blo) hg (by simp;omega) (fun j hj=>by cases hj;exact Nat.le_refl _)
   clear hM2 hM3 hg HM
   go_wp2_with fail
   go_region
   all_goals
    go_wp2_with fail
    go_roundw
    case rel=>exact ⟨k+1,by omega,by go_num,HM3,hb4⟩
    case measure=>simp [intOf];omega
  ·have HT:Hid (r.lies.take k=r.lies):=List.take_of_length_le (by omega)
   rw [HT.out] at HM
   have hkk:k=r.lies.length:=by omega
   have HB:=hidP (hb1.trans (hb.mono hb1.size))
   have HO2:=hidP (owns_below HO1.out hb)
   have e7':=cell_later HB.out e7
   have hz2:w.heap.size<wr.heap.size:=by omega
   clear HO1 HT HEA'
   go_wp2_with fail
   clear e7' hz2 hb hbs
   go_loopw [3,30] (fun v i wr => ∃ (m:Nat) (x:Option Addr) (y:Nat),m≤r.flanks.length∧i = .int .i64 m∧v = .slice x (needsF r.lies (r.flanks.take m)).length y∧Hid (wr.ownsRow W.heap.size 109 2 (.slice x (needsF r.lies (r.flanks.take m)).length y) (needsF r.lies (r.flanks.take m)).length (flatE (needsF r.lies (r.flanks.take m))))∧Hid (LMap wr w1.heap.size (needsF r.lies (r.flanks.take m)))∧Below W.heap.size W wr) (fun _ i _=>r.flanks.length-(intOf i).toNat)
   case atStart=>exact ⟨0,_,_,Nat.zero_le _,rfl,rfl,HO2,HM,HB.out⟩
   case round =>
    clear HO2 HB HM hkk hk hk'
    obtain ⟨m,x,y,hm,rfl,rfl,ho,HM,hb⟩:=hrel
    have hbs:=hb.size
    by_cases hm':m<r.flanks.length
    ·have HNL:=hidP (needs_take_len r.lies r.flanks m)
     have HNS:=hidP (needs_succ r.lies r.flanks m hm')
     generalize hN:needsF r.lies (r.flanks.take m)=out at *
     clear hN
     have hol:out.length≤2097152:=by have:=HNL.out;omega
     obtain ⟨b1,off1,rfl,hpc⟩:=H5.out.2.resolve_left (nz hm')
     obtain ⟨d0,d1,d2,d3⟩:=(hpc.below hb) m hm'
     have hzm:w1.heap.size<wr.heap.size:=CMap.lt HM.out
     clear hpc
     have hbw2:Below wr.heap.size wr ((wr.alloc (Obj.cells #[Value.int IntKind.i64 r.flanks[m].place,Value.int IntKind.i64 r.flanks[m].kind,Value.int IntKind.i64 r.flanks[m].of,Value.int IntKind.i64 r.flanks[m].lie] 133)).alloc (Obj.cells #[Value.int IntKind.i64 r.flanks[m].of,Value.int IntKind.i64 r.flanks[m].lie] 109)):=blo
     have HBW2:=hidP hbw2
     have hlk:=(HM.out.below hbw2).look (hwf.out.flanks m hm').1 (hwf.out.flanks m hm').2
     have hd:=standsL_met out r.flanks[m]
     generalize ((standsL out r.flanks[m].of r.flanks[m].lie:Nat):Int)=c at hlk hd
     clear hbw2
     cases hK:(r.flanks[m].kind != 3)
     rotate_left
     ·have HE:Hid (needsF r.lies (r.flanks.take (m+1))=out):=by
       unfold Hid
       rw [HNS.out,needStep,if_neg (by rintro ⟨h,_⟩;rw [h] at hK;simp at hK)]
      go_wp2_with fail
      go_roundw
      case rel=>exact ⟨m+1,x,y,by omega,by go_num,by rw [HE.out],by rw [HE.out];exact owns_below ho.out HBW2.out,by rw [HE.out];exact HM.out.below HBW2.out,hb.trans (HBW2.out.mono hb.size)⟩
      case measure=>simp [intOf];omega
     ·have HK3:Hid (r.flanks[m].kind=3):=by unfold Hid;simpa using hK
      cases hM:metL out r.flanks[m]
      ·rw [hM] at hd
       have HE:Hid (needsF r.lies (r.flanks.take (m+1))=out++[⟨r.flanks[m].of,r.flanks[m].lie⟩]):=by
        unfold Hid
        rw [HNS.out,needStep,if_pos ⟨HK3.out,hM⟩]
       have HL:Hid ((out++[(⟨r.flanks[m].of,r.flanks[m].lie⟩:MEnd)]).length=out.length+1):=by unfold Hid;simp
       have HF:Hid (flatE out++[.int .i64 r.flanks[m].of,.int .i64 r.flanks[m].lie]=flatE (out++[⟨r.flanks[m].of,r.flanks[m].lie⟩])):=by unfold Hid;rw [flatE_snoc];rfl
       clear hM
       go_wp2_with fail
       clear hlk hd d0 d1 d2 d3 hK
       generalize hW2:(wr.alloc _).alloc _=W2
       have n0:W2.cell? ⟨wr.heap.size+1,0,none⟩=some (.int .i64 r.flanks[m].of):=by rw [← hW2];simp [go_sem]
       have n1:W2.cell? ⟨wr.heap.size+1,1,none⟩=some (.int .i64 r.flanks[m].lie):=by rw [← hW2];simp [go_sem]
       have hbw2:Below wr.heap.size wr W2:=by rw [← hW2];exact HBW2.out
       have HO2:=hidP (owns_below ho.out hbw2)
       have HM2:=hidP (HM.out.below hbw2)
       have hb2:Below W.heap.size W W2:=hb.trans (hbw2.mono hb.size)
       have hz3:wr.heap.size+1<W2.heap.size:=cellLt n0
       clear hW2 ho hb hbs HM hbw2 HBW2
       obtain ⟨c,v0,st,w2,w3,hc0,hc1,hlk,hme,hlk2,hes,hM3,hg⟩:=(HM2.out.below (show Below W2.heap.size W2 W2.drew from blo)).count (hwf.out.flanks m hm').1 (hwf.out.flanks m hm').2 (by omega)
       have HM3:=hidP hM3
       have HO3:=hidP (owns_grown (owns_below HO2.out (show Below W2.heap.size W2 W2.drew from blo)) hg (HM2.out.apart HO2.out))
       have hb3:Below W.heap.size W w3:=Below.grown (show Below W.heap.size W W2.drew from blo) hg (show W.heap.size≤W2.heap.size from hb2.size) (fun j hj=>by cases hj;exact hz1)
       have p0:w3.cell? ⟨wr.heap.size+1,0,none⟩=some (.int .i64 r.flanks[m].of):=grown_cellS hg (show W2.drew.cell? _=_ from n0) (by simp;omega)
       have p1:w3.cell? ⟨wr.heap.size+1,1,none⟩=some (.int .i64 r.flanks[m].lie):=grown_cellS hg (show W2.drew.cell? _=_ from n1) (by simp;omega)
       have hz5:wr.heap.size+1<w3.heap.size:=cellLt p0
       have hbs3:=hb3.size
       clear hM3 hg
       go_region
       all_goals
        go_wp2_with (at_builtin;refine wpList_push rfl (.tmp 54) (.tmp 56) 77 rfl W.heap.size 109 _ 2 16 Tryz.underlying77 Tryz.infoLie rfl (by decide) (.slice x out.length y) out.length (flatE out) rfl HO3.out w3.heap.size rfl [.int .i64 r.flanks[m].of,.int .i64 r.flanks[m].lie] rfl rfl (by simp [Value.oneCell']) (by unfold maxLen;omega) (by omega) (by omega) ?_;intro x' y' w4 ho4 hg4;have hb5:=push_below hb3 HO3.out hg4 (by omega);have HM4:=hidP (HM3.out.grown hg4 (HM3.out.apart HO3.out));rw [HF.out] at ho4;have HO4:=hidP ho4;clear ho4 hg4)
        go_roundw
        case rel=>exact ⟨m+1,x',y',by omega,by go_num,by rw [HE.out,HL.out],by rw [HE.out,HL.out];exact HO4,by rw [HE.out];exact HM4,hb5⟩
        case measure=>simp [intOf];omega
      ·rw [hM] at hd
       have HE:Hid (needsF r.lies (r.flanks.take (m+1))=out):=by
        unfold Hid
        rw [HNS.out,needStep,if_neg (by rintro ⟨_,h⟩;rw [hM] at h;simp at h)]
       clear hM
       go_wp2_with fail
       go_roundw
       case rel=>exact ⟨m+1,x,y,by omega,by go_num,by rw [HE.out],by rw [HE.out];exact owns_below ho.out HBW2.out,by rw [HE.out];exact HM.out.below HBW2.out,hb.trans (HBW2.out.mono hb.size)⟩
       case measure=>simp [intOf];omega
    ·have HT:Hid (r.flanks.take m=r.flanks):=List.take_of_length_le (by omega)
     rw [HT.out] at ho ⊢
     clear HT HM
     go_wp2_with fail
     go_ret
     exact ⟨x,y,rfl,owns_base ho.out (by omega),hbW.trans (hb.mono hbW.size)⟩
end Go.Proofs.YtmkdgnmmebldgabGreatDoor
