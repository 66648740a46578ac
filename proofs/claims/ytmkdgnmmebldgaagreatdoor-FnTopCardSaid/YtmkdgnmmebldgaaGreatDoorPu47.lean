import Derived.Test.YtmkdgnmmebldgaaGreatDoorPu46
import Derived.Test.YtmkdgnmmebldgaaGreatDoorPt21
import Derived.Test.YtmkdgnmmebldgaaGreatDoorPu44
import Derived.Test.YtmkdgnmmebldgaaGreatDoorPt35
set_option maxRecDepth 100000
set_option maxHeartbeats 8000000
namespace Go.Proofs.YtmkdgnmmebldgaaGreatDoor
open Go.RowKit Go.Deep Go.Maps
open Go.WideMaps (KeyLaw)
theorem Tryz.rowLie:(52:TypeId)<Tryz.prog.types.size:=of_decide_eq_true (by kernel_rfl)
theorem lawKL:KeyLaw Tryz.prog 52:=deep_law_laid Tryz.laidOutB (m:=2) (by omega) Tryz.rowLie (by kernel_rfl) (by rw [Tryz.underlying52])
theorem lawL:Keyed Tryz.prog 52:=Keyed.of_law lawKL
theorem Tryz.cellsLie:Tryz.prog.cellsOf 52=2:=by kernel_rfl
theorem Tryz.cellsIntL:Tryz.prog.cellsOf 3=1:=by kernel_rfl
theorem Tryz.keyTypeLie:Tryz.prog.keyType 52=true:=by kernel_rfl
theorem keyL {p s:Int}(hp:(Lit.int .i64 p).wf=true)(hs:(Lit.int .i64 s).wf=true):∃ kl,keyOf Tryz.prog 52 (.agg #[.int .i64 p,.int .i64 s])=some kl:=by
 have hn:∃ m,Tryz.prog.types.size=m+1:=by
  have h:=Tryz.rowLie
  revert h
  generalize Tryz.prog.types.size=n
  intro h
  cases n with
  | zero=>exact absurd h (Nat.not_lt_zero _)
  | succ m=>exact ⟨m,rfl⟩
 obtain ⟨m,hm⟩:=hn
 unfold keyOf
 simp only [Tryz.underlying52]
 rw [if_pos (by simp [Tryz.keyTypeLie,Value.formed,Tryz.underlying52,Tryz.cellsLie]),hm]
 unfold Program.keyLits
 simp only [Tryz.underlying52,Value.cells]
 rw [if_pos (by rw [Tryz.cellsLie];exact ⟨rfl,by simp⟩)]
 simp [Tryz.cellsIntL,Program.keyLits,Tryz.underlying3,hp,hs]
def standsL (es:List MEnd)(p s:Int):Nat:=es.countP fun e=>e.piece==p&&e.side==s
def fL (es:List MEnd):Value→Int
 | .agg ⟨[.int .i64 p,.int .i64 s]⟩=>standsL es p s
 | _=>0
theorem fL_at (es:List MEnd)(p s:Int):fL es (.agg #[.int .i64 p,.int .i64 s])=standsL es p s:=rfl
theorem fL_nil:fL []=fun _=>0:=by
 funext v
 unfold fL
 split <;> rfl
theorem standsL_snoc (es:List MEnd)(e:MEnd)(p s:Int):standsL (es++[e]) p s=standsL es p s+if (e.piece==p&&e.side==s)=true then 1 else 0:=by
 unfold standsL
 rw [List.countP_append,List.countP_singleton]
theorem fL_same (es:List MEnd)(p s:Int):fL (es++[⟨p,s⟩]) (.agg #[.int .i64 p,.int .i64 s])=fL es (.agg #[.int .i64 p,.int .i64 s])+1:=by
 rw [fL_at,fL_at,standsL_snoc,if_pos (by simp)]
 simp
theorem fL_other (es:List MEnd)(p s:Int):∀ k,k≠.agg #[.int .i64 p,.int .i64 s]→fL (es++[⟨p,s⟩]) k=fL es k:=by
 intro k hk
 unfold fL
 split
 ·rename_i p' s'
  rw [standsL_snoc,if_neg]
  ·simp
  ·intro h
   simp at h
   apply hk
   rw [h.1,h.2]
 ·rfl
theorem standsL_le (es:List MEnd)(p s:Int):standsL es p s≤es.length:=List.countP_le_length
theorem fL_bd (L:List MEnd)(k:Value):0≤fL L k∧fL L k≤L.length:=by
 unfold fL
 split
 ·rename_i p s
  have:=standsL_le L p s
  omega
 ·omega
theorem standsL_met (out:List MEnd)(f:MFlank):decide ((0:Int)<(standsL out f.of f.lie:Nat))=metL out f:=by
 unfold metL standsL
 rw [Bool.eq_iff_iff,decide_eq_true_iff,List.any_eq_true]
 have h:(0:Int)<((List.countP (fun e=>e.piece==f.of&&e.side==f.lie) out:Nat):Int)↔0<List.countP (fun e=>e.piece==f.of&&e.side==f.lie) out:=by omega
 rw [h,List.countP_pos_iff]
def LMap (w:World)(b:Nat)(L:List MEnd):Prop:=CMap 52 w b L.length (fL L)
theorem LMap.below {w w':World}{b:Nat}{L:List MEnd}(h:LMap w b L)(hb:Below w.heap.size w w'):LMap w' b L:=CMap.below h hb
theorem LMap.made (w:World):LMap (w.alloc (.map #[] 0)) w.heap.size []:=by
 have h:=CMap.made 52 w
 rw [← fL_nil] at h
 exact h
theorem LMap.kept {w w':World}{b:Nat}{L:List MEnd}(h:LMap w b L)(e:w'.heap[b]? = w.heap[b]?):LMap w' b L:=CMap.of_block h e
theorem LMap.count {w:World}{b:Nat}{L:List MEnd}(h:LMap w b L){p s:Int}(hp:(Lit.int .i64 p).wf=true)(hs:(Lit.int .i64 s).wf=true)(hn:L.length≤100000000):
  ∃ (c:Int) (v0:Value) (st:Nat) (w1 w2:World),0≤c∧c≤100000000 ∧
   (Instr.lookup 301 (.map (some b)) (.agg #[.int .i64 p,.int .i64 s]) false).run Tryz.prog w = .ok (.int .i64 c) w ∧
   (Instr.mapEntry 301 (.map (some b)) (.agg #[.int .i64 p,.int .i64 s])).run Tryz.prog w = .ok (.tuple #[v0,.int .i64 st]) w1 ∧
   (Instr.lookup 301 (.map (some b)) (.agg #[.int .i64 p,.int .i64 s]) false).run Tryz.prog w1 = .ok (.int .i64 c) w1 ∧
   (Instr.entryStore 301 (.map (some b)) (.int .i64 st) (.int .i64 (c+1))).run Tryz.prog w1 = .ok () w2∧LMap w2 b (L++[⟨p,s⟩])∧w.grownBy w2 (some b):=by
 obtain ⟨kl,hkey⟩:=keyL hp hs
 have hbd:=fL_bd L (.agg #[.int .i64 p,.int .i64 s])
 have hlk:=CMap.lookup h lawL Tryz.underlying301 hkey
 obtain ⟨v0,st,w1,w2,hme,hl1,hes,hM3,hg⟩:=CMap.entry h lawKL Tryz.underlying301 (by unfold maxLen;omega) hkey (fL L (.agg #[.int .i64 p,.int .i64 s])+1) (wf64 (by omega) (by omega)) (fL (L++[⟨p,s⟩])) (fL_same _ _ _) (fL_other _ _ _)
 exact ⟨_,v0,st,w1,w2,hbd.1,by omega,hlk,hme,hl1,hes,by unfold LMap;rw [List.length_append];exact hM3,hg⟩
theorem LMap.look {w:World}{b:Nat}{L:List MEnd}(h:LMap w b L){p s:Int}(hp:(Lit.int .i64 p).wf=true)(hs:(Lit.int .i64 s).wf=true):
   (Instr.lookup 301 (.map (some b)) (.agg #[.int .i64 p,.int .i64 s]) false).run Tryz.prog w = .ok (.int .i64 (standsL L p s)) w:=by
 obtain ⟨kl,hkey⟩:=keyL hp hs
 exact CMap.lookup h lawL Tryz.underlying301 hkey
end Go.Proofs.YtmkdgnmmebldgaaGreatDoor
namespace Go.Proofs.YtmkdgnmmebldgaaGreatDoor
open Go.RowKit Go.Deep
theorem grown_cellS {w w':World}{b:Nat}{p:Addr}{v:Value}(h:w.grownBy w' (some b))(hc:w.cell? p=some v)(hp:p.block≠b):w'.cell? p=some v:=
 (World.cell?_of_block (w:=w) (h.block p.block (cellLt hc) (fun e=>by cases e;exact hp rfl))).trans hc
theorem owns_grown {w w':World}{b B e s n:Nat}{v:Value}{xs:List Value}(h:w.ownsRow B e s v n xs)(hg:w.grownBy w' (some b))(hb:v.ownBlock≠some b):w'.ownsRow B e s v n xs:=by
 refine ⟨h.1,?_⟩
 rcases h.2 with h2 | ⟨g,cap,cur,h1,h2,h3,h4⟩
 ·exact Or.inl h2
 ·exact Or.inr ⟨g,cap,cur,h1,h2,(hg.block g (Array.getElem?_eq_some_iff.1 h3).1 (fun e=>hb (by rw [h1];exact e))).trans h3,h4⟩
theorem LMap.apart {w:World}{b B e s n:Nat}{v:Value}{xs:List Value}{L:List MEnd}(h:LMap w b L)(ho:w.ownsRow B e s v n xs):v.ownBlock≠some b:=by
 obtain ⟨D,⟨es,clock,hb,_⟩,_⟩:=h
 rcases ho.2 with ⟨rfl,_⟩ | ⟨g,cap,cur,rfl,h2,h3,h4⟩
 ·intro e;cases e
 ·intro e
  cases e
  rw [hb] at h3
  cases h3
theorem LMap.grown {w w':World}{b:Nat}{row:Option Nat}{L:List MEnd}(h:LMap w b L)(hg:w.grownBy w' row)(hr:row≠some b):LMap w' b L:=
 h.kept (hg.block b (CMap.lt h) (fun e=>hr e.symm))
theorem implNeeds_any (d:RAddr)(r:MRoute)(w:World)(h1:Hid (EndsAt w d.a1 r.lies))(h5:Hid (FlanksAt w d.a5 r.flanks))(hl1:r.lies.length≤1048576)(hl5:r.flanks.length≤1048576)(hwf:Hid (WfR r))(hnil:Hid (d.a1=none→d.c1=0)):
  Calls Tryz.prog 151 #[routeV d r] w fun e w' => ∃ x y,e = .returned (.slice x (needsF r.lies r.flanks).length y)∧w'.ownsRow w.heap.size 52 2 (.slice x (needsF r.lies r.flanks).length y) (needsF r.lies r.flanks).length (flatE (needsF r.lies r.flanks))∧Below w.heap.size w w':=by
 have hmm := @run_makeMap Tryz.prog
 unfold routeV
 obtain ⟨a0,c0,a1,c1,a2,c2,a3,c3,a4,c4,a5,c5⟩:=d
 dsimp only at h1 h5 hnil ⊢
 have HNone:Hid (a1=none→r.lies.length=0):=fun e=>by
  rcases h1.out.2 with h | ⟨b,off,h,_⟩
  ·rw [h];rfl
  ·rw [h] at e;cases e
 go_enter Tryz.func151,Tryz.ntmps151
 go_wp2_with (at_builtin;generalize hW:w.alloc _=W;have e7:W.cell? ⟨w.heap.size,7,none⟩=some (.slice a5 r.flanks.length c5):=(by rw [← hW];simp [go_sem]);have hz:w.heap.size+1=W.heap.size:=(by rw [← hW];simp);have hbW:Below w.heap.size w W:=(by rw [← hW];exact blo);have H1:=hidP (h1.out.below hbW);have H5:=hidP (h5.out.below hbW);clear hW h1 h5;refine wpList_append_list rfl (.const (.slice none 0 0)) (.tmp 11) 39 rfl W.heap.size 52 _ 2 16 Tryz.underlying39 Tryz.infoLie rfl (by decide) (.slice none 0 0) 0 [] rfl (World.ownsRow_nil _ _ _ _) a1 r.lies.length c1 (flatE r.lies) rfl hnil.out (flatE_len _) (newsE H1.out) HNone.out (flatE_one _) (by unfold maxLen;omega) (by omega) (Nat.le_refl _) ?_;intro v' w1 ho1 hg1;rw [Nat.zero_add,List.nil_append] at ho1;obtain ⟨x1,y1,hv1,_⟩:=owns_shape ho1;subst hv1;have HO1:=hidP ho1;have hb1:Below W.heap.size W w1:=(Below.refl W.heap.size W).grown hg1 (Nat.le_refl _) (fun j hj=>by cases hj);clear ho1 hg1)
 have hz1:=hb1.size
 obtain ⟨xa,ya,hxy,HEA,_,_⟩:=ownE HO1.out (by unfold maxLen;omega)
 cases hxy
 have HEA':=hidP HEA
 have HM0:=hidP (LMap.made w1)
 clear HEA H1
 go_loopw [16] (fun i wr => ∃ (k:Nat),k≤r.lies.length∧i = .int .i64 k∧Hid (LMap wr w1.heap.size (r.lies.take k))∧Below w1.heap.size w1 wr) (fun i _=>r.lies.length-(intOf i).toNat)
 case atStart=>exact ⟨0,Nat.zero_le _,rfl,HM0.out,blo⟩
 case round =>
  clear HM0 hmm
  obtain ⟨k,hk,rfl,HM,hb⟩:=hrel
  have hbs:=hb.size
  by_cases hk':k<r.lies.length
  ·obtain ⟨b1,off1,rfl,hpc⟩:=HEA'.out.2.resolve_left (nz hk')
   obtain ⟨d0,d1⟩:=(hpc.below hb) k hk'
   clear hpc
   have hM2:=HM.out.below (show Below wr.heap.size wr (wr.alloc (Obj.cells #[Value.int IntKind.i64 r.lies[k].piece,Value.int IntKind.i64 r.lies[k].side] 52)).drew from blo)
   obtain ⟨c,v0,st,w2,w3,hc0,hc1,hlk,hme,hlk2,hes,hM3,hg⟩:=hM2.count (hwf.out.lies k hk').1 (hwf.out.lies k hk').2 (by rw [List.length_take];omega)
   have HM3:Hid (LMap w3 w1.heap.size (r.lies.take (k+1))):=by unfold Hid;rw [List.take_succ_eq_append_getElem hk'];exact hM3
   have hb4:Below w1.heap.size w1 w3:=Below.grown (show Below w1.heap.size w1 (wr.alloc _).drew from blo) hg (by simp;omega) (fun j hj=>by cases hj;exact Nat.le_refl _)
   clear hM2 hM3 hg HM
   go_wp2_with fail
   go_region
   all_goals
    go_wp2_with fail
    go_roundw
    case rel=>exact ⟨k+1,by omega,by go_num,HM3,hb4⟩
    case measure=>simp [intOf];omega
  ·have HT:Hid (r.lies.take k=r.lies):=List.take_of_length_le (by omega)
   rw [HT.out] at HM
   have hkk:k=r.lies.length:=by omega
   have HB:=hidP (hb1.trans (hb.mono hb1.size))
   have HO2:=hidP (owns_below HO1.out hb)
   have e7':=cell_later HB.out e7
   have hz2:w.heap.size<wr.heap.size:=by omega
   clear HO1 HT HEA'
   go_wp2_with fail
   clear e7' hz2 hb hbs
   go_loopw [3,30] (fun v i wr => ∃ (m:Nat) (x:Option Addr) (y:Nat),m≤r.flanks.length∧i = .int .i64 m∧v = .slice x (needsF r.lies (r.flanks.take m)).length y∧Hid (wr.ownsRow W.heap.size 52 2 (.slice x (needsF r.lies (r.flanks.take m)).length y) (needsF r.lies (r.flanks.take m)).length (flatE (needsF r.lies (r.flanks.take m))))∧Hid (LMap wr w1.heap.size (needsF r.lies (r.flanks.take m)))∧Below W.heap.size W wr) (fun _ i _=>r.flanks.length-(intOf i).toNat)
   case atStart=>exact ⟨0,_,_,Nat.zero_le _,rfl,rfl,HO2,HM,HB.out⟩
   case round =>
    clear HO2 HB HM hkk hk hk'
    obtain ⟨m,x,y,hm,rfl,rfl,ho,HM,hb⟩:=hrel
    have hbs:=hb.size
    by_cases hm':m<r.flanks.length
    ·have HNL:=hidP (needs_take_len r.lies r.flanks m)
     have HNS:=hidP (needs_succ r.lies r.flanks m hm')
     generalize hN:needsF r.lies (r.flanks.take m)=out at *
     clear hN
     have hol:out.length≤2097152:=by have:=HNL.out;omega
     obtain ⟨b1,off1,rfl,hpc⟩:=H5.out.2.resolve_left (nz hm')
     obtain ⟨d0,d1,d2,d3⟩:=(hpc.below hb) m hm'
     have hzm:w1.heap.size<wr.heap.size:=CMap.lt HM.out
     clear hpc
     have hbw2:Below wr.heap.size wr ((wr.alloc (Obj.cells #[Value.int IntKind.i64 r.flanks[m].place,Value.int IntKind.i64 r.flanks[m].kind,Value.int IntKind.i64 r.flanks[m].of,Value.int IntKind.i64 r.flanks[m].lie] 50)).alloc (Obj.cells #[Value.int IntKind.i64 r.flanks[m].of,Value.int IntKind.i64 r.flanks[m].lie] 52)):=blo
     have HBW2:=hidP hbw2
     have hlk:=(HM.out.below hbw2).look (hwf.out.flanks m hm').1 (hwf.out.flanks m hm').2
     have hd:=standsL_met out r.flanks[m]
     generalize ((standsL out r.flanks[m].of r.flanks[m].lie:Nat):Int)=c at hlk hd
     clear hbw2
     cases hK:(r.flanks[m].kind != 3)
     rotate_left
     ·have HE:Hid (needsF r.lies (r.flanks.take (m+1))=out):=by
       unfold Hid
       rw [HNS.out,needStep,if_neg (by rintro ⟨h,_⟩;rw [h] at hK;simp at hK)]
      go_wp2_with fail
      go_roundw
      case rel=>exact ⟨m+1,x,y,by omega,by go_num,by rw [HE.out],by rw [HE.out];exact owns_below ho.out HBW2.out,by rw [HE.out];exact HM.out.below HBW2.out,hb.trans (HBW2.out.mono hb.size)⟩
      case measure=>simp [intOf];omega
     ·have HK3:Hid (r.flanks[m].kind=3):=by unfold Hid;simpa using hK
      cases hM:metL out r.flanks[m]
      ·rw [hM] at hd
       have HE:Hid (needsF r.lies (r.flanks.take (m+1))=out++[⟨r.flanks[m].of,r.flanks[m].lie⟩]):=by
        unfold Hid
        rw [HNS.out,needStep,if_pos ⟨HK3.out,hM⟩]
       have HL:Hid ((out++[(⟨r.flanks[m].of,r.flanks[m].lie⟩:MEnd)]).length=out.length+1):=by unfold Hid;simp
       have HF:Hid (flatE out++[.int .i64 r.flanks[m].of,.int .i64 r.flanks[m].lie]=flatE (out++[⟨r.flanks[m].of,r.flanks[m].lie⟩])):=by unfold Hid;rw [flatE_snoc];rfl
       clear hM
       go_wp2_with fail
       clear hlk hd d0 d1 d2 d3 hK
       generalize hW2:(wr.alloc _).alloc _=W2
       have n0:W2.cell? ⟨wr.heap.size+1,0,none⟩=some (.int .i64 r.flanks[m].of):=by rw [← hW2];simp [go_sem]
       have n1:W2.cell? ⟨wr.heap.size+1,1,none⟩=some (.int .i64 r.flanks[m].lie):=by rw [← hW2];simp [go_sem]
       have hbw2:Below wr.heap.size wr W2:=by rw [← hW2];exact HBW2.out
       have HO2:=hidP (owns_below ho.out hbw2)
       have HM2:=hidP (HM.out.below hbw2)
       have hb2:Below W.heap.size W W2:=hb.trans (hbw2.mono hb.size)
       have hz3:wr.heap.size+1<W2.heap.size:=cellLt n0
       clear hW2 ho hb hbs HM hbw2 HBW2
       obtain ⟨c,v0,st,w2,w3,hc0,hc1,hlk,hme,hlk2,hes,hM3,hg⟩:=(HM2.out.below (show Below W2.heap.size W2 W2.drew from blo)).count (hwf.out.flanks m hm').1 (hwf.out.flanks m hm').2 (by omega)
       have HM3:=hidP hM3
       have HO3:=hidP (owns_grown (owns_below HO2.out (show Below W2.heap.size W2 W2.drew from blo)) hg (HM2.out.apart HO2.out))
       have hb3:Below W.heap.size W w3:=Below.grown (show Below W.heap.size W W2.drew from blo) hg (show W.heap.size≤W2.heap.size from hb2.size) (fun j hj=>by cases hj;exact hz1)
       have p0:w3.cell? ⟨wr.heap.size+1,0,none⟩=some (.int .i64 r.flanks[m].of):=grown_cellS hg (show W2.drew.cell? _=_ from n0) (by simp;omega)
       have p1:w3.cell? ⟨wr.heap.size+1,1,none⟩=some (.int .i64 r.flanks[m].lie):=grown_cellS hg (show W2.drew.cell? _=_ from n1) (by simp;omega)
       have hz5:wr.heap.size+1<w3.heap.size:=cellLt p0
       have hbs3:=hb3.size
       clear hM3 hg
       go_region
       all_goals
        go_wp2_with (at_builtin;refine wpList_push rfl (.tmp 54) (.tmp 56) 39 rfl W.heap.size 52 _ 2 16 Tryz.underlying39 Tryz.infoLie rfl (by decide) (.slice x out.length y) out.length (flatE out) rfl HO3.out w3.heap.size rfl [.int .i64 r.flanks[m].of,.int .i64 r.flanks[m].lie] rfl rfl (by simp [Value.oneCell']) (by unfold maxLen;omega) (by omega) (by omega) ?_;intro x' y' w4 ho4 hg4;have hb5:=push_below hb3 HO3.out hg4 (by omega);have HM4:=hidP (HM3.out.grown hg4 (HM3.out.apart HO3.out));rw [HF.out] at ho4;have HO4:=hidP ho4;clear ho4 hg4)
        go_roundw
        case rel=>exact ⟨m+1,x',y',by omega,by go_num,by rw [HE.out,HL.out],by rw [HE.out,HL.out];exact HO4,by rw [HE.out];exact HM4,hb5⟩
        case measure=>simp [intOf];omega
      ·rw [hM] at hd
       have HE:Hid (needsF r.lies (r.flanks.take (m+1))=out):=by
        unfold Hid
        rw [HNS.out,needStep,if_neg (by rintro ⟨_,h⟩;rw [hM] at h;simp at h)]
       clear hM
       go_wp2_with fail
       go_roundw
       case rel=>exact ⟨m+1,x,y,by omega,by go_num,by rw [HE.out],by rw [HE.out];exact owns_below ho.out HBW2.out,by rw [HE.out];exact HM.out.below HBW2.out,hb.trans (HBW2.out.mono hb.size)⟩
       case measure=>simp [intOf];omega
    ·have HT:Hid (r.flanks.take m=r.flanks):=List.take_of_length_le (by omega)
     rw [HT.out] at ho ⊢
     clear HT HM
     go_wp2_with fail
     go_ret
     exact ⟨x,y,rfl,owns_base ho.out (by omega),hbW.trans (hb.mono hbW.size)⟩
structure MClaim where
 parts:List MPart
 over:List MPart
 crosses:List Int
 needs:List MEnd
structure CAddr where
 pa:Option Addr
 pc:Nat
 ps:MSet
 oa:Option Addr
 oc:Nat
 os:MSet
 xa:Option Addr
 xc:Nat
 xs:MSet
 na:Option Addr
 nc:Nat
 ns:MSet
def claimF (r:MRoute):MClaim:=⟨r.parts,r.over,r.crosses,needsF r.lies r.flanks⟩
def claimV (d:CAddr)(c:MClaim):Value:=
 .agg #[.slice d.pa c.parts.length d.pc,.int .u64 d.ps.a,.int .u64 d.ps.b,.slice d.oa c.over.length d.oc,.int .u64 d.os.a,.int .u64 d.os.b,
  .slice d.xa c.crosses.length d.xc,.int .u64 d.xs.a,.int .u64 d.xs.b,.slice d.na c.needs.length d.nc,.int .u64 d.ns.a,.int .u64 d.ns.b]
structure ClaimAt (w:World)(d:CAddr)(c:MClaim):Prop where
 parts:PartsAt w d.pa c.parts
 over:PartsAt w d.oa c.over
 crosses:NumsAt w d.xa c.crosses
 needs:EndsAt w d.na c.needs
 kp:d.ps=keysF (c.parts.map MPart.piece)
 ko:d.os=keysF (c.over.map MPart.piece)
 kx:d.xs=keysF (c.crosses.map id)
 kn:d.ns=keysF (c.needs.map MEnd.piece)
theorem ClaimAt.below {w w':World}{d:CAddr}{c:MClaim}(h:ClaimAt w d c)(hb:Below w.heap.size w w'):ClaimAt w' d c:=
 ⟨h.parts.below hb,h.over.below hb,h.crosses.below hb,h.needs.below hb,h.kp,h.ko,h.kx,h.kn⟩
structure ClaimOwn (w wr:World)(d:CAddr)(c:MClaim):Prop where
 parts:PartsAt w d.pa c.parts
 over:PartsAt w d.oa c.over
 crosses:NumsAt w d.xa c.crosses
 needs:∃ B,wr.ownsRow B 52 2 (.slice d.na c.needs.length d.nc) c.needs.length (flatE c.needs)
 short:c.needs.length≤maxLen
 kp:d.ps=keysF (c.parts.map MPart.piece)
 ko:d.os=keysF (c.over.map MPart.piece)
 kx:d.xs=keysF (c.crosses.map id)
 kn:d.ns=keysF (c.needs.map MEnd.piece)
theorem ClaimOwn.at {w wr:World}{d:CAddr}{c:MClaim}(h:ClaimOwn w wr d c)(hb:Below w.heap.size w wr):ClaimAt wr d c:=by
 obtain ⟨B,ho⟩:=h.needs
 obtain ⟨xa,ya,hxy,he,_,_⟩:=ownE ho h.short
 cases hxy
 exact ⟨h.parts.below hb,h.over.below hb,h.crosses.below hb,he,h.kp,h.ko,h.kx,h.kn⟩
theorem owns_keptC {w w':World}{B e s n:Nat}{v:Value}{xs:List Value}(h:w.ownsRow B e s v n xs)(hk:∀ b,v.ownBlock=some b→w'.heap[b]? = w.heap[b]?):w'.ownsRow B e s v n xs:=by
 refine ⟨h.1,?_⟩
 rcases h.2 with h2 | ⟨g,cap,cur,h1,h2,h3,h4⟩
 ·exact Or.inl h2
 ·exact Or.inr ⟨g,cap,cur,h1,h2,(hk g (by rw [h1];rfl)).trans h3,h4⟩
theorem ClaimOwn.below {w wr wr':World}{d:CAddr}{c:MClaim}(h:ClaimOwn w wr d c)(hb:Below wr.heap.size wr wr'):ClaimOwn w wr' d c:=by
 obtain ⟨B,ho⟩:=h.needs
 exact ⟨h.parts,h.over,h.crosses,⟨B,owns_below ho hb⟩,h.short,h.kp,h.ko,h.kx,h.kn⟩
theorem ClaimOwn.grown {w wr wr':World}{d:CAddr}{c:MClaim}{B e s n:Nat}{v:Value}{xs:List Value}(h:ClaimOwn w wr d c)(hv:wr.ownsRow B e s v n xs)(he:52≠e)(hg:wr.grownBy wr' v.ownBlock):ClaimOwn w wr' d c:=by
 obtain ⟨B',ho⟩:=h.needs
 exact ⟨h.parts,h.over,h.crosses,⟨B',ho.kept hg (owns_ne he ho hv)⟩,h.short,h.kp,h.ko,h.kx,h.kn⟩
theorem ClaimOwn.base {w0 w wr:World}{d:CAddr}{c:MClaim}(h:ClaimOwn w wr d c)(hp:PartsAt w0 d.pa c.parts)(ho:PartsAt w0 d.oa c.over)(hx:NumsAt w0 d.xa c.crosses):ClaimOwn w0 wr d c:=⟨hp,ho,hx,h.needs,h.short,h.kp,h.ko,h.kx,h.kn⟩
structure ClaimCell (w:World)(b o:Nat)(d:CAddr)(c:MClaim):Prop where
 k0:w.cell? ⟨b,o,none⟩=some (.slice d.pa c.parts.length d.pc)
 k1:w.cell? ⟨b,o+1,none⟩=some (.int .u64 d.ps.a)
 k2:w.cell? ⟨b,o+2,none⟩=some (.int .u64 d.ps.b)
 k3:w.cell? ⟨b,o+3,none⟩=some (.slice d.oa c.over.length d.oc)
 k4:w.cell? ⟨b,o+4,none⟩=some (.int .u64 d.os.a)
 k5:w.cell? ⟨b,o+5,none⟩=some (.int .u64 d.os.b)
 k6:w.cell? ⟨b,o+6,none⟩=some (.slice d.xa c.crosses.length d.xc)
 k7:w.cell? ⟨b,o+7,none⟩=some (.int .u64 d.xs.a)
 k8:w.cell? ⟨b,o+8,none⟩=some (.int .u64 d.xs.b)
 k9:w.cell? ⟨b,o+9,none⟩=some (.slice d.na c.needs.length d.nc)
 k10:w.cell? ⟨b,o+10,none⟩=some (.int .u64 d.ns.a)
 k11:w.cell? ⟨b,o+11,none⟩=some (.int .u64 d.ns.b)
theorem ClaimCell.kept {w w':World}{b o:Nat}{d:CAddr}{c:MClaim}(h:ClaimCell w b o d c)(e:w'.heap[b]? = w.heap[b]?):ClaimCell w' b o d c:=
 ⟨(World.cell?_of_block (w:=w) e).trans h.k0,(World.cell?_of_block (w:=w) e).trans h.k1,(World.cell?_of_block (w:=w) e).trans h.k2,(World.cell?_of_block (w:=w) e).trans h.k3,
 (World.cell?_of_block (w:=w) e).trans h.k4,(World.cell?_of_block (w:=w) e).trans h.k5,(World.cell?_of_block (w:=w) e).trans h.k6,(World.cell?_of_block (w:=w) e).trans h.k7,
 (World.cell?_of_block (w:=w) e).trans h.k8,(World.cell?_of_block (w:=w) e).trans h.k9,(World.cell?_of_block (w:=w) e).trans h.k10,(World.cell?_of_block (w:=w) e).trans h.k11⟩
theorem ClaimCell.lt {w:World}{b o:Nat}{d:CAddr}{c:MClaim}(h:ClaimCell w b o d c):b<w.heap.size:=cellLt h.k0
theorem ClaimCell.below {w w':World}{b o:Nat}{d:CAddr}{c:MClaim}(h:ClaimCell w b o d c)(hb:Below w.heap.size w w'):ClaimCell w' b o d c:=h.kept (hb.block b h.lt)
theorem claimCell_box (w:World)(d:CAddr)(c:MClaim)(T:TypeId):ClaimCell (w.alloc (.cells #[.slice d.pa c.parts.length d.pc,.int .u64 d.ps.a,.int .u64 d.ps.b,.slice d.oa c.over.length d.oc,.int .u64 d.os.a,.int .u64 d.os.b,
  .slice d.xa c.crosses.length d.xc,.int .u64 d.xs.a,.int .u64 d.xs.b,.slice d.na c.needs.length d.nc,.int .u64 d.ns.a,.int .u64 d.ns.b] T)) w.heap.size 0 d c:=by
 constructor <;> simp [go_sem]
theorem claimCell_box1 {w W:World}{o:Obj}(hW:W=w.alloc o)(d:CAddr)(c:MClaim)(T:TypeId):ClaimCell (W.alloc (.cells #[.slice d.pa c.parts.length d.pc,.int .u64 d.ps.a,.int .u64 d.ps.b,.slice d.oa c.over.length d.oc,.int .u64 d.os.a,.int .u64 d.os.b,
  .slice d.xa c.crosses.length d.xc,.int .u64 d.xs.a,.int .u64 d.xs.b,.slice d.na c.needs.length d.nc,.int .u64 d.ns.a,.int .u64 d.ns.b] T)) (w.heap.size+1) 0 d c:=by
 have h:=claimCell_box W d c T
 rw [show W.heap.size=w.heap.size+1 by rw [hW];simp] at h
 exact h
def exclC (a b:MClaim):Int:=
 if touchL a.parts b.parts=true then 1
 else if crossL a.crosses b.crosses=true then 2
 else if wantL a.needs b.needs=true then 3
 else if touchL a.over b.parts=true∨touchL b.over a.parts=true then 4
 else 0
theorem exclC_eq (a b:MRoute):exclC (claimF a) (claimF b)=exclF a b:=by
 unfold exclC exclF claimF
 rw [touchL_symm b.over]
theorem exclC_1 {a b:MClaim}(h:touchL a.parts b.parts=true):exclC a b=1:=by unfold exclC;rw [if_pos h]
theorem exclC_2 {a b:MClaim}(h1:touchL a.parts b.parts=false)(h:crossL a.crosses b.crosses=true):exclC a b=2:=by unfold exclC;rw [if_neg (by simp [h1]),if_pos h]
theorem exclC_3 {a b:MClaim}(h1:touchL a.parts b.parts=false)(h2:crossL a.crosses b.crosses=false)(h:wantL a.needs b.needs=true):exclC a b=3:=by unfold exclC;rw [if_neg (by simp [h1]),if_neg (by simp [h2]),if_pos h]
theorem exclC_4 {a b:MClaim}(h1:touchL a.parts b.parts=false)(h2:crossL a.crosses b.crosses=false)(h3:wantL a.needs b.needs=false)(h:touchL a.over b.parts=true∨touchL b.over a.parts=true):exclC a b=4:=by unfold exclC;rw [if_neg (by simp [h1]),if_neg (by simp [h2]),if_neg (by simp [h3]),if_pos h]
theorem exclC_0 {a b:MClaim}(h1:touchL a.parts b.parts=false)(h2:crossL a.crosses b.crosses=false)(h3:wantL a.needs b.needs=false)(h4:touchL a.over b.parts=false)(h5:touchL b.over a.parts=false):exclC a b=0:=by unfold exclC;rw [if_neg (by simp [h1]),if_neg (by simp [h2]),if_neg (by simp [h3]),if_neg (by simp [h4,h5])]
theorem against_any (d d':CAddr)(a b:MClaim)(w:World)(ha:Hid (ClaimAt w d a))(hb:Hid (ClaimAt w d' b)):
  Calls Tryz.prog 123 #[claimV d a,claimV d' b] w fun e w'=>e = .returned (.int .i64 (exclC a b))∧Below w.heap.size w w':=by
 unfold claimV
 go_enter Tryz.func123,Tryz.ntmps123
 go_wp2_with fail
 generalize hW:(w.alloc _).alloc _=W
 have HA:Hid (ClaimCell W w.heap.size 0 d a):=by rw [← hW];exact (claimCell_box w d a _).below blo
 have HB:Hid (ClaimCell W (w.heap.size+1) 0 d' b):=by rw [← hW];exact claimCell_box1 rfl d' b _
 have hbW:Below w.heap.size w W:=by rw [← hW];exact blo
 have hz:w.heap.size+1<W.heap.size:=by rw [← hW];simp
 have LA:=hidP (ha.out.below hbW)
 have LB:=hidP (hb.out.below hbW)
 clear hW ha hb
 refine (anyTwoP_any _ _ _ _ a.parts b.parts d.ps d'.ps LA.out.kp LB.out.kp _ LA.out.parts LB.out.parts).mono ?_
 rintro e w1 ⟨rfl,hb1⟩
 have hz1:w.heap.size+1<w1.heap.size:=Nat.lt_of_lt_of_le hz hb1.size
 have hz1':w.heap.size<w1.heap.size:=by omega
 cases t1:touchL a.parts b.parts
 rotate_left
 ·have HX:=hidP (exclC_1 t1)
  clear t1
  go_wp2_with fail
  go_ret
  exact ⟨ret_int HX.out.symm,hbW.trans (hb1.mono hbW.size)⟩
 have T1:=hidP t1
 clear t1
 have x6:w1.cell? ⟨w.heap.size,6,none⟩=some (.slice d.xa a.crosses.length d.xc):=(HA.out.below hb1).k6
 have x7:w1.cell? ⟨w.heap.size,7,none⟩=some (.int .u64 d.xs.a):=(HA.out.below hb1).k7
 have x8:w1.cell? ⟨w.heap.size,8,none⟩=some (.int .u64 d.xs.b):=(HA.out.below hb1).k8
 have y6:w1.cell? ⟨w.heap.size+1,6,none⟩=some (.slice d'.xa b.crosses.length d'.xc):=(HB.out.below hb1).k6
 have y7:w1.cell? ⟨w.heap.size+1,7,none⟩=some (.int .u64 d'.xs.a):=(HB.out.below hb1).k7
 have y8:w1.cell? ⟨w.heap.size+1,8,none⟩=some (.int .u64 d'.xs.b):=(HB.out.below hb1).k8
 go_wp2_with fail
 clear x6 x7 x8 y6 y7 y8 hz1 hz1'
 refine (anyTwoN_any _ _ _ _ a.crosses b.crosses d.xs d'.xs LA.out.kx LB.out.kx _ (LA.out.below hb1).crosses (LB.out.below hb1).crosses).mono ?_
 rintro e w2 ⟨rfl,hb2'⟩
 have hb2:=hb1.trans (hb2'.mono hb1.size)
 have hz2:w.heap.size+1<w2.heap.size:=Nat.lt_of_lt_of_le hz hb2.size
 have hz2':w.heap.size<w2.heap.size:=by omega
 clear hb1 hb2'
 cases t2:crossL a.crosses b.crosses
 rotate_left
 ·have HX:=hidP (exclC_2 T1.out t2)
  clear t2
  go_wp2_with fail
  go_ret
  exact ⟨ret_int HX.out.symm,hbW.trans (hb2.mono hbW.size)⟩
 have T2:=hidP t2
 clear t2
 have x6:w2.cell? ⟨w.heap.size,9,none⟩=some (.slice d.na a.needs.length d.nc):=(HA.out.below hb2).k9
 have x7:w2.cell? ⟨w.heap.size,10,none⟩=some (.int .u64 d.ns.a):=(HA.out.below hb2).k10
 have x8:w2.cell? ⟨w.heap.size,11,none⟩=some (.int .u64 d.ns.b):=(HA.out.below hb2).k11
 have y6:w2.cell? ⟨w.heap.size+1,9,none⟩=some (.slice d'.na b.needs.length d'.nc):=(HB.out.below hb2).k9
 have y7:w2.cell? ⟨w.heap.size+1,10,none⟩=some (.int .u64 d'.ns.a):=(HB.out.below hb2).k10
 have y8:w2.cell? ⟨w.heap.size+1,11,none⟩=some (.int .u64 d'.ns.b):=(HB.out.below hb2).k11
 go_wp2_with fail
 clear x6 x7 x8 y6 y7 y8 hz2 hz2'
 refine (anyTwoL_any _ _ _ _ a.needs b.needs d.ns d'.ns LA.out.kn LB.out.kn _ (LA.out.below hb2).needs (LB.out.below hb2).needs).mono ?_
 rintro e w3 ⟨rfl,hb3'⟩
 have hb3:=hb2.trans (hb3'.mono hb2.size)
 have hz3:w.heap.size+1<w3.heap.size:=Nat.lt_of_lt_of_le hz hb3.size
 have hz3':w.heap.size<w3.heap.size:=by omega
 clear hb2 hb3'
 cases t3:wantL a.needs b.needs
 rotate_left
 ·have HX:=hidP (exclC_3 T1.out T2.out t3)
  clear t3
  go_wp2_with fail
  go_ret
  exact ⟨ret_int HX.out.symm,hbW.trans (hb3.mono hbW.size)⟩
 have T3:=hidP t3
 clear t3
 have x6:w3.cell? ⟨w.heap.size,3,none⟩=some (.slice d.oa a.over.length d.oc):=(HA.out.below hb3).k3
 have x7:w3.cell? ⟨w.heap.size,4,none⟩=some (.int .u64 d.os.a):=(HA.out.below hb3).k4
 have x8:w3.cell? ⟨w.heap.size,5,none⟩=some (.int .u64 d.os.b):=(HA.out.below hb3).k5
 have y6:w3.cell? ⟨w.heap.size+1,0,none⟩=some (.slice d'.pa b.parts.length d'.pc):=(HB.out.below hb3).k0
 have y7:w3.cell? ⟨w.heap.size+1,1,none⟩=some (.int .u64 d'.ps.a):=(HB.out.below hb3).k1
 have y8:w3.cell? ⟨w.heap.size+1,2,none⟩=some (.int .u64 d'.ps.b):=(HB.out.below hb3).k2
 go_wp2_with fail
 clear x6 x7 x8 y6 y7 y8 hz3 hz3'
 refine (anyTwoP_any _ _ _ _ a.over b.parts d.os d'.ps LA.out.ko LB.out.kp _ (LA.out.below hb3).over (LB.out.below hb3).parts).mono ?_
 rintro e w4 ⟨rfl,hb4'⟩
 have hb4:=hb3.trans (hb4'.mono hb3.size)
 have hz4:w.heap.size+1<w4.heap.size:=Nat.lt_of_lt_of_le hz hb4.size
 have hz4':w.heap.size<w4.heap.size:=by omega
 clear hb3 hb4'
 cases t4:touchL a.over b.parts
 rotate_left
 ·have HX:=hidP (exclC_4 T1.out T2.out T3.out (Or.inl t4))
  clear t4
  go_wp2_with fail
  go_ret
  exact ⟨ret_int HX.out.symm,hbW.trans (hb4.mono hbW.size)⟩
 have T4:=hidP t4
 clear t4
 have x6:w4.cell? ⟨w.heap.size+1,3,none⟩=some (.slice d'.oa b.over.length d'.oc):=(HB.out.below hb4).k3
 have x7:w4.cell? ⟨w.heap.size+1,4,none⟩=some (.int .u64 d'.os.a):=(HB.out.below hb4).k4
 have x8:w4.cell? ⟨w.heap.size+1,5,none⟩=some (.int .u64 d'.os.b):=(HB.out.below hb4).k5
 have y6:w4.cell? ⟨w.heap.size,0,none⟩=some (.slice d.pa a.parts.length d.pc):=(HA.out.below hb4).k0
 have y7:w4.cell? ⟨w.heap.size,1,none⟩=some (.int .u64 d.ps.a):=(HA.out.below hb4).k1
 have y8:w4.cell? ⟨w.heap.size,2,none⟩=some (.int .u64 d.ps.b):=(HA.out.below hb4).k2
 go_wp2_with fail
 clear x6 x7 x8 y6 y7 y8 hz4 hz4'
 refine (anyTwoP_any _ _ _ _ b.over a.parts d'.os d.ps LB.out.ko LA.out.kp _ (LB.out.below hb4).over (LA.out.below hb4).parts).mono ?_
 rintro e w5 ⟨rfl,hb5'⟩
 have hb5:=hb4.trans (hb5'.mono hb4.size)
 clear hb4 hb5'
 cases t5:touchL b.over a.parts
 ·have HX:=hidP (exclC_0 T1.out T2.out T3.out T4.out t5)
  clear t5
  go_wp2_with fail
  go_ret
  exact ⟨ret_int HX.out.symm,hbW.trans (hb5.mono hbW.size)⟩
 ·have HX:=hidP (exclC_4 T1.out T2.out T3.out (Or.inr t5))
  clear t5
  go_wp2_with fail
  go_ret
  exact ⟨ret_int HX.out.symm,hbW.trans (hb5.mono hbW.size)⟩
theorem row_of_alloc1 {w W:World}{o:Obj}(hW:W=w.alloc o)(c:Array Value)(T:Nat):(W.alloc (.cells c T)).rowIs (w.heap.size+1) T c.size (fun j=>c.getD j (.bool false)):=by
 have h:=row_of_alloc W c T
 rw [show W.heap.size=w.heap.size+1 by rw [hW];simp] at h
 exact h
theorem store12 {u:World}{B:Nat}{T:TypeId}{f:Nat→Value}(h:u.rowIs B T 12 f)(v0 v1 v2 v3 v4 v5 v6 v7 v8 v9 v10 v11:Value):
  ∃ U,U=((((((((((((u.setCell ⟨B,0,none⟩ v0).setCell ⟨B,1,none⟩ v1).setCell ⟨B,2,none⟩ v2).setCell ⟨B,3,none⟩ v3).setCell ⟨B,4,none⟩ v4).setCell ⟨B,5,none⟩ v5).setCell ⟨B,6,none⟩ v6).setCell ⟨B,7,none⟩ v7).setCell ⟨B,8,none⟩ v8).setCell ⟨B,9,none⟩ v9).setCell ⟨B,10,none⟩ v10).setCell ⟨B,11,none⟩ v11)∧U.cell? ⟨B,0,none⟩=some v0∧U.cell? ⟨B,1,none⟩=some v1∧U.cell? ⟨B,2,none⟩=some v2∧U.cell? ⟨B,3,none⟩=some v3∧U.cell? ⟨B,4,none⟩=some v4∧U.cell? ⟨B,5,none⟩=some v5∧U.cell? ⟨B,6,none⟩=some v6∧U.cell? ⟨B,7,none⟩=some v7∧U.cell? ⟨B,8,none⟩=some v8∧U.cell? ⟨B,9,none⟩=some v9∧U.cell? ⟨B,10,none⟩=some v10∧U.cell? ⟨B,11,none⟩=some v11∧(∀ k,k≠B→U.heap[k]? = u.heap[k]?)∧(∀ B0 w0,B0≤B→Below B0 w0 u→Below B0 w0 U):=by
 have hr:=((((((((((((h.set 0 v0).set 1 v1).set 2 v2).set 3 v3).set 4 v4).set 5 v5).set 6 v6).set 7 v7).set 8 v8).set 9 v9).set 10 v10).set 11 v11)
 refine ⟨_,rfl,?_,?_,?_,?_,?_,?_,?_,?_,?_,?_,?_,?_,?_,?_⟩
 iterate 12 (rw [hr.cell (by omega)];simp)
 ·intro k hk
  iterate 12 rw [Below.heap_setCell _ _ _ _ hk]
 ·intro B0 w0 hB hb
  exact ((((((((((((hb.setCell (show B0≤(⟨B,0,none⟩:Addr).block from hB) v0).setCell (show B0≤(⟨B,1,none⟩:Addr).block from hB) v1).setCell (show B0≤(⟨B,2,none⟩:Addr).block from hB) v2).setCell (show B0≤(⟨B,3,none⟩:Addr).block from hB) v3).setCell (show B0≤(⟨B,4,none⟩:Addr).block from hB) v4).setCell (show B0≤(⟨B,5,none⟩:Addr).block from hB) v5).setCell (show B0≤(⟨B,6,none⟩:Addr).block from hB) v6).setCell (show B0≤(⟨B,7,none⟩:Addr).block from hB) v7).setCell (show B0≤(⟨B,8,none⟩:Addr).block from hB) v8).setCell (show B0≤(⟨B,9,none⟩:Addr).block from hB) v9).setCell (show B0≤(⟨B,10,none⟩:Addr).block from hB) v10).setCell (show B0≤(⟨B,11,none⟩:Addr).block from hB) v11)
theorem claimOf_any (d:RAddr)(r:MRoute)(w:World)(hl:Hid (RListsAt w d r))(hs:Hid (ShortN r))(hwf:Hid (WfR r)):
  Calls Tryz.prog 121 #[routeV d r] w fun e w' => ∃ dc,e = .returned (claimV dc (claimF r))∧Hid (ClaimOwn w w' dc (claimF r))∧Hid (dc.pa=d.a3∧dc.oa=d.a4∧dc.xa=d.a2)∧Below w.heap.size w w':=by
 obtain ⟨a0,c0,a1,c1,a2,c2,a3,c3,a4,c4,a5,c5⟩:=d
 unfold routeV
 dsimp only
 go_enter Tryz.func121,Tryz.ntmps121
 go_wp2_with fail
 generalize hW:(w.alloc _).alloc _=W
 have HA:Hid (RouteCell W w.heap.size 0 ⟨a0,c0,a1,c1,a2,c2,a3,c3,a4,c4,a5,c5⟩ r):=by rw [← hW];exact (routeCell_box w ⟨a0,c0,a1,c1,a2,c2,a3,c3,a4,c4,a5,c5⟩ r _).below blo
 have HR:Hid (∃ f,W.rowIs (w.heap.size+1) 234 12 f):=by rw [← hW];exact ⟨_,row_of_alloc1 rfl _ _⟩
 have hbW:Below w.heap.size w W:=by rw [← hW];exact blo
 have hz:w.heap.size+1<W.heap.size:=by rw [← hW];simp
 have hz':w.heap.size<W.heap.size:=by omega
 have HL:=hidP (hl.out.below hbW)
 have HL0:=hl
 clear hW hl
 obtain ⟨f,hf⟩:=HR.out
 have HF:=hidP hf
 clear hf HR
 have z0:W.cell? ⟨w.heap.size,0,none⟩=some (.int .i64 r.start):=HA.out.k0
 have z1:W.cell? ⟨w.heap.size,1,none⟩=some (.int .i64 r.stop):=HA.out.k1
 have z2:W.cell? ⟨w.heap.size,2,none⟩=some (.slice a0 r.steps.length c0):=HA.out.k2
 have z3:W.cell? ⟨w.heap.size,3,none⟩=some (.slice a1 r.lies.length c1):=HA.out.k3
 have z4:W.cell? ⟨w.heap.size,4,none⟩=some (.slice a2 r.crosses.length c2):=HA.out.k4
 have z5:W.cell? ⟨w.heap.size,5,none⟩=some (.slice a3 r.parts.length c3):=HA.out.k5
 have z6:W.cell? ⟨w.heap.size,6,none⟩=some (.slice a4 r.over.length c4):=HA.out.k6
 have z7:W.cell? ⟨w.heap.size,7,none⟩=some (.slice a5 r.flanks.length c5):=HA.out.k7
 clear HA
 go_region_held3 (fun w'=>w'.cell? ⟨w.heap.size,0,none⟩=some (.int .i64 r.start)∧w'.cell? ⟨w.heap.size,1,none⟩=some (.int .i64 r.stop)∧w'.cell? ⟨w.heap.size,2,none⟩=some (.slice a0 r.steps.length c0)∧w'.cell? ⟨w.heap.size,3,none⟩=some (.slice a1 r.lies.length c1)∧w'.cell? ⟨w.heap.size,4,none⟩=some (.slice a2 r.crosses.length c2)∧w'.cell? ⟨w.heap.size,5,none⟩=some (.slice a3 r.parts.length c3)∧w'.cell? ⟨w.heap.size,6,none⟩=some (.slice a4 r.over.length c4)∧w'.cell? ⟨w.heap.size,7,none⟩=some (.slice a5 r.flanks.length c5)) (first | go_keep | (refine ⟨?_,?_,?_,?_,?_,?_,?_,?_⟩ <;> assumption))
  (first
   | (go_at_call_of 146 (r.parts);refine (keyedByP_any a3 c3 r.parts W.drew (HL.out.below (Below.refl _ _).drew).parts).mono ?_;rintro e w1 ⟨rfl,hb1'⟩;unfold keyedV;generalize hsp:keysF (r.parts.map MPart.piece)=sp;have HSP:=hidP hsp;have hb1:Below W.heap.size W w1:=(Below.refl _ _).drew.trans hb1';replace z0:=cell_later hb1 z0;replace z1:=cell_later hb1 z1;replace z2:=cell_later hb1 z2;replace z3:=cell_later hb1 z3;replace z4:=cell_later hb1 z4;replace z5:=cell_later hb1 z5;replace z6:=cell_later hb1 z6;replace z7:=cell_later hb1 z7;clear hb1' hsp)
   | (go_at_call_of 146 (r.over);refine (keyedByP_any a4 c4 r.over w1 (HL.out.below hb1).over).mono ?_;rintro e w2 ⟨rfl,hb2'⟩;unfold keyedV;generalize hso:keysF (r.over.map MPart.piece)=so;have HSO:=hidP hso;have hb2:=hb1.trans (hb2'.mono hb1.size);replace z0:=cell_later hb2' z0;replace z1:=cell_later hb2' z1;replace z2:=cell_later hb2' z2;replace z3:=cell_later hb2' z3;replace z4:=cell_later hb2' z4;replace z5:=cell_later hb2' z5;replace z6:=cell_later hb2' z6;replace z7:=cell_later hb2' z7;clear hb2' hso)
   | (go_at_call 148;refine (keyedByN_any a2 c2 r.crosses w2 (HL.out.below hb2).crosses).mono ?_;rintro e w3 ⟨rfl,hb3'⟩;unfold keyedV;generalize hsx:keysF (r.crosses.map id)=sx;have HSX:=hidP hsx;have hb3:=hb2.trans (hb3'.mono hb2.size);replace z0:=cell_later hb3' z0;replace z1:=cell_later hb3' z1;replace z2:=cell_later hb3' z2;replace z3:=cell_later hb3' z3;replace z4:=cell_later hb3' z4;replace z5:=cell_later hb3' z5;replace z6:=cell_later hb3' z6;replace z7:=cell_later hb3' z7;clear hb3' hsx)
   | (go_at_call 151;refine (implNeeds_any ⟨a0,c0,a1,c1,a2,c2,a3,c3,a4,c4,a5,c5⟩ r w3 (HL.out.below hb3).lies (HL.out.below hb3).flanks hs.out.lies hs.out.flanks hwf (HL.out.below hb3).nil1).mono ?_;rintro e w4 ⟨x,y,rfl,ho4,hb4'⟩;generalize hnn:needsF r.lies r.flanks=nn at ho4 ⊢;have HNN:=hidP hnn;have hb4:=hb3.trans (hb4'.mono hb3.size);replace z0:=cell_later hb4' z0;replace z1:=cell_later hb4' z1;replace z2:=cell_later hb4' z2;replace z3:=cell_later hb4' z3;replace z4:=cell_later hb4' z4;replace z5:=cell_later hb4' z5;replace z6:=cell_later hb4' z6;replace z7:=cell_later hb4' z7;obtain ⟨xa,ya,hxy,he,_,_⟩:=ownE ho4 (by have h1:=needs_len r.flanks r.lies;have h2:=hs.out.lies;have h3:=hs.out.flanks;rw [← hnn];unfold needsF maxLen;omega);cases hxy;have HE4:=hidP he;have HXB:Hid (∀ b,(Value.slice x nn.length y).ownBlock=some b→w.heap.size+1<b):=(fun b e=>by have h1:=(ho4.lt b e).1;have h2:=hb3.size;omega);have HO4:=hidP ho4;have HSh:Hid (nn.length≤maxLen):=(by have h1:=needs_len r.flanks r.lies;have h2:=hs.out.lies;have h3:=hs.out.flanks;unfold Hid;rw [← hnn];unfold needsF maxLen;omega);clear he hb4' ho4 hnn)
   | (go_at_call 150;refine (keyedByL_any x y nn w4 HE4).mono ?_;rintro e w5 ⟨rfl,hb5'⟩;unfold keyedV;generalize hsn:keysF (nn.map MEnd.piece)=sn;have HSN:=hidP hsn;have hb5:=hb4.trans (hb5'.mono hb4.size);have HO5:=hidP (owns_below HO4.out hb5');replace z0:=cell_later hb5' z0;replace z1:=cell_later hb5' z1;replace z2:=cell_later hb5' z2;replace z3:=cell_later hb5' z3;replace z4:=cell_later hb5' z4;replace z5:=cell_later hb5' z5;replace z6:=cell_later hb5' z6;replace z7:=cell_later hb5' z7;have hf5:=HF.out.of_block (hb5.block _ hz);have g0:=hf5.cell (i:=0) (by omega);have fz0:=hf5.frozen 0;have g1:=hf5.cell (i:=1) (by omega);have fz1:=hf5.frozen 1;have g2:=hf5.cell (i:=2) (by omega);have fz2:=hf5.frozen 2;have g3:=hf5.cell (i:=3) (by omega);have fz3:=hf5.frozen 3;have g4:=hf5.cell (i:=4) (by omega);have fz4:=hf5.frozen 4;have g5:=hf5.cell (i:=5) (by omega);have fz5:=hf5.frozen 5;have g6:=hf5.cell (i:=6) (by omega);have fz6:=hf5.frozen 6;have g7:=hf5.cell (i:=7) (by omega);have fz7:=hf5.frozen 7;have g8:=hf5.cell (i:=8) (by omega);have fz8:=hf5.frozen 8;have g9:=hf5.cell (i:=9) (by omega);have fz9:=hf5.frozen 9;have g10:=hf5.cell (i:=10) (by omega);have fz10:=hf5.frozen 10;have g11:=hf5.cell (i:=11) (by omega);have fz11:=hf5.frozen 11;have hz5:w.heap.size+1<w5.heap.size:=Nat.lt_of_lt_of_le hz hb5.size;have HF5:=hidP hf5;clear hb5' hf5 hsn))
 all_goals
  clear z0 z1 z2 z3 z4 z5 z6 z7
  have hbF:=hbW.trans (hb5.mono hbW.size)
  go_wp2_with fail
  obtain ⟨U,hU,k0,k1,k2,k3,k4,k5,k6,k7,k8,k9,k10,k11,hblk,hbel⟩:=store12 HF5.out (.slice a3 r.parts.length c3) (.int .u64 sp.a) (.int .u64 sp.b) (.slice a4 r.over.length c4) (.int .u64 so.a) (.int .u64 so.b) (.slice a2 r.crosses.length c2) (.int .u64 sx.a) (.int .u64 sx.b) (.slice x nn.length y) (.int .u64 sn.a) (.int .u64 sn.b)
  rw [← hU]
  have hbU:=hbel _ _ (Nat.le_succ _) hbF
  clear hU hbel g0 g1 g2 g3 g4 g5 g6 g7 g8 g9 g10 g11
  refine bodyPost_ret (v:=claimV ⟨a3,c3,sp,a4,c4,so,a2,c2,sx,x,y,sn⟩ ⟨r.parts,r.over,r.crosses,nn⟩) (by unfold claimV;simp [results,Tryz.results121,go_sem,k0,k1,k2,k3,k4,k5,k6,k7,k8,k9,k10,k11]) rfl ⟨⟨a3,c3,sp,a4,c4,so,a2,c2,sx,x,y,sn⟩,?_,?_,⟨rfl,rfl,rfl⟩,hbU⟩
  ·unfold claimF;rw [HNN.out]
  ·unfold claimF
   rw [HNN.out]
   exact ⟨HL0.out.parts,HL0.out.over,HL0.out.crosses,⟨_,owns_keptC HO5.out (fun b e=>hblk b (by have h:=HXB.out b e;omega))⟩,HSh.out,HSP.out.symm,HSO.out.symm,HSX.out.symm,HSN.out.symm⟩
end Go.Proofs.YtmkdgnmmebldgaaGreatDoor
