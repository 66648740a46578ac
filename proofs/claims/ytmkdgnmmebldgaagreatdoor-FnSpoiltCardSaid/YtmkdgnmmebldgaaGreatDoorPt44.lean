import Derived.Test.YtmkdgnmmebldgaaGreatDoorPt53
import Derived.Test.YtmkdgnmmebldgaaGreatDoorPt42
set_option maxRecDepth 100000
set_option maxHeartbeats 8000000
namespace Go.Proofs.YtmkdgnmmebldgaaGreatDoor
open Go.RowKit Go.Extern.Stop Go.Stop Go.Extern
theorem unwrap_any (x y:Value)(w:World):Calls Tryz.prog 210 #[.agg #[x,y]] w fun e w'=>e = .returned y∧Below w.heap.size w w':=by
 go_enter Tryz.func210,Tryz.ntmps210
 go_wp2_with fail
 go_ret
 exact ⟨rfl,blo⟩
theorem Tryz.noAsA (v:Value)(xT:TypeId)(w:World):(Instr.typeAssert (.iface 100 v) xT 245 true).run Tryz.prog w = .ok (.tuple #[.nilIface,.bool false]) w:=run_typeAssert_lacksB Tryz.underlying245 (by kernel_rfl) (by kernel_rfl) v xT w
theorem Tryz.hasUnA (v:Value)(xT:TypeId)(w:World):(Instr.typeAssert (.iface 100 v) xT 248 true).run Tryz.prog w = .ok (.tuple #[.iface 100 v,.bool true]) w:=run_typeAssert_hasB Tryz.underlying248 (by kernel_rfl) v xT w
theorem Tryz.methodUnwrap (v : Value) (w : World) : (Go.method 448 100 v "Unwrap").run Tryz.prog w = .ok (210, v) w := by kernel_rfl
theorem asInB_none (x:Value)(tg V:Nat)(w:World):
  Calls Tryz.prog 92 #[.iface 100 (.agg #[x,.nilIface]),.iface 105 (.pointer (some ⟨tg,0,none⟩)),.agg #[.pointer (some ⟨4,105,none⟩),.pointer (some ⟨V,0,none⟩),.int .u64 150],.iface 240 (.agg #[.pointer (some ⟨4,104,none⟩)])] w fun e w'=>e = .returned (.bool false)∧Below w.heap.size w w':=by
 have q7 := @run_callFunc_extern Tryz.prog 124 _ ReflectliteType.typeOf Tryz.func124 (by kernel_rfl) (by kernel_rfl) (by kernel_rfl) (by kernel_rfl)
 have q8 := @run_callFunc_extern Tryz.prog 225 _ (ReflectliteType.relation "AssignableTo" ReflectliteType.assignableTo) Tryz.func225 (by kernel_rfl) (by kernel_rfl) (by kernel_rfl) (by kernel_rfl)
 have tO:=Tryz.typeOfAE
 have mA:=Tryz.methodAssignableTo
 have aE:=Tryz.assignableAB
 have nA:=Tryz.noAsA
 have hU:=Tryz.hasUnA
 have mU:=Tryz.methodUnwrap
 go_enter Tryz.func92,Tryz.ntmps92
 go_wp2_with fail
 refine wp_loop_rounds 1 ?_
 rw [rounds_succ]
 go_wp2_with (go_at_call 210;refine (unwrap_any _ _ _).mono ?_;rintro e w2 ⟨rfl,hb2⟩)
 go_ret
 exact ⟨rfl,((Below.refl _ _).alloc (Nat.le_refl _) _).trans (hb2.mono (by simp))⟩
theorem asInB (x a b o0 o1:Value)(tg V:Nat)(w:World)(ha:a.oneCell'=true)(hb:b.oneCell'=true)(hv:w.cell? ⟨V,0,none⟩=some (.pointer (some ⟨tg,0,none⟩)))(h0:w.cell? ⟨tg,0,none⟩=some o0)(h1:w.cell? ⟨tg,1,none⟩=some o1)(f0:w.frozen? ⟨tg,0,none⟩=false)(f1:w.frozen? ⟨tg,1,none⟩=false):
  Calls Tryz.prog 92 #[.iface 100 (.agg #[x,.iface 104 (.agg #[a,b])]),.iface 105 (.pointer (some ⟨tg,0,none⟩)),.agg #[.pointer (some ⟨4,105,none⟩),.pointer (some ⟨V,0,none⟩),.int .u64 150],.iface 240 (.agg #[.pointer (some ⟨4,104,none⟩)])] w fun e w'=>e = .returned (.bool true)∧w'.cell? ⟨tg,0,none⟩=some a∧w'.cell? ⟨tg,1,none⟩=some b∧Only (fun k=>k=tg) w w':=by
 have q1 := @run_callFunc_extern Tryz.prog 89 _ (fun args=>ReflectliteValue.unpack (args.getD 0 (.tuple #[]))) Tryz.func89 (by kernel_rfl) (by kernel_rfl) (by kernel_rfl) (by kernel_rfl)
 have q7 := @run_callFunc_extern Tryz.prog 124 _ ReflectliteType.typeOf Tryz.func124 (by kernel_rfl) (by kernel_rfl) (by kernel_rfl) (by kernel_rfl)
 have q8 := @run_callFunc_extern Tryz.prog 225 _ (ReflectliteType.relation "AssignableTo" ReflectliteType.assignableTo) Tryz.func225 (by kernel_rfl) (by kernel_rfl) (by kernel_rfl) (by kernel_rfl)
 have q9 := @run_callFunc_extern Tryz.prog 125 _ (ReflectliteValue.method (ReflectliteValue.valueError "reflectlite.Value.Elem" 0) ReflectliteValue.elem) Tryz.func125 (by kernel_rfl) (by kernel_rfl) (by kernel_rfl) (by kernel_rfl)
 have q10 := @run_callFunc_extern Tryz.prog 126 _ ReflectliteValue.set Tryz.func126 (by kernel_rfl) (by kernel_rfl) (by kernel_rfl) (by kernel_rfl)
 have tO:=Tryz.typeOfAE
 have tO2:=Tryz.typeOfBE
 have mA:=Tryz.methodAssignableTo
 have aE:=Tryz.assignableAB
 have aE2:=Tryz.assignableBE
 have nA:=Tryz.noAsA
 have hU:=Tryz.hasUnA
 have mU:=Tryz.methodUnwrap
 have vE:=Tryz.valueOfBE
 have hvl:=cellLt hv
 have htl:=cellLt h0
 dsimp only at hvl htl
 go_enter Tryz.func92,Tryz.ntmps92
 go_wp2_with fail
 generalize hW1:World.alloc w _=W1
 have hb1:Below w.heap.size w W1:=by rw [← hW1];exact blo
 have v0:W1.cell? ⟨w.heap.size,0,none⟩=some (.pointer (some ⟨4,105,none⟩)):=by rw [← hW1];simp [go_sem]
 have v1:W1.cell? ⟨w.heap.size,1,none⟩=some (.pointer (some ⟨V,0,none⟩)):=by rw [← hW1];simp [go_sem]
 have v2:W1.cell? ⟨w.heap.size,2,none⟩=some (.int .u64 150):=by rw [← hW1];simp [go_sem]
 have HB1:=hidP hb1
 have hz1:=hb1.size
 clear hW1 hb1
 refine wp_loop_rounds 2 ?_
 rw [rounds_succ]
 go_wp2_with (go_at_call 210;refine (unwrap_any _ _ _).mono ?_;rintro e w2 ⟨rfl,hb2⟩;replace v0:=cell_later hb2 v0;replace v1:=cell_later hb2 v1;replace v2:=cell_later hb2 v2;have HB2:=hidP (HB1.out.trans (hb2.mono hz1));clear hb2)
 have hz2:=HB2.out.size
 have el:=Tryz.elemVBP ⟨V,0,none⟩ ⟨tg,0,none⟩ w2 (cell_later HB2.out hv)
 have st:=Tryz.setB tg w2.heap.size a b o0 o1 (w2.alloc (.cells #[a,b] 104)) ha hb (by simp [go_sem]) (by simp [go_sem]) (cell_later ((Below.refl _ _).alloc (Nat.le_refl _) _) (cell_later HB2.out h0)) (cell_later ((Below.refl _ _).alloc (Nat.le_refl _) _) (cell_later HB2.out h1)) (by rw [World.frozen?_alloc_old _ _ ⟨tg,0,none⟩ (by show tg≠_;omega)];exact (HB2.out.frozen (p:=⟨tg,0,none⟩) htl).trans f0) (by rw [World.frozen?_alloc_old _ _ ⟨tg,1,none⟩ (by show tg≠_;omega)];exact (HB2.out.frozen (p:=⟨tg,1,none⟩) htl).trans f1)
 rw [rounds_succ]
 go_wp2_with fail
 go_ret
 refine ⟨rfl,?_,?_,(Only.setCell (S:=fun k=>k=tg) ((Only.of_below HB2.out).alloc _) (p:=⟨tg,0,none⟩) (Or.inl rfl) _).setCell (p:=⟨tg,1,none⟩) (Or.inl rfl) _⟩
 ·rw [World.cell?_setCell_other _ _ _ _ (by simp)]
  exact World.cell?_setCell_same _ _ _ (cell_later ((Below.refl _ _).alloc (Nat.le_refl _) _) (cell_later HB2.out h0))
 ·exact World.cell?_setCell_same _ _ _ ((World.cell?_setCell_other _ _ _ _ (by simp)).trans (cell_later ((Below.refl _ _).alloc (Nat.le_refl _) _) (cell_later HB2.out h1)))
theorem asB_hit (x a b o0 o1:Value)(tg:Nat)(w:World)(ha:a.oneCell'=true)(hb:b.oneCell'=true)(hg:w.cell? ⟨0,0,none⟩=some (.iface 240 (.agg #[.pointer (some ⟨4,97,none⟩)])))(h0:w.cell? ⟨tg,0,none⟩=some o0)(h1:w.cell? ⟨tg,1,none⟩=some o1)(f0:w.frozen? ⟨tg,0,none⟩=false)(f1:w.frozen? ⟨tg,1,none⟩=false):
  Calls Tryz.prog 42 #[.iface 100 (.agg #[x,.iface 104 (.agg #[a,b])]),.iface 105 (.pointer (some ⟨tg,0,none⟩))] w fun e w'=>e = .returned (.bool true)∧w'.cell? ⟨tg,0,none⟩=some a∧w'.cell? ⟨tg,1,none⟩=some b∧Only (fun k=>k=tg) w w':=by
 have q1 := @run_callFunc_extern Tryz.prog 89 _ (fun args=>ReflectliteValue.unpack (args.getD 0 (.tuple #[]))) Tryz.func89 (by kernel_rfl) (by kernel_rfl) (by kernel_rfl) (by kernel_rfl)
 have q2 := @run_callFunc_extern Tryz.prog 90 _ (ReflectliteValue.methodAny (ReflectliteValue.valueError "reflectlite.Value.Type" 0) (fun t _ _ _ => ReflectliteType.toType t)) Tryz.func90 (by kernel_rfl) (by kernel_rfl) (by kernel_rfl) (by kernel_rfl)
 have q3 := @run_callFunc_extern Tryz.prog 91 _ (ReflectliteValue.method (ReflectliteValue.valueError "reflectlite.Value.IsNil" 0) ReflectliteValue.isNil) Tryz.func91 (by kernel_rfl) (by kernel_rfl) (by kernel_rfl) (by kernel_rfl)
 have q4 := @run_callFunc_extern Tryz.prog 206 _ (ReflectliteType.abiMethod fun t=>do pure (.int .u8 (← Rtype.kind t))) Tryz.func206 (by kernel_rfl) (by kernel_rfl) (by kernel_rfl) (by kernel_rfl)
 have q5 := @run_callFunc_extern Tryz.prog 227 _ (ReflectliteType.method ReflectliteType.elem) Tryz.func227 (by kernel_rfl) (by kernel_rfl) (by kernel_rfl) (by kernel_rfl)
 have q6 := @run_callFunc_extern Tryz.prog 228 _ (ReflectliteType.relation "Implements" ReflectliteType.implements_) Tryz.func228 (by kernel_rfl) (by kernel_rfl) (by kernel_rfl) (by kernel_rfl)
 have mK:=Tryz.methodKind
 have mE:=Tryz.methodElem
 have mI:=Tryz.methodImplements
 have v0:=Tryz.valueOfBP
 have t0:=Tryz.typeBP
 have kP:=Tryz.kindBP
 have kE:=Tryz.kindBE
 have eP:=Tryz.elemBP
 have iE:=Tryz.implementsBE
 have hlt:=cellLt hg
 have htl:=cellLt h0
 dsimp only at hlt htl
 obtain ⟨W2,hW2⟩:∃ W2,World.alloc (World.alloc w (.cells #[.pointer (some ⟨tg,0,none⟩)] 105)) (.cells #[.pointer (some ⟨4,105,none⟩),.pointer (some ⟨w.heap.size,0,none⟩),.int .u64 150] 163)=W2:=⟨_,rfl⟩
 have hb2:Below w.heap.size w W2:=by rw [← hW2];exact ((Below.refl _ _).alloc (Nat.le_refl _) _).alloc (by simp) _
 have hvc:W2.cell? ⟨w.heap.size,0,none⟩=some (.pointer (some ⟨tg,0,none⟩)):=by rw [← hW2];simp [go_sem]
 have n8:=Tryz.isNilBP ⟨w.heap.size,0,none⟩ ⟨tg,0,none⟩ W2 hvc
 have hg2:=cell_later hb2 hg
 have HAS:=hidP (asInB x a b o0 o1 tg w.heap.size W2 ha hb hvc (cell_later hb2 h0) (cell_later hb2 h1) ((hb2.frozen (p:=⟨tg,0,none⟩) htl).trans f0) ((hb2.frozen (p:=⟨tg,1,none⟩) htl).trans f1))
 have HB2:=hidP hb2
 rw [← hW2] at n8 hg2 HAS HB2
 clear hvc hb2 hW2
 clear W2
 go_enter Tryz.func42,Tryz.ntmps42
 go_wp2_with fail
 refine HAS.out.mono ?_
 clear HAS
 rintro e w3 ⟨rfl,c0,c1,ho⟩
 have HO:=hidP ho
 clear ho
 go_wp2_with fail
 go_ret
 exact ⟨rfl,c0,c1,(Only.of_below HB2.out).trans HO.out⟩
theorem asB_none (x o0:Value)(tg:Nat)(w:World)(hg:w.cell? ⟨0,0,none⟩=some (.iface 240 (.agg #[.pointer (some ⟨4,97,none⟩)])))(h0:w.cell? ⟨tg,0,none⟩=some o0):
  Calls Tryz.prog 42 #[.iface 100 (.agg #[x,.nilIface]),.iface 105 (.pointer (some ⟨tg,0,none⟩))] w fun e w'=>e = .returned (.bool false)∧Below w.heap.size w w':=by
 have q1 := @run_callFunc_extern Tryz.prog 89 _ (fun args=>ReflectliteValue.unpack (args.getD 0 (.tuple #[]))) Tryz.func89 (by kernel_rfl) (by kernel_rfl) (by kernel_rfl) (by kernel_rfl)
 have q2 := @run_callFunc_extern Tryz.prog 90 _ (ReflectliteValue.methodAny (ReflectliteValue.valueError "reflectlite.Value.Type" 0) (fun t _ _ _ => ReflectliteType.toType t)) Tryz.func90 (by kernel_rfl) (by kernel_rfl) (by kernel_rfl) (by kernel_rfl)
 have q3 := @run_callFunc_extern Tryz.prog 91 _ (ReflectliteValue.method (ReflectliteValue.valueError "reflectlite.Value.IsNil" 0) ReflectliteValue.isNil) Tryz.func91 (by kernel_rfl) (by kernel_rfl) (by kernel_rfl) (by kernel_rfl)
 have q4 := @run_callFunc_extern Tryz.prog 206 _ (ReflectliteType.abiMethod fun t=>do pure (.int .u8 (← Rtype.kind t))) Tryz.func206 (by kernel_rfl) (by kernel_rfl) (by kernel_rfl) (by kernel_rfl)
 have q5 := @run_callFunc_extern Tryz.prog 227 _ (ReflectliteType.method ReflectliteType.elem) Tryz.func227 (by kernel_rfl) (by kernel_rfl) (by kernel_rfl) (by kernel_rfl)
 have q6 := @run_callFunc_extern Tryz.prog 228 _ (ReflectliteType.relation "Implements" ReflectliteType.implements_) Tryz.func228 (by kernel_rfl) (by kernel_rfl) (by kernel_rfl) (by kernel_rfl)
 have mK:=Tryz.methodKind
 have mE:=Tryz.methodElem
 have mI:=Tryz.methodImplements
 have v0:=Tryz.valueOfBP
 have t0:=Tryz.typeBP
 have kP:=Tryz.kindBP
 have kE:=Tryz.kindBE
 have eP:=Tryz.elemBP
 have iE:=Tryz.implementsBE
 have hlt:=cellLt hg
 have htl:=cellLt h0
 dsimp only at hlt htl
 obtain ⟨W2,hW2⟩:∃ W2,World.alloc (World.alloc w (.cells #[.pointer (some ⟨tg,0,none⟩)] 105)) (.cells #[.pointer (some ⟨4,105,none⟩),.pointer (some ⟨w.heap.size,0,none⟩),.int .u64 150] 163)=W2:=⟨_,rfl⟩
 have hb2:Below w.heap.size w W2:=by rw [← hW2];exact ((Below.refl _ _).alloc (Nat.le_refl _) _).alloc (by simp) _
 have hvc:W2.cell? ⟨w.heap.size,0,none⟩=some (.pointer (some ⟨tg,0,none⟩)):=by rw [← hW2];simp [go_sem]
 have n8:=Tryz.isNilBP ⟨w.heap.size,0,none⟩ ⟨tg,0,none⟩ W2 hvc
 have hg2:=cell_later hb2 hg
 have HAS:=hidP (asInB_none x tg w.heap.size W2)
 have HB2:=hidP hb2
 rw [← hW2] at n8 hg2 HAS HB2
 clear hvc hb2 hW2
 clear W2
 go_enter Tryz.func42,Tryz.ntmps42
 go_wp2_with fail
 refine HAS.out.mono ?_
 clear HAS
 rintro e w3 ⟨rfl,ho⟩
 have HO:=hidP ho
 clear ho
 go_wp2_with fail
 go_ret
 exact ⟨rfl,HB2.out.trans (HO.out.mono HB2.out.size)⟩
end Go.Proofs.YtmkdgnmmebldgaaGreatDoor
namespace Go.Proofs.YtmkdgnmmebldgaaGreatDoor
open Go.RowKit Go.Deep
def placeV:Option (Int × Int)→Value
 | none=>.nilIface
 | some (a,b)=>.iface 104 (.agg #[.int .i64 a,.int .i64 b])
theorem errsV_n:errsV none = .nilIface:=rfl
theorem errsV_s (c:Int)(p:Option (Int × Int)):errsV (some (c,p)) = .iface 100 (.agg #[.int .i64 c,placeV p]):=by
 rcases p with _ | ⟨a,b⟩ <;> rfl
theorem placeV_one (p:Option (Int × Int)):(placeV p).oneCell'=true:=by
 rcases p with _ | ⟨a,b⟩ <;> rfl
theorem Only.frozen {S:Nat→Prop}{w w':World}(h:Only S w w'){p:Addr}(hl:p.block<w.heap.size)(hs:¬ S p.block):w'.frozen? p=w.frozen? p:=
 World.frozen?_of_block (w:=w) (h.block p.block hl hs)
theorem implCheck_of (pa ja sa ra ta:Option Addr)(pc jc sc rc tc np nj ns nr nt:Nat)(over:Int)(O:Option (Int × Option (Int × Int)))(w:World)(HCA:Hid (∀ u:World,Below w.heap.size w u→Calls Tryz.prog 41 #[.agg #[.slice pa np pc,.slice ja nj jc],.slice sa ns sc,.int .i64 over,.slice ra nr rc,.slice ta nt tc] u fun e w'=>e = .returned (errsV O)∧Below u.heap.size u w'))(hg:Hid (w.cell? ⟨0,0,none⟩=some (.iface 240 (.agg #[.pointer (some ⟨4,97,none⟩)])))):
  Calls Tryz.prog 12 #[.agg #[.slice pa np pc,.slice ja nj jc],.slice sa ns sc,.int .i64 over,.slice ra nr rc,.slice ta nt tc] w fun e w'=>e = .returned (wrongV O)∧Below w.heap.size w w':=by
 go_enter Tryz.func12,Tryz.ntmps12
 go_upto_region 1 with fail
 generalize hW:World.alloc (World.alloc w _) _=W
 have e0:W.cell? ⟨w.heap.size,0,none⟩=some (.slice pa np pc):=by rw [← hW];simp [go_sem]
 have e1:W.cell? ⟨w.heap.size,1,none⟩=some (.slice ja nj jc):=by rw [← hW];simp [go_sem]
 have r0:W.cell? ⟨w.heap.size+1,0,none⟩=some (.int .i64 0):=by rw [← hW];simp [go_sem]
 have r1:W.cell? ⟨w.heap.size+1,1,none⟩=some (.int .i64 0):=by rw [← hW];simp [go_sem]
 have r2:W.cell? ⟨w.heap.size+1,2,none⟩=some (.int .i64 0):=by rw [← hW];simp [go_sem]
 have z:∀ o,W.frozen? ⟨w.heap.size+1,o,none⟩=false:=by intro o;rw [← hW];simp [go_sem]
 have hbW:Below w.heap.size w W:=by rw [← hW];exact blo
 have hzW:w.heap.size+1<W.heap.size:=by rw [← hW];simp
 clear hW
 go_upto_region 2 with (go_at_call 41;refine (HCA.out _ hbW).mono ?_;rintro e w1 ⟨rfl,hb1⟩)
 clear HCA e0 e1
 have hbw1:=hbW.trans (hb1.mono hbW.size)
 have hz1:=hb1.size
 go_upto_region 4 with fail
 generalize hW2:World.alloc (World.alloc w1 _) _=W2
 have a0:W2.cell? ⟨w1.heap.size,0,none⟩=some (.int .i64 0):=by rw [← hW2];simp [go_sem]
 have a1:W2.cell? ⟨w1.heap.size,1,none⟩=some (.int .i64 0):=by rw [← hW2];simp [go_sem]
 have a2:W2.cell? ⟨w1.heap.size,2,none⟩=some (.int .i64 0):=by rw [← hW2];simp [go_sem]
 have p0:W2.cell? ⟨w1.heap.size+1,0,none⟩=some (.int .i64 0):=by rw [← hW2];simp [go_sem]
 have p1:W2.cell? ⟨w1.heap.size+1,1,none⟩=some .nilIface:=by rw [← hW2];simp [go_sem]
 have zA:∀ o,W2.frozen? ⟨w1.heap.size,o,none⟩=false:=by intro o;rw [← hW2];simp [go_sem]
 have zP:∀ o,W2.frozen? ⟨w1.heap.size+1,o,none⟩=false:=by intro o;rw [← hW2];simp [go_sem]
 have hb2:Below w1.heap.size w1 W2:=by rw [← hW2];exact blo
 have hz2:W2.heap.size=w1.heap.size+2:=by rw [← hW2];simp
 clear hW2
 have hbW2:Below W.heap.size W W2:=hb1.trans (hb2.mono hb1.size)
 have hbw2:Below w.heap.size w W2:=hbw1.trans (hb2.mono hbw1.size)
 replace r0:=cell_later hbW2 r0
 replace r1:=cell_later hbW2 r1
 replace r2:=cell_later hbW2 r2
 replace z:∀ o,W2.frozen? ⟨w.heap.size+1,o,none⟩=false:=fun o=>(hbW2.frozen (p:=⟨w.heap.size+1,o,none⟩) hzW).trans (z o)
 have g2:=cell_later hbw2 hg.out
 obtain ⟨A,hA⟩:∃ A,w1.heap.size=A:=⟨_,rfl⟩
 obtain ⟨R,hR⟩:∃ R,w.heap.size+1=R:=⟨_,rfl⟩
 have HRw:Hid (w.heap.size+1=R):=hR
 rw [hA] at a0 a1 a2 p0 p1 zA zP hz2 hz1 ⊢
 rw [hR] at r0 r1 r2 z hzW ⊢
 obtain ⟨P,hP⟩:∃ P,A+1=P:=⟨_,rfl⟩
 rw [hP] at p0 p1 zP ⊢
 clear hb1 hb2 hbW hbw1 hbW2 hg
 have hRA:R<A:=by omega
 have hne1:R≠A:=by omega
 have hne2:R≠P:=by omega
 have hne3:A≠P:=by omega
 have hPz:P<W2.heap.size:=by omega
 have hAz:A<W2.heap.size:=by omega
 have hRz:R<W2.heap.size:=by omega
 have zR0:=z 0
 have zR1:=z 1
 have zR2:=z 2
 have HB2:=hidP hbw2
 have hwz:w.heap.size≤R:=by omega
 clear hA hR hbw2 hz2
 rcases O with _ | ⟨c,p⟩
 ·rw [errsV_n]
  go_wp2_with (go_at_call 42;refine (as_none _ _).mono ?_;rintro e w3 ⟨rfl,rfl⟩)
  have hbx:=HB2.out
  exact bodyPost_ret (v:=.agg #[.int .i64 0,.int .i64 0,.int .i64 0]) (by simp [results,Tryz.results12,go_sem,r0,r1,r2,hRz]) rfl ⟨rfl,blo⟩
 rw [errsV_s]
 go_upto_region 5 with (go_at_call 42;refine (asA_hit (.int .i64 c) (placeV p) (.int .i64 0) .nilIface P W2 rfl (placeV_one p) g2 p0 p1 (zP 0) (zP 1)).mono ?_;rintro e w3 ⟨rfl,q0,q1,hO3⟩)
 replace a0:=hO3.cell a0 (by exact hne3)
 replace a1:=hO3.cell a1 (by exact hne3)
 replace a2:=hO3.cell a2 (by exact hne3)
 replace r0:=hO3.cell r0 (by exact hne2)
 replace r1:=hO3.cell r1 (by exact hne2)
 replace r2:=hO3.cell r2 (by exact hne2)
 replace g2:=hO3.cell g2 (by show ¬ (0=P);omega)
 have zA3:∀ o,w3.frozen? ⟨A,o,none⟩=false:=fun o=>(hO3.frozen (p:=⟨A,o,none⟩) hAz hne3).trans (zA o)
 have zR3:∀ o,w3.frozen? ⟨R,o,none⟩=false:=fun o=>(hO3.frozen (p:=⟨R,o,none⟩) hRz hne2).trans (z o)
 have hz3:=hO3.size
 have HB3:Hid (Below w.heap.size w w3):=HB2.out.trans (hO3.below HB2.out.size (fun k hk e=>by omega))
 clear hO3 zA zP z p0 p1 zR0 zR1 zR2 HB2
 have zA0:=zA3 0
 go_upto_region 7 with fail
 have hz3R:R<w3.heap.size:=by omega
 have hz3A:A<w3.heap.size:=by omega
 have hz30:0<w3.heap.size:=cellLt g2
 have h0A:0≠A:=by omega
 have hA0:A≠0:=by omega
 generalize hW4:World.alloc (World.setCell w3 _ _) _=W4
 have b0:W4.cell? ⟨A,0,none⟩=some (.int .i64 c):=by rw [← hW4];simp [go_sem,a0,hz3A]
 have b1:W4.cell? ⟨A,1,none⟩=some (.int .i64 0):=by rw [← hW4];simp [go_sem,a1,hz3A]
 have b2:W4.cell? ⟨A,2,none⟩=some (.int .i64 0):=by rw [← hW4];simp [go_sem,a2,hz3A]
 have s0:W4.cell? ⟨R,0,none⟩=some (.int .i64 0):=by rw [← hW4];simp [go_sem,r0,hz3R]
 have s1:W4.cell? ⟨R,1,none⟩=some (.int .i64 0):=by rw [← hW4];simp [go_sem,r1,hz3R]
 have s2:W4.cell? ⟨R,2,none⟩=some (.int .i64 0):=by rw [← hW4];simp [go_sem,r2,hz3R]
 have d0:W4.cell? ⟨w3.heap.size,0,none⟩=some (.int .i64 0):=by rw [← hW4];simp [go_sem]
 have d1:W4.cell? ⟨w3.heap.size,1,none⟩=some (.int .i64 0):=by rw [← hW4];simp [go_sem]
 have g4:W4.cell? ⟨0,0,none⟩=some (.iface 240 (.agg #[.pointer (some ⟨4,97,none⟩)])):=by rw [← hW4];simp [go_sem,g2,hz30]
 have zA4:∀ o,W4.frozen? ⟨A,o,none⟩=false:=by intro o;rw [← hW4];simp [go_sem,zA3,hz3A]
 have zR4:∀ o,W4.frozen? ⟨R,o,none⟩=false:=by intro o;rw [← hW4];simp [go_sem,zR3,hz3R]
 have zD:∀ o,W4.frozen? ⟨w3.heap.size,o,none⟩=false:=by intro o;rw [← hW4];simp [go_sem]
 have HB4:Hid (Below w.heap.size w W4):=by rw [← hW4];exact (HB3.out.setCell (by simp only;omega) _).alloc (by simpa using HB3.out.size) _
 have hz4:w3.heap.size<W4.heap.size:=by rw [← hW4];simp
 clear hW4 zA0 zA3 zR3 a0 a1 a2 r0 r1 r2 g2 q0 q1
 generalize w3.heap.size=D at *
 have hRD:R≠D:=by omega
 have hAD:A≠D:=by omega
 have hR4:R<W4.heap.size:=by omega
 have hA4:A<W4.heap.size:=by omega
 rcases p with _ | ⟨a,b⟩
 ·have hpv:placeV none = .nilIface:=rfl
  rw [hpv]
  clear hpv
  go_upto_region 9 with (go_at_call 42;refine (asB_none (.int .i64 c) (.int .i64 0) D W4 g4 d0).mono ?_;rintro e w5 ⟨rfl,hb5⟩)
  replace b0:=cell_later hb5 b0
  replace b1:=cell_later hb5 b1
  replace b2:=cell_later hb5 b2
  replace s0:=cell_later hb5 s0
  replace s1:=cell_later hb5 s1
  replace s2:=cell_later hb5 s2
  have zR0:=(hb5.frozen (p:=⟨R,0,none⟩) hR4).trans (zR4 0)
  have zR1:=(hb5.frozen (p:=⟨R,1,none⟩) hR4).trans (zR4 1)
  have zR2:=(hb5.frozen (p:=⟨R,2,none⟩) hR4).trans (zR4 2)
  have hbx:=HB4.out.trans (hb5.mono HB4.out.size)
  clear hb5 zA4 zR4 zD
  go_wp2_with fail
  exact bodyPost_ret (v:=.agg #[.int .i64 c,.int .i64 0,.int .i64 0]) (by simp [results,Tryz.results12,go_sem,s0,s1,s2]) rfl ⟨rfl,blo⟩
 ·have hpv:placeV (some (a,b)) = .iface 104 (.agg #[.int .i64 a,.int .i64 b]):=rfl
  rw [hpv]
  clear hpv
  go_upto_region 8 with (go_at_call 42;refine (asB_hit (.int .i64 c) (.int .i64 a) (.int .i64 b) (.int .i64 0) (.int .i64 0) D W4 rfl rfl g4 d0 d1 (zD 0) (zD 1)).mono ?_;rintro e w5 ⟨rfl,q0,q1,hO5⟩)
  replace b0:=hO5.cell b0 hAD
  replace b1:=hO5.cell b1 hAD
  replace b2:=hO5.cell b2 hAD
  replace s0:=hO5.cell s0 hRD
  replace s1:=hO5.cell s1 hRD
  replace s2:=hO5.cell s2 hRD
  have zA1:=(hO5.frozen (p:=⟨A,1,none⟩) hA4 hAD).trans (zA4 1)
  have zA2:=(hO5.frozen (p:=⟨A,2,none⟩) hA4 hAD).trans (zA4 2)
  have zR0:=(hO5.frozen (p:=⟨R,0,none⟩) hR4 hRD).trans (zR4 0)
  have zR1:=(hO5.frozen (p:=⟨R,1,none⟩) hR4 hRD).trans (zR4 1)
  have zR2:=(hO5.frozen (p:=⟨R,2,none⟩) hR4 hRD).trans (zR4 2)
  have hbx:Below w.heap.size w w5:=HB4.out.trans (hO5.below HB4.out.size (fun k hk e=>by omega))
  have hwA:w.heap.size≤A:=by omega
  have h5R:R<w5.heap.size:=Nat.lt_of_lt_of_le hR4 hO5.size
  have h5A:A<w5.heap.size:=Nat.lt_of_lt_of_le hA4 hO5.size
  clear hO5 zA4 zR4 zD d0 d1 g4
  go_region
  all_goals
   go_wp2_with fail
   exact bodyPost_ret (v:=.agg #[.int .i64 c,.int .i64 a,.int .i64 b]) (by simp [results,Tryz.results12,go_sem,s0,s1,s2]) rfl ⟨rfl,blo⟩
end Go.Proofs.YtmkdgnmmebldgaaGreatDoor
