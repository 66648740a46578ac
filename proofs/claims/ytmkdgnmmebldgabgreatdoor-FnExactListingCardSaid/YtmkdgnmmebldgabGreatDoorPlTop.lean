import Derived.Test.YtmkdgnmmebldgabGreatDoorTie
import Derived.Test.YtmkdgnmmebldgabGreatDoorCards
import Derived.Test.YtmkdgnmmebldgabGreatDoorPl37
import Derived.Test.YtmkdgnmmebldgabGreatDoorPl40
import Derived.Test.YtmkdgnmmebldgabGreatDoorPl52
import Derived.Stop.LaidErr
import Derived.ChangeSame
import Derived.ChangeVars
import Derived.JoinedOf
import Derived.RowKitTokens
import Derived.LaidLaws
import Derived.LaidHandle
import Derived.Stop.Joined
set_option maxRecDepth 100000
set_option maxHeartbeats 8000000
namespace Go.Proofs.YtmkdgnmmebldgabGreatDoor
open Go.ChangeShapes Go.WideShapes Go.ChangeAt Go.RowKit Go.Deep
theorem Tryz.gPow : Tryz.prog.globalNamed "internal/strconv.uint64pow10" = some 1 := by kernel_rfl
theorem Tryz.gPowT:(Tryz.prog.globals[1]?).map (·.type)=some 361:=by kernel_rfl
theorem Tryz.cellsU64:Tryz.prog.cellsOf 215=1:=by kernel_rfl
theorem Tryz.cellsPow:Tryz.prog.cellsOf 361=20:=by kernel_rfl
theorem pow_laid:(Rows.laid_internal_strconv_uint64pow10:DataW Unit)=Lib.tabData .u64 Lib.pow10Tab:=by kernel_rfl
theorem tab_of_laid {W:World}(h:laidMetH Tryz.prog Rows.fnExactListingRow.laid W):TabU W:=by
 have h':laidMet Tryz.prog Rows.fnExactListingRow.laid W:=h
 have h2 : laidMet Tryz.prog [("internal/strconv.uint64pow10", Rows.laid_internal_strconv_uint64pow10)] W := h'.tail.tail
 rw [pow_laid] at h2
 exact Lib.tabIs_of_head Tryz.gPow Tryz.gPowT Tryz.underlying361 Tryz.underlying215 Tryz.cellsU64 Tryz.cellsPow h2
def tabCells:DataW Unit→Array Value
 | .agg l=>(l.map fun
  | .lit (.int k z)=>Value.int k z
  | _=>.nilIface).toArray
 | _=>#[]
def laidWorld (P : Program) (os : Os) : World :=
 let w0:=World.holding P os ⟨#[],#[],[]⟩
 let put:=fun (h:Array Obj) (g:Nat) (d:DataW Unit)=>h.modify g fun
   | .cells _ t frozen=>.cells (tabCells d) t frozen
   | o=>o
 { w0 with heap:=put (put (put w0.heap 1 Rows.laid_internal_strconv_uint64pow10) 2 Rows.laid_math_bits_deBruijn32tab) 3 Rows.laid_math_bits_deBruijn64tab }
theorem laidWorld_met (os:Os)(args:Array Value):laidMetH Tryz.prog Rows.fnExactListingRow.laid ((laidWorld Tryz.prog os).forCall (fun _ _=>0) ⟨#[],args,[]⟩).memory:=
 laidMetH_of_parts (laidMet_of_run' 100 (by kernel_rfl) (by kernel_rfl)) (by kernel_rfl)
theorem listing_lifted (os:Os)(started:os.Started)(H:Type)(enc:TypeId × Value→H):
  ReturnsInHanded {} Tryz.checked os 4 .any (fun w args=>(Rows.fnExactListingSpec.pre enc Tryz.prog Tryz.f4 [] false w args∧laidMetH Tryz.prog Rows.fnExactListingRow.laid w)∧sizedMet enc Tryz.prog Tryz.f4 (OpenSpec.ofChange Rows.fnExactListingSpec) false w args)
   (Rows.fnExactListingSpec.post enc Tryz.prog Tryz.f4 false true false false):=by
 refine returnsInHanded_of_change_and (C:=Tryz.checked) (X:=fun w _=>laidMetH Tryz.prog Rows.fnExactListingRow.laid w) (fun _ _ _ hh h=>h.of_heap hh) ownSig started (by kernel_rfl) Tryz.func4
  (ChangeSpec.witness_at (enc:=enc) (C:=Tryz.checked) (os:=os) (X:=fun w _=>laidMetH Tryz.prog Rows.fnExactListingRow.laid w) false (laidWorld Tryz.prog os) #[.agg #[.slice none 0 0,.slice none 0 0],.slice none 0 0,.slice none 0 0] 8 rfl (by kernel_rfl) (by kernel_rfl) (by kernel_rfl) (by kernel_rfl) (by kernel_rfl) (laidWorld_met os _)) ?_
 intro W base args ds gs before hval0 hW _ _ hL _
 have hval:∀ (j:Nat) t v,Tryz.f4.params[j]? = some t→args[j]? = some v→Value.okWide Tryz.prog W .any base t v:=hval0
 have hW':=hW
 obtain ⟨p,q,hA0,hV,rfl,hfz,hnd⟩:=hW
 have hA:DataW.TrodAll enc Tryz.prog W 0 (fun _=>true) true Tryz.f4.params.toList args.toList ds p:=hA0
 rw [Tryz.params4] at hA hval
 obtain ⟨v0,vs0,d0,ds0,p0,q0,hargs,rfl,rfl,h0,r0⟩:=trodAll_cons hA
 obtain ⟨v1,vs1,d1,ds1,p1,q1,rfl,rfl,rfl,h1,r1⟩:=trodAll_cons r0
 obtain ⟨v2,vs2,d2,ds2,p2,q2,rfl,rfl,rfl,h2,r2⟩:=trodAll_cons r1
 obtain ⟨rfl,rfl,rfl⟩:=trodAll_nil r2
 obtain rfl:args = #[v0,v1,v2]:=by cases args;simp_all
 obtain ⟨rfl,rfl⟩:=trodVars_none hV
 have k0:=h0
 have lt0:∀ x ∈ p0,x.block<W.heap.size:=by obtain ⟨m,hm⟩:=k0;exact DataW.trod_lt m _ _ _ hm
 have k1:=h1
 have lt1:∀ x ∈ p1,x.block<W.heap.size:=by obtain ⟨m,hm⟩:=k1;exact DataW.trod_lt m _ _ _ hm
 have k2:=h2
 have lt2:∀ x ∈ p2,x.block<W.heap.size:=by obtain ⟨m,hm⟩:=k2;exact DataW.trod_lt m _ _ _ hm
 obtain ⟨pa,pc,ps,ja,jc,js,hv0,hpp,hjj⟩:∃ (pa:Option Addr) (pc:Nat) (ps:List MPiece) (ja:Option Addr) (jc:Nat) (js:List MJoint),v0 = .agg #[.slice pa ps.length pc,.slice ja js.length jc]∧PiecesAt W pa ps∧JointsAt W ja js:=by
  obtain ⟨c0,c1,y0,y1,m,e0,_,_,t0,t1⟩:=Joins.open_agg2 Tryz.underlying25 (by kernel_rfl) cellsLNetSig (hval 0 25 v0 rfl rfl) h0
  obtain ⟨pa,pc,ps,f0,hpp⟩:=open_pieces t0
  obtain ⟨ja,jc,js,f1,hjj⟩:=open_joints t1
  simp at f0 f1
  subst f0 f1
  exact ⟨pa,pc,ps,ja,jc,js,e0,hpp,hjj⟩
 subst hv0
 obtain ⟨sa,sc,ss,hv1,hss⟩:∃ (sa:Option Addr) (sc:Nat) (ss:List MPiece),v1 = .slice sa ss.length sc∧PiecesAt W sa ss:=by
  obtain ⟨sa,len,sc,rfl⟩:=okWide_slice Tryz.underlying26 (hval 1 26 v1 rfl rfl)
  obtain ⟨fuel,hf⟩:=h1
  obtain ⟨a,cap,ss,e,hss⟩:=open_signals hf
  simp [Value.cells] at e
  obtain ⟨rfl,rfl,rfl⟩:=e
  exact ⟨_,_,ss,rfl,hss⟩
 subst hv1
 obtain ⟨ra,rc,rs,hv2,hrs⟩:∃ (ra:Option Addr) (rc:Nat) (rs:List MRoute),v2 = .slice ra rs.length rc∧RoutesAt W ra rs:=by
  obtain ⟨sa,len,sc,rfl⟩:=okWide_slice Tryz.underlying27 (hval 2 27 v2 rfl rfl)
  obtain ⟨fuel,hf⟩:=h2
  obtain ⟨a,cap,rs,e,hrs⟩:=openRoutesC hf
  simp [Value.cells] at e
  obtain ⟨rfl,rfl,rfl⟩:=e
  exact ⟨_,_,rs,rfl,hrs⟩
 subst hv2
 clear hA0 hval0
 refine (lawListing_any pa ja sa ra pc jc sc rc ps js ss rs W hpp hjj hss hrs (tab_of_laid hL)).mono fun e W' ⟨he,bel⟩=>?_
 subst he
 exact ⟨_,rfl,_,_,_,[],_,[],hW',trodAll_mk1 (shut_bool Tryz.underlying4 _),(trodAll_cons_mk (Below.trod Tryz.laidOutB (by kernel_rfl) (of_decide_eq_true (by kernel_rfl)) k0 bel lt0) (trodAll_cons_mk (Below.trod Tryz.laidOutB (by kernel_rfl) (of_decide_eq_true (by kernel_rfl)) k1 bel lt1) (trodAll_cons_mk (Below.trod Tryz.laidOutB (by kernel_rfl) (of_decide_eq_true (by kernel_rfl)) k2 bel lt2) trodAll_mk0))),rfl,bel.frame _,fun h=>by cases h⟩
theorem listing_holds:Rows.FnExactListingSaid:=
 OpenClaim.holds_of_wide 4 Tryz.f4 rfl rfl rfl rfl rfl rfl rfl ⟨rfl,rfl,rfl,rfl,rfl⟩ rfl rfl rfl rfl rfl (by kernel_rfl) Tryz.func4 (by kernel_rfl)
  (of_decide_eq_true (by kernel_rfl)) (by unfold Func.isWrapper;first | (rw [if_pos (by decide +kernel)];kernel_rfl) | (rw [if_neg (by decide +kernel)];exact ⟨rfl,rfl⟩))
  (fun os started H enc _=>listing_lifted os started H enc)
theorem listing_card:Rows.FnExactListingCardSaid:=
 Claim7.holds_tied_plain_at .later [] [.data,.data,.data] true _ true
  listing_holds (fun _ h=>by cases h) (by kernel_rfl) (fun _ h=>by cases h) fnExactListing_row_tie rfl ⟨rfl,rfl⟩ (by kernel_rfl) rfl
  (fun f fn hf hfn=>by
   obtain rfl : f = 4 := Option.some.inj ((show Tryz.prog.funcNamed "loop.example/lockbar/laws.FnExactListing" = some 4 by kernel_rfl).symm.trans hf) |>.symm
   obtain rfl:fn=Tryz.f4:=(Option.some.inj (Tryz.func4.symm.trans hfn)).symm
   exact ⟨by kernel_rfl,fun j t ht=>by
    rw [Tryz.params4] at ht
    have h3:t=25∨t=26∨t=27:=by
     rcases j with _ | _ | _ | j
     ·exact Or.inl (by simpa using ht.symm)
     ·exact Or.inr (Or.inl (by simpa using ht.symm))
     ·exact Or.inr (Or.inr (by simpa using ht.symm))
     ·simp at ht
    rcases h3 with rfl | rfl | rfl
    ·exact (show Tryz.prog.wantsStandIn 25=false by kernel_rfl)
    ·exact (show Tryz.prog.wantsStandIn 26=false by kernel_rfl)
    ·exact (show Tryz.prog.wantsStandIn 27=false by kernel_rfl)⟩)
  (by kernel_rfl)
#print axioms listing_card
end Go.Proofs.YtmkdgnmmebldgabGreatDoor
