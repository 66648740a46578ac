import Derived.Test.YtmkdgnmmebldgabGreatDoorPr38
import Derived.Test.YtmkdgnmmebldgabGreatDoorPr32
import Derived.Lib.ItoaLen
import Derived.Test.YtmkdgnmmebldgabGreatDoorPr47
import Derived.BigQuiet
import Derived.Test.YtmkdgnmmebldgabGreatDoorPr20
set_option maxRecDepth 100000
set_option maxHeartbeats 8000000
namespace Go.Proofs.YtmkdgnmmebldgabGreatDoor
open Go.RowKit Go.Deep
theorem nameB_size {s:ByteArray}(h:nameB s=true):s.size≤20:=by
 unfold nameB at h
 simp only [Bool.and_eq_true,decide_eq_true_eq] at h
 exact h.1.2
structure Short20 (ps:List MPiece)(js:List MJoint)(ss:List MPiece):Prop where
 p:∀ i (h:i<ps.length),ps[i].name.size≤20
 j:∀ i (h:i<js.length),js[i].name.size≤20
 s:∀ i (h:i<ss.length),ss[i].name.size≤20
theorem short_of {ps:List MPiece}{js:List MJoint}{ss:List MPiece}(h:sigF ps js ss=(0,0)):Short20 ps js ss:=by
 have hN:netF ps js=(0,0):=by
  by_cases e:netF ps js=(0,0)
  ·exact e
  ·rw [sigF_1 e] at h;simp at h
 unfold sigF at h
 rw [if_pos hN] at h
 by_cases h60:60<ss.length
 ·rw [if_pos h60] at h;simp at h
 rw [if_neg h60] at h
 by_cases h3:0≤firstBad (badS3 ps ss) ss.length
 ·rw [if_pos h3] at h;simp at h
 have hs3:=firstBad_negR h3
 clear h
 unfold netF at hN
 by_cases c1:sizeB ps.length js.length=false
 ·simp [c1] at hN
 have c1':sizeB ps.length js.length=true:=by simpa using c1
 by_cases c2:0≤firstBad (badPi ps) ps.length
 ·simp [c1',c2] at hN
 by_cases c3:0≤firstBad (bad3i ps.length js) js.length
 ·simp [c1',c2,c3] at hN
 by_cases c4:0≤firstBad (bad4i js) js.length
 ·simp [c1',c2,c3,c4] at hN
 refine ⟨fun i hi=>?_,fun i hi=>?_,fun i hi=>?_⟩
 ·have e:=firstBad_negR c2 i hi
  rw [badPi_at hi] at e
  have e2:okP ps i ps[i]=true:=by simpa using e
  unfold okP pieceB at e2
  simp only [Bool.and_eq_true] at e2
  exact nameB_size e2.1.1.1.1
 ·have e:=firstBad_negR c4 i hi
  rw [bad4i_at hi] at e
  have e2:ok4 js i js[i]=true:=by simpa using e
  unfold ok4 at e2
  by_cases hk:js[i].kind<3
  ·rw [if_pos hk] at e2
   have e3:js[i].name=⟨#[]⟩:=by simpa using e2
   rw [e3]
   exact Nat.zero_le _
  ·rw [if_neg hk] at e2
   simp only [Bool.and_eq_true] at e2
   exact nameB_size e2.1
 ·have e:=hs3 i hi
  rw [badS3_at hi] at e
  have e2:okSig ps ss[i]=true:=by simpa using e
  unfold okSig okSigC at e2
  simp only [Bool.and_eq_true] at e2
  exact nameB_size e2.1.1.1
def FlankT (js:List MJoint)(ss:List MPiece)(f:MFlank):Prop:=(f.kind=2→∃ b:Nat,b<ss.length∧f.of=b)∧(f.kind=3→∃ j:Nat,j<js.length∧f.of=j∧(f.lie=1∨f.lie=2))
theorem spot_three {ps:List MPiece}{js:List MJoint}{ss:List MPiece}(R:Right ps js ss){e:MEnd}(h3:kindE js (spotE js e).1=3)(h0:(spotE js e).2≠0):(spotE js e).1<js.length∧((spotE js e).2=1∨(spotE js e).2=2):=by
 unfold spotE at h3 h0 ⊢
 cases h:spotF js e 0 with
 | none=>rw [h] at h0;exact absurd rfl h0
 | some p =>
  obtain ⟨j,k⟩:=p
  obtain ⟨_,hj,hk,_⟩:=spotF_some h
  simp only [Nat.sub_zero] at hj hk
  rw [h] at h3 h0
  simp only [Option.getD_some] at h3 h0 ⊢
  have hkd:kindE js j=js[j].kind:=by simp [kindE,hj]
  have:=R.kind j hj
  rw [hkd] at h3
  exact ⟨hj,by omega⟩
theorem lookF_t {ps:List MPiece}{js:List MJoint}{ss:List MPiece}(R:Right ps js ss)(lies:List MLie)(pl:Int):∀ (n:Nat) (st:List MEnd × List MFlank) (e:MEnd),(∀ f ∈ st.2,FlankT js ss f)→∀ f ∈ (lookF js ss lies pl n st e).2,FlankT js ss f
 | 0,st,e,h=>h
 | n+1,st,e,h=>by
  have hadd:∀ (x:MFlank),FlankT js ss x→∀ f ∈ st.2++[x],FlankT js ss f:=fun x hx f hf=>by
   rcases List.mem_append.1 hf with hf | hf
   ·exact h f hf
   ·have:f=x:=by simpa using hf
    rw [this];exact hx
  simp only [lookF]
  generalize hwy:(if e.side=0 then (-1:Int) else 1)=wy
  split
  ·exact h
  ·split
   ·rename_i hg
    refine hadd _ ⟨fun _=>?_,(fun e=>by cases e)⟩
    rcases guardB_range ss e.piece wy ss.length (Nat.le_refl _) with h1 | ⟨b,hb,_,h1,_⟩
    ·rw [h1] at hg;omega
    ·exact ⟨b,hb,h1⟩
   ·split
    ·exact hadd _ ⟨(fun e=>by cases e),(fun e=>by cases e)⟩
    ·split
     ·rename_i hk
      split
      ·exact hadd _ ⟨(fun e=>by cases e),(fun e=>by cases e)⟩
      ·have hsp:=spot_three R hk.1 hk.2
       exact hadd _ ⟨(fun e=>by cases e),fun _=>⟨_,hsp.1,rfl,by show 3-(((spotE js (farE e)).2:Nat):Int)=1∨3-(((spotE js (farE e)).2:Nat):Int)=2;omega⟩⟩
     ·have hfold:∀ (L:List Nat) (s:List MEnd × List MFlank),(∀ f ∈ s.2,FlankT js ss f)→∀ f ∈ (L.foldl (fun s t=>lookF js ss lies pl n s (endE js (spotE js (farE e)).1 t)) s).2,FlankT js ss f:=by
       intro L
       induction L with
       | nil=>exact fun s hs=>hs
       | cons t r ih=>exact fun s hs=>ih _ (lookF_t R lies pl n s _ hs)
      exact hfold _ _ h
theorem flanksF_t {ps:List MPiece}{js:List MJoint}{ss:List MPiece}(R:Right ps js ss)(lies:List MLie):∀ (L:List MLie),∀ f ∈ flanksF ps js ss lies L,FlankT js ss f
 | []=>fun f hf=>by cases hf
 | l::r=>fun f hf=>by
  rcases List.mem_append.1 hf with hf | hf
  ·exact lookF_t R lies l.piece _ ([],[]) _ (fun f hf=>by cases hf) f hf
  ·exact flanksF_t R lies r f hf
structure LnOk (ps:List MPiece)(js:List MJoint)(ss:List MPiece)(r:MRoute):Prop where
 start:∃ i:Nat,i<ss.length∧r.start=i
 stop:r.stop = -1∨∃ i:Nat,i<ss.length∧r.stop=i
 steps:∀ s ∈ r.steps,ValidS ps s
 lies:∀ l ∈ r.lies,∃ j:Nat,j<js.length∧l.piece=j∧(l.side=1∨l.side=2)
 flanks:∀ f ∈ r.flanks,FlankT js ss f
 n1:r.steps.length≤202
 n2:r.lies.length≤120
 n3:r.flanks.length≤24000
theorem routes_line (ps:List MPiece)(js:List MJoint)(ss:List MPiece)(over:Int):∀ r ∈ routesF ps js ss over,LnOk ps js ss r:=by
 unfold routesF
 split
 ·rename_i hc
  have R:Right ps js ss:=right_of hc.1
  intro r hr
  obtain ⟨q,hq,rfl⟩:=List.mem_map.1 hr
  obtain ⟨hq1,hq2⟩:=List.mem_filter.1 hq
  have hp:=allEvs_ok R ss.length (Nat.le_refl _) q hq1 hq2
  have hl:=allEvs_lies R ss.length (Nat.le_refl _) q hq1
  have hval:∀ l ∈ q.lies,ValidE ps (endE js l.piece.toNat (3-l.side).toNat):=fun l hlm=>by
   obtain ⟨j,hj,h1,h2,h3⟩:=hl.1 l hlm
   have hk:=R.kind j hj
   have hlt:(3-l.side).toNat<js[j].ends.length:=by have:=hk.2.2;omega
   rw [h1,Int.toNat_natCast,endE_at hj hlt]
   exact R.ends j hj _ hlt
  have hfl:=flanksF_len R q.lies q.lies hval
  have hnp:=R.np
  have hll:=hp.ll
  have hfl2:2*ps.length*q.lies.length≤200*120:=Nat.mul_le_mul (by omega) (by omega)
  refine ⟨hp.start,hp.stop,hp.sv,fun l hlm=>?_,flanksF_t R q.lies q.lies,hp.s1,hp.ll,by show (flanksF ps js ss q.lies q.lies).length≤24000;omega⟩
  obtain ⟨j,hj,h1,_,h3⟩:=hp.lv l hlm
  exact ⟨j,hj,h1,h3⟩
 ·exact fun r hr=>by cases hr
def nmP (xs:List MPiece)(i:Int):List UInt8:=(xs[i.toNat]?.map (fun p=>p.name.data.toList)).getD []
def nmJ (js:List MJoint)(i:Int):List UInt8:=(js[i.toNat]?.map (fun p=>p.name.data.toList)).getD []
def stepT (ps:List MPiece)(s:MStep):List UInt8:=nmP ps s.piece++[if s.side=1 then 43 else 45]
def lieT (js:List MJoint)(l:MLie):List UInt8:=nmJ js l.piece++[if l.side=1 then 60 else 62]
def bufT:List UInt8:=[98,117,102,102,101,114]
def goalT (ss:List MPiece)(g:Int):List UInt8:=if g<0 then bufT else nmP ss g
def flankT (js:List MJoint)(ss:List MPiece)(f:MFlank):List UInt8:=if f.kind=1 then bufT else if f.kind=2 then nmP ss f.of else if f.kind=3 then lieT js ⟨f.of,f.lie⟩ else [111,112,101,110]
def headT (ss:List MPiece)(i:Int)(r:MRoute):List UInt8:=Lib.itoa i++([32]++(nmP ss r.start++([32,45,62,32]++(goalT ss r.stop++[32,58]))))
def stepsT (ps:List MPiece)(l:List MStep):List UInt8:=l.flatMap fun s=>32::stepT ps s
def liesT (js:List MJoint)(l:List MLie):List UInt8:=l.flatMap fun s=>32::lieT js s
def flanksT (js:List MJoint)(ss:List MPiece)(l:List MFlank):List UInt8:=l.flatMap fun s=>32::flankT js ss s
def wLies (l:List MLie):List UInt8:=if l.length=0 then [] else [32,108,105,101,115]
def wFlanks (l:List MFlank):List UInt8:=if l.length=0 then [] else [32,102,108,97,110,107,115]
def lineT (ps:List MPiece)(js:List MJoint)(ss:List MPiece)(i:Int)(r:MRoute):List UInt8:=
 headT ss i r++stepsT ps r.steps++wLies r.lies++liesT js r.lies++wFlanks r.flanks++flanksT js ss r.flanks++[10]
theorem nmP_at {xs:List MPiece}{i:Nat}(h:i<xs.length):nmP xs i=xs[i].name.data.toList:=by simp [nmP,h]
theorem nmJ_at {js:List MJoint}{i:Nat}(h:i<js.length):nmJ js i=js[i].name.data.toList:=by simp [nmJ,h]
theorem flat_le {α:Type}{f:α→List UInt8}{n:Nat}:∀ {l:List α},(∀ x ∈ l,(f x).length≤n)→(l.flatMap f).length≤l.length*n
 | [],_=>by simp
 | x::r,h=>by
  have h1:=h x (by simp)
  have h2:=flat_le (l:=r) (fun y hy=>h y (by simp [hy]))
  simp only [List.flatMap_cons,List.length_append,List.length_cons]
  rw [Nat.add_mul]
  omega
theorem nmP_le {xs:List MPiece}(h:∀ i (h:i<xs.length),xs[i].name.size≤20)(i:Int):(nmP xs i).length≤20:=by
 unfold nmP
 by_cases hi:i.toNat<xs.length
 ·rw [List.getElem?_eq_getElem hi]
  exact h _ hi
 ·rw [List.getElem?_eq_none (by omega)]
  simp
theorem nmJ_le {js:List MJoint}(h:∀ i (h:i<js.length),js[i].name.size≤20)(i:Int):(nmJ js i).length≤20:=by
 unfold nmJ
 by_cases hi:i.toNat<js.length
 ·rw [List.getElem?_eq_getElem hi]
  exact h _ hi
 ·rw [List.getElem?_eq_none (by omega)]
  simp
section
variable {ps:List MPiece} {js:List MJoint} {ss:List MPiece}
theorem stepT_le (N:Short20 ps js ss) (s:MStep):(stepT ps s).length≤21:=by
 have:=nmP_le N.p s.piece
 simp only [stepT,List.length_append,List.length_cons,List.length_nil]
 omega
theorem lieT_le (N:Short20 ps js ss) (l:MLie):(lieT js l).length≤21:=by
 have:=nmJ_le N.j l.piece
 simp only [lieT,List.length_append,List.length_cons,List.length_nil]
 omega
theorem goalT_le (N:Short20 ps js ss) (g:Int):(goalT ss g).length≤20:=by
 unfold goalT
 split
 ·simp [bufT]
 ·exact nmP_le N.s g
theorem flankT_le (N:Short20 ps js ss) (f:MFlank):(flankT js ss f).length≤21:=by
 unfold flankT
 split
 ·simp [bufT]
 ·split
  ·have:=nmP_le N.s f.of
   omega
  ·split
   ·exact lieT_le N _
   ·simp
theorem headT_le (N:Short20 ps js ss) {i:Int}(r:MRoute)(h0:0≤i)(h1:i≤1000):(headT ss i r).length≤100:=by
 have a:=Lib.itoa_length_le i (by omega) (by omega)
 have b:=nmP_le N.s r.start
 have c:=goalT_le N r.stop
 simp only [headT,List.length_append,List.length_cons,List.length_nil]
 omega
theorem stepsT_le (N:Short20 ps js ss) (l:List MStep):(stepsT ps l).length≤l.length*22:=flat_le (fun x _=>by have:=stepT_le N x;simp only [List.length_cons];omega)
theorem liesT_le (N:Short20 ps js ss) (l:List MLie):(liesT js l).length≤l.length*22:=flat_le (fun x _=>by have:=lieT_le N x;simp only [List.length_cons];omega)
theorem flanksT_le (N:Short20 ps js ss) (l:List MFlank):(flanksT js ss l).length≤l.length*22:=flat_le (fun x _=>by have:=flankT_le N x;simp only [List.length_cons];omega)
theorem lineT_le (N:Short20 ps js ss) {i:Int}{r:MRoute}(h:LnOk ps js ss r)(h0:0≤i)(h1:i≤1000):(lineT ps js ss i r).length≤1000000:=by
 have a:=headT_le N r h0 h1
 have b:=stepsT_le N r.steps
 have c:=liesT_le N r.lies
 have d:=flanksT_le N r.flanks
 have e1:(wLies r.lies).length≤5:=by unfold wLies;split <;> simp
 have e2:(wFlanks r.flanks).length≤7:=by unfold wFlanks;split <;> simp
 have:=h.n1
 have:=h.n2
 have:=h.n3
 simp only [lineT,List.length_append,List.length_cons,List.length_nil]
 omega
end
theorem stepsT_on {ps:List MPiece}{l:List MStep}{k:Nat}(h:k<l.length):stepsT ps (l.take (k+1))=stepsT ps (l.take k)++32::stepT ps l[k]:=by
 unfold stepsT
 rw [List.take_succ_eq_append_getElem h,List.flatMap_append]
 simp only [List.flatMap_cons,List.flatMap_nil,List.append_nil]
theorem liesT_on {js:List MJoint}{l:List MLie}{k:Nat}(h:k<l.length):liesT js (l.take (k+1))=liesT js (l.take k)++32::lieT js l[k]:=by
 unfold liesT
 rw [List.take_succ_eq_append_getElem h,List.flatMap_append]
 simp only [List.flatMap_cons,List.flatMap_nil,List.append_nil]
theorem flanksT_on {js:List MJoint}{ss:List MPiece}{l:List MFlank}{k:Nat}(h:k<l.length):flanksT js ss (l.take (k+1))=flanksT js ss (l.take k)++32::flankT js ss l[k]:=by
 unfold flanksT
 rw [List.take_succ_eq_append_getElem h,List.flatMap_append]
 simp only [List.flatMap_cons,List.flatMap_nil,List.append_nil]
structure NetL (w:World)(A:LAd)(ps:List MPiece)(js:List MJoint)(ss:List MPiece):Prop where
 hp:PiecesAt w A.pa ps
 pn:A.pn=ps.length
 hj:JointsAt w A.ja js
 jn:A.jn=js.length
 hs:PiecesAt w A.sa ss
 sn:A.sn=ss.length
theorem NetL.below {w w':World}{A:LAd}{ps:List MPiece}{js:List MJoint}{ss:List MPiece}(h:NetL w A ps js ss)(hb:Below w.heap.size w w'):NetL w' A ps js ss:=
 ⟨h.hp.below hb,h.pn,h.hj.below hb,h.jn,h.hs.below hb,h.sn⟩
theorem PieceCells.name {w:World}{a:Option Addr}{xs:List MPiece}(h:PiecesAt w a xs){i:Nat}(hi:i<xs.length):∃ b off,a=some ⟨b,off,none⟩∧w.cell? ⟨b,off+i*4,none⟩=some (.string xs[i].name):=by
 obtain ⟨b,off,ha,hc⟩:=h.2.2.resolve_left (fun e=>by rw [e] at hi;exact absurd hi (Nat.not_lt_zero _))
 exact ⟨b,off,ha,(hc i hi).1⟩
theorem JointCells.name {w:World}{a:Option Addr}{xs:List MJoint}(h:JointsAt w a xs){i:Nat}(hi:i<xs.length):∃ b off,a=some ⟨b,off,none⟩∧w.cell? ⟨b,off+i*3+1,none⟩=some (.string xs[i].name):=by
 obtain ⟨b,off,ha,hc⟩:=h.2.2.resolve_left (fun e=>by rw [e] at hi;exact absurd hi (Nat.not_lt_zero _))
 exact ⟨b,off,ha,(hc i hi).2.1⟩
theorem write_any (A:LAd)(L:Nat)(bs:List UInt8)(ts:List ByteArray)(Y:Nat)(w:World)(h:Hid (LS A L w bs))(hY:w.heap[Y]? = some (.cells (ts.map Value.string).toArray 9 (0,0)))(hYL:Y≠L)(hn:ts.length≤6)(hlen:bs.length+(ts.flatMap fun s=>s.data.toList).length≤100000000000):
  Calls Tryz.prog 158 #[.pointer (some ⟨L,0,none⟩),.slice (some ⟨Y,0,none⟩) ts.length ts.length] w fun e w'=>e = .returned (.tuple #[])∧LS A L w' (bs++ts.flatMap fun s=>s.data.toList)∧Kp L w w':=by
 obtain ⟨n,hn0⟩:∃ n,ts.length=n:=⟨_,rfl⟩
 rw [hn0] at hn ⊢
 have HN:=hidP hn0
 have HY:=hidP hY
 have HLen:=hidP hlen
 clear hn0 hY hlen
 go_enter Tryz.func158,Tryz.ntmps158
 go_wp2_with fail
 go_loopw [8] (fun i wr => ∃ k:Nat,k≤n∧i = .int .i64 k∧Hid (LS A L wr (bs++(ts.take k).flatMap fun s=>s.data.toList))∧Hid (Kp L w wr)) (fun i _=>n-(intOf i).toNat)
 case atStart=>exact ⟨0,Nat.zero_le _,rfl,by simpa using h,Kp.refl _ _⟩
 case round =>
  obtain ⟨k,hk,rfl,HS,HK⟩:=hrel
  by_cases hk':k<n
  ·have hki:(k:Int)<n:=by omega
   have hkt:k<ts.length:=by rw [HN.out];exact hk'
   have hYr:wr.heap[Y]? = some (.cells (ts.map Value.string).toArray 9 (0,0)):=HK.out.oth Y _ HY.out (fun e=>hYL (Option.some.inj e)) (fun c fz e=>by cases e)
   have c0:wr.cell? ⟨Y,k,none⟩=some (.string ts[k]):=by rw [Lib.cell_of_heap hYr];simp [hkt]
   have HTK:Hid ((ts.take (k+1)).flatMap (fun s=>s.data.toList)=(ts.take k).flatMap (fun s=>s.data.toList)++ts[k].data.toList):=by
    unfold Hid
    rw [List.take_succ_eq_append_getElem hkt,List.flatMap_append]
    simp only [List.flatMap_cons,List.flatMap_nil,List.append_nil]
   have HLE:Hid ((bs++(ts.take k).flatMap fun s=>s.data.toList).length+ts[k].size≤140737488355328):=by
    have e1:ts.flatMap (fun s=>s.data.toList)=(ts.take (k+1)).flatMap (fun s=>s.data.toList)++(ts.drop (k+1)).flatMap (fun s=>s.data.toList):=by rw [← List.flatMap_append,List.take_append_drop]
    have e2:=HLen.out
    rw [e1,HTK.out] at e2
    simp only [List.length_append] at e2
    have e3:ts[k].size=ts[k].data.toList.length:=rfl
    unfold Hid
    simp only [List.length_append]
    omega
   have HT2:Hid (LS A L wr (bs++(ts.take k).flatMap fun s=>s.data.toList)):=HS
   generalize ts[k]=t at c0 HTK HLE
   clear hYr HS
   go_wp2_with fail
   refine (writeString_any A L _ t wr HT2 HLE.out).mono ?_
   rintro e w1 ⟨rfl,h1,k1⟩
   have H1:Hid (LS A L w1 (bs++(ts.take (k+1)).flatMap fun s=>s.data.toList)):=by unfold Hid;rw [HTK.out,← List.append_assoc];exact h1
   have K1:=hidP (HK.out.trans k1)
   clear h1 k1 c0
   go_wp2_with fail
   go_roundw
   case rel=>exact ⟨k+1,by omega,by go_num,H1,K1⟩
   case measure=>simp [intOf];omega
  ·have hki:¬ (k:Int)<n:=by omega
   have HE:Hid (ts.take k=ts):=List.take_of_length_le (by rw [HN.out];omega)
   go_wp2_with fail
   go_end0
   exact ⟨rfl,by have h:=HS.out;rw [HE.out] at h;exact h,HK.out⟩
section
variable {ps:List MPiece} {js:List MJoint} {ss:List MPiece}
theorem goalText_any (A:LAd)(L:Nat)(bs:List UInt8)(g:Int)(w:World)(h:Hid (LS A L w bs))(hN:Hid (NetL w A ps js ss))(hg:g = -1∨∃ i:Nat,i<ss.length∧g=i):
  Calls Tryz.prog 160 #[.pointer (some ⟨L,0,none⟩),.int .i64 g] w fun e w'=>(∃ s:ByteArray,e = .returned (.string s)∧s.data.toList=goalT ss g)∧Below w.heap.size w w':=by
 rcases hg with rfl | ⟨i,hi,rfl⟩
 ·go_enter Tryz.func160,Tryz.ntmps160
  go_wp2_with fail
  go_ret
  exact ⟨⟨_,rfl,rfl⟩,Below.refl _ _⟩
 ·have c2:=h.out.cell.2.2.1
  rw [hN.out.sn] at c2
  obtain ⟨b,off,ha,hc⟩:=PieceCells.name hN.out.hs hi
  rw [ha] at c2
  have HE:Hid (ss[i].name.data.toList=goalT ss i):=by unfold Hid goalT;rw [if_neg (by omega),nmP_at hi]
  have hl:=hN.out.hs.1
  unfold maxLen at hl
  generalize ss[i].name=nm at hc HE
  generalize ss.length=n at c2 hi hl
  have hiI:(i:Int)<n:=by omega
  clear ha
  go_enter Tryz.func160,Tryz.ntmps160
  go_wp2_with fail
  go_ret
  exact ⟨⟨_,rfl,HE.out⟩,Below.refl _ _⟩
theorem cat1 (nm:ByteArray)(x:UInt8):(nm++⟨#[x]⟩).data.toList=nm.data.toList++[x]:=by simp
theorem stepText_any (A:LAd)(L:Nat)(bs:List UInt8)(s:MStep)(w:World)(h:Hid (LS A L w bs))(hN:Hid (NetL w A ps js ss))(N:Hid (Short20 ps js ss))(hs:ValidS ps s):
  Calls Tryz.prog 161 #[.pointer (some ⟨L,0,none⟩),.agg #[.int .i64 s.piece,.int .i64 s.side]] w fun e w'=>(∃ t:ByteArray,e = .returned (.string t)∧t.data.toList=stepT ps s)∧Below w.heap.size w w':=by
 obtain ⟨p,sd⟩:=s
 obtain ⟨i,hi,e1,e2⟩:=hs
 simp only at e1 e2
 subst e1
 have hsz:=N.out.p i hi
 have HE:Hid (stepT ps ⟨i,sd⟩=ps[i].name.data.toList++[if sd=1 then 43 else 45]):=by unfold Hid stepT;rw [nmP_at hi]
 have hl:=hN.out.hp.1
 unfold maxLen at hl
 have HC:Hid (∀ u:World,Below w.heap.size w u→∃ b off,u.cell? ⟨L,0,none⟩=some (.slice (some ⟨b,off,none⟩) ps.length A.pc)∧u.cell? ⟨b,off+i*4,none⟩=some (.string ps[i].name)):=fun u hu=>by
  have c0:=(h.out.below hu).cell.1
  rw [hN.out.pn] at c0
  obtain ⟨b,off,ha,hc⟩:=PieceCells.name (hN.out.hp.below hu) hi
  rw [ha] at c0
  exact ⟨b,off,c0,hc⟩
 generalize ps[i].name=nm at hsz HE HC
 generalize ps.length=n at hi hl HC
 have hiI:(i:Int)<n:=by omega
 have hLt:=h.out.lt
 go_enter Tryz.func161,Tryz.ntmps161
 go_upto_region 1 with fail
 generalize hW:World.alloc w _=W
 have hbW:Below w.heap.size w W:=by rw [← hW];exact blo
 have x0:W.cell? ⟨w.heap.size,0,none⟩=some (.int .i64 i):=by rw [← hW];simp [go_sem]
 have x1:W.cell? ⟨w.heap.size,1,none⟩=some (.int .i64 sd):=by rw [← hW];simp [go_sem]
 obtain ⟨b,off,c0,hc⟩:=HC.out W hbW
 have HB:=hidP hbW
 generalize w.heap.size=X at x0 x1 ⊢
 clear hW hbW HC
 rcases e2 with rfl | rfl
 ·go_upto_region 2 with fail
  go_quiet (fail)
  go_wp2_with fail
  go_ret
  exact ⟨⟨_,rfl,by rw [HE.out];exact cat1 nm 43⟩,bdrewN HB.out _⟩
 ·go_upto_region 3 with fail
  go_quiet (fail)
  go_wp2_with fail
  go_ret
  exact ⟨⟨_,rfl,by rw [HE.out];exact cat1 nm 45⟩,bdrewN HB.out _⟩
theorem lieText_any (A:LAd)(L:Nat)(bs:List UInt8)(s:MLie)(w:World)(h:Hid (LS A L w bs))(hN:Hid (NetL w A ps js ss))(N:Hid (Short20 ps js ss))(hs:∃ j:Nat,j<js.length∧s.piece=j∧(s.side=1∨s.side=2)):
  Calls Tryz.prog 162 #[.pointer (some ⟨L,0,none⟩),.agg #[.int .i64 s.piece,.int .i64 s.side]] w fun e w'=>(∃ t:ByteArray,e = .returned (.string t)∧t.data.toList=lieT js s)∧Below w.heap.size w w':=by
 obtain ⟨p,sd⟩:=s
 obtain ⟨i,hi,e1,e2⟩:=hs
 simp only at e1 e2
 subst e1
 have hsz:=N.out.j i hi
 have HE:Hid (lieT js ⟨i,sd⟩=js[i].name.data.toList++[if sd=1 then 60 else 62]):=by unfold Hid lieT;rw [nmJ_at hi]
 have hl:=hN.out.hj.1
 unfold maxLen at hl
 have HC:Hid (∀ u:World,Below w.heap.size w u→∃ b off,u.cell? ⟨L,1,none⟩=some (.slice (some ⟨b,off,none⟩) js.length A.jc)∧u.cell? ⟨b,off+i*3+1,none⟩=some (.string js[i].name)):=fun u hu=>by
  have c0:=(h.out.below hu).cell.2.1
  rw [hN.out.jn] at c0
  obtain ⟨b,off,ha,hc⟩:=JointCells.name (hN.out.hj.below hu) hi
  rw [ha] at c0
  exact ⟨b,off,c0,hc⟩
 generalize js[i].name=nm at hsz HE HC
 generalize js.length=n at hi hl HC
 have hiI:(i:Int)<n:=by omega
 have hLt:=h.out.lt
 go_enter Tryz.func162,Tryz.ntmps162
 go_upto_region 1 with fail
 generalize hW:World.alloc w _=W
 have hbW:Below w.heap.size w W:=by rw [← hW];exact blo
 have x0:W.cell? ⟨w.heap.size,0,none⟩=some (.int .i64 i):=by rw [← hW];simp [go_sem]
 have x1:W.cell? ⟨w.heap.size,1,none⟩=some (.int .i64 sd):=by rw [← hW];simp [go_sem]
 obtain ⟨b,off,c0,hc⟩:=HC.out W hbW
 have HB:=hidP hbW
 generalize w.heap.size=X at x0 x1 ⊢
 clear hW hbW HC
 rcases e2 with rfl | rfl
 ·go_upto_region 2 with fail
  go_quiet (fail)
  go_wp2_with fail
  go_ret
  exact ⟨⟨_,rfl,by rw [HE.out];exact cat1 nm 60⟩,bdrewN HB.out _⟩
 ·go_upto_region 3 with fail
  go_quiet (fail)
  go_wp2_with fail
  go_ret
  exact ⟨⟨_,rfl,by rw [HE.out];exact cat1 nm 62⟩,bdrewN HB.out _⟩
end
def TabU (w : World) : Prop := Lib.TabIs Tryz.prog w "internal/strconv.uint64pow10" .u64 Lib.pow10Tab
theorem TabU.below {w w':World}(h:TabU w)(hb:Below w.heap.size w w'):TabU w':=by
 unfold TabU Lib.TabIs World.var? at *
 cases hg : Tryz.prog.globalNamed "internal/strconv.uint64pow10" with
 | none=>simp [hg] at h
 | some g =>
  simp only [hg,Option.bind_some] at h ⊢
  have hlt:g<w.heap.size:=by
   rcases Nat.lt_or_ge g w.heap.size with h' | h'
   ·exact h'
   ·rw [Array.getElem?_eq_none h'] at h;simp at h
  rw [hb.block g hlt]
  exact h
theorem itoa_any (n:Int)(h0:0≤n)(h1:n≤1000)(w:World)(ht:Hid (TabU w)):
  Calls Tryz.prog 159 #[.int .i64 n] w fun e w'=>e = .returned (.string ⟨(Lib.itoa n).toArray⟩)∧Below w.heap.size w w':=by
 refine (itoa_laid n (by omega) (by omega) w ht.out).mono ?_
 rintro e w' ⟨he,k,os,rfl⟩
 refine ⟨he,rfl,rfl,rfl,by simp [Sort.grow,World.drewN],fun j hj=>?_⟩
 show (w.heap++os)[j]? = w.heap[j]?
 rw [Array.getElem?_append_left hj]
theorem write1 (A:LAd)(L:Nat)(bs:List UInt8)(s:ByteArray)(u:World)(h:Hid (LS A L u bs))(hlen:bs.length+s.size≤100000000000):
  Calls Tryz.prog 158 #[.pointer (some ⟨L,0,none⟩),.slice (some ⟨u.heap.size,0,none⟩) 1 1] (u.alloc (.cells #[.string s] 9)) fun e w'=>e = .returned (.tuple #[])∧LS A L w' (bs++s.data.toList)∧Kp L u w':=by
 have hlt:=h.out.lt
 have hb:Below u.heap.size u (u.alloc (.cells #[.string s] 9)):=(Below.refl _ _).alloc (Nat.le_refl _) _
 have H:Calls Tryz.prog 158 #[.pointer (some ⟨L,0,none⟩),.slice (some ⟨u.heap.size,0,none⟩) 1 1] (u.alloc (.cells #[.string s] 9)) fun e w'=>e = .returned (.tuple #[])∧LS A L w' (bs++[s].flatMap fun s=>s.data.toList)∧Kp L (u.alloc (.cells #[.string s] 9)) w':=
  write_any A L bs [s] u.heap.size _ (h.out.below hb) (heap_alloc_new u _) (by omega) (by simp) (by simp only [List.flatMap_cons,List.flatMap_nil,List.append_nil];exact hlen)
 refine H.mono ?_
 rintro e w' ⟨he,h1,k1⟩
 simp only [List.flatMap_cons,List.flatMap_nil,List.append_nil] at h1
 exact ⟨he,h1,(Kp.of_below hb (by omega)).trans k1⟩
theorem write2 (A:LAd)(L:Nat)(bs:List UInt8)(s:ByteArray)(u:World)(h:Hid (LS A L u bs))(hlen:bs.length+s.size≤10000000000):
  Calls Tryz.prog 158 #[.pointer (some ⟨L,0,none⟩),.slice (some ⟨u.heap.size,0,none⟩) 2 2] (u.alloc (.cells #[.string ⟨#[32]⟩,.string s] 9)) fun e w'=>e = .returned (.tuple #[])∧LS A L w' (bs++32::s.data.toList)∧Kp L u w':=by
 have hlt:=h.out.lt
 have hb:Below u.heap.size u (u.alloc (.cells #[.string ⟨#[32]⟩,.string s] 9)):=(Below.refl _ _).alloc (Nat.le_refl _) _
 have e1:s.size=s.data.toList.length:=rfl
 have H:Calls Tryz.prog 158 #[.pointer (some ⟨L,0,none⟩),.slice (some ⟨u.heap.size,0,none⟩) 2 2] (u.alloc (.cells #[.string ⟨#[32]⟩,.string s] 9)) fun e w'=>e = .returned (.tuple #[])∧LS A L w' (bs++[⟨#[32]⟩,s].flatMap fun s=>s.data.toList)∧Kp L (u.alloc (.cells #[.string ⟨#[32]⟩,.string s] 9)) w':=
  write_any A L bs [⟨#[32]⟩,s] u.heap.size _ (h.out.below hb) (heap_alloc_new u _) (by omega) (by simp) (by simp only [List.flatMap_cons,List.flatMap_nil,List.append_nil,List.length_append,List.length_cons,List.length_nil];omega)
 refine H.mono ?_
 rintro e w' ⟨he,h1,k1⟩
 simp only [List.flatMap_cons,List.flatMap_nil,List.append_nil] at h1
 exact ⟨he,h1,(Kp.of_below hb (by omega)).trans k1⟩
theorem write6 (A:LAd)(L:Nat)(bs:List UInt8)(s0 s2 s4:ByteArray)(u:World)(h:Hid (LS A L u bs))(hlen:bs.length+s0.size+s2.size+s4.size≤10000000000):
  Calls Tryz.prog 158 #[.pointer (some ⟨L,0,none⟩),.slice (some ⟨u.heap.size,0,none⟩) 6 6] (u.alloc (.cells #[.string s0,.string ⟨#[32]⟩,.string s2,.string ⟨#[32,45,62,32]⟩,.string s4,.string ⟨#[32,58]⟩] 9)) fun e w'=>e = .returned (.tuple #[])∧LS A L w' (bs++(s0.data.toList++([32]++(s2.data.toList++([32,45,62,32]++(s4.data.toList++[32,58]))))))∧Kp L u w':=by
 have hlt:=h.out.lt
 have hb:Below u.heap.size u (u.alloc (.cells #[.string s0,.string ⟨#[32]⟩,.string s2,.string ⟨#[32,45,62,32]⟩,.string s4,.string ⟨#[32,58]⟩] 9)):=(Below.refl _ _).alloc (Nat.le_refl _) _
 have e0:s0.size=s0.data.toList.length:=rfl
 have e2:s2.size=s2.data.toList.length:=rfl
 have e4:s4.size=s4.data.toList.length:=rfl
 have H:Calls Tryz.prog 158 #[.pointer (some ⟨L,0,none⟩),.slice (some ⟨u.heap.size,0,none⟩) 6 6] (u.alloc (.cells #[.string s0,.string ⟨#[32]⟩,.string s2,.string ⟨#[32,45,62,32]⟩,.string s4,.string ⟨#[32,58]⟩] 9)) fun e w'=>e = .returned (.tuple #[])∧LS A L w' (bs++[s0,⟨#[32]⟩,s2,⟨#[32,45,62,32]⟩,s4,⟨#[32,58]⟩].flatMap fun s=>s.data.toList)∧Kp L (u.alloc (.cells #[.string s0,.string ⟨#[32]⟩,.string s2,.string ⟨#[32,45,62,32]⟩,.string s4,.string ⟨#[32,58]⟩] 9)) w':=
  write_any A L bs [s0,⟨#[32]⟩,s2,⟨#[32,45,62,32]⟩,s4,⟨#[32,58]⟩] u.heap.size _ (h.out.below hb) (heap_alloc_new u _) (by omega) (by simp) (by simp only [List.flatMap_cons,List.flatMap_nil,List.append_nil,List.length_append,List.length_cons,List.length_nil];omega)
 refine H.mono ?_
 rintro e w' ⟨he,h1,k1⟩
 simp only [List.flatMap_cons,List.flatMap_nil,List.append_nil] at h1
 exact ⟨he,h1,(Kp.of_below hb (by omega)).trans k1⟩
section
variable {ps:List MPiece} {js:List MJoint} {ss:List MPiece}
theorem flankText_any (A:LAd)(L:Nat)(bs:List UInt8)(f:MFlank)(w:World)(h:Hid (LS A L w bs))(hN:Hid (NetL w A ps js ss))(N:Hid (Short20 ps js ss))(hf:Hid (FlankT js ss f)):
  Calls Tryz.prog 163 #[.pointer (some ⟨L,0,none⟩),.agg #[.int .i64 f.place,.int .i64 f.kind,.int .i64 f.of,.int .i64 f.lie]] w fun e w'=>(∃ t:ByteArray,e = .returned (.string t)∧t.data.toList=flankT js ss f)∧Below w.heap.size w w':=by
 obtain ⟨pl,kd,of,li⟩:=f
 simp only
 have hLt:=h.out.lt
 go_enter Tryz.func163,Tryz.ntmps163
 go_upto_region 1 with fail
 generalize hW:World.alloc w _=W
 have hbW:Below w.heap.size w W:=by rw [← hW];exact blo
 have x1:W.cell? ⟨w.heap.size,1,none⟩=some (.int .i64 kd):=by rw [← hW];simp [go_sem]
 have x2:W.cell? ⟨w.heap.size,2,none⟩=some (.int .i64 of):=by rw [← hW];simp [go_sem]
 have x3:W.cell? ⟨w.heap.size,3,none⟩=some (.int .i64 li):=by rw [← hW];simp [go_sem]
 have HB:=hidP hbW
 have HL:=hidP (h.out.below hbW)
 have HNW:=hidP (hN.out.below hbW)
 generalize w.heap.size=X at x1 x2 x3 ⊢
 clear hW hbW h hN
 by_cases k1:kd=1
 ·subst k1
  go_wp2_with fail
  go_ret
  exact ⟨⟨_,rfl,rfl⟩,HB.out⟩
 have f1:(kd==1)=false:=by simpa using k1
 by_cases k2:kd=2
 ·subst k2
  obtain ⟨i,hi,e1⟩:=hf.out.1 rfl
  simp only at e1
  subst e1
  have c2:=HL.out.cell.2.2.1
  rw [HNW.out.sn] at c2
  obtain ⟨b,off,ha,hc⟩:=PieceCells.name HNW.out.hs hi
  rw [ha] at c2
  have HE:Hid (ss[i].name.data.toList=flankT js ss ⟨pl,2,i,li⟩):=by unfold Hid flankT;rw [if_neg (show ¬ (2:Int)=1 by decide),if_pos rfl,nmP_at hi]
  have hl:=HNW.out.hs.1
  unfold maxLen at hl
  generalize ss[i].name=nm at hc HE
  generalize ss.length=n at c2 hi hl
  have hiI:(i:Int)<n:=by omega
  clear ha k1 f1
  go_upto_region 5 with fail
  go_quiet (fail)
  go_wp2_with fail
  go_ret
  exact ⟨⟨_,rfl,HE.out⟩,bdrewN HB.out _⟩
 have f2:(kd==2)=false:=by simpa using k2
 by_cases k3:kd=3
 ·subst k3
  have HLT:=hidP (lieText_any A L bs ⟨of,li⟩ W HL HNW N (hf.out.2 rfl))
  have HE:Hid (lieT js ⟨of,li⟩=flankT js ss ⟨pl,3,of,li⟩):=by unfold Hid flankT;rw [if_neg (show ¬ (3:Int)=1 by decide),if_neg (show ¬ (3:Int)=2 by decide),if_pos rfl]
  clear k1 k2 f1 f2
  go_wp2_with (go_at_call 162;refine HLT.out.mono ?_;rintro e w1 ⟨⟨t,rfl,ht⟩,hb1⟩)
  go_ret
  exact ⟨⟨_,rfl,ht.trans HE.out⟩,HB.out.trans (hb1.mono HB.out.size)⟩
 have f3:(kd==3)=false:=by simpa using k3
 have HE:Hid ([111,112,101,110]=flankT js ss ⟨pl,kd,of,li⟩):=by unfold Hid flankT;rw [if_neg k1,if_neg k2,if_neg k3]
 clear k1 k2 k3
 go_wp2_with fail
 go_ret
 exact ⟨⟨_,rfl,HE.out⟩,HB.out⟩
end
end Go.Proofs.YtmkdgnmmebldgabGreatDoor
