import Derived.Test.YtmkdgnmmebldgaaGreatDoorPw44
import Derived.Test.YtmkdgnmmebldgaaGreatDoorPw46
set_option maxRecDepth 100000
set_option maxHeartbeats 8000000
namespace Go.Proofs.YtmkdgnmmebldgaaGreatDoor
open Go.RowKit Go.Deep
section
variable {ps:List MPiece} {js:List MJoint} {ss:List MPiece}
def rBox (d:RAddr)(r:MRoute):Array Value:=#[.int .i64 r.start,.int .i64 r.stop,.slice d.a0 r.steps.length d.c0,.slice d.a1 r.lies.length d.c1,.slice d.a2 r.crosses.length d.c2,.slice d.a3 r.parts.length d.c3,.slice d.a4 r.over.length d.c4,.slice d.a5 r.flanks.length d.c5]
def AllU (A:LAd)(L:Nat)(w:World)(ps:List MPiece)(js:List MJoint)(ss:List MPiece)(d:RAddr)(r:MRoute):Prop := ∀ u:World,Below L w u->NetL u A ps js ss/\RListsAt u d r/\TabU u
theorem AllU.on {A:LAd}{L:Nat}{w u:World}{d:RAddr}{r:MRoute}(h:AllU A L w ps js ss d r)(hb:Below L w u):AllU A L u ps js ss d r:=fun v hv=>h v (hb.trans hv)
structure Mid (A:LAd)(L X:Nat)(w0 u:World)(d:RAddr)(r:MRoute)(bs:List UInt8):Prop where
 ls:LS A L u bs
 kp:Kp L w0 u
 box:u.heap[X]? = some (.cells (rBox d r) 44 (0,0))
theorem Mid.below {A:LAd}{L X:Nat}{w0 u v:World}{d:RAddr}{r:MRoute}{bs:List UInt8}(h:Mid A L X w0 u d r bs)(hb:Below u.heap.size u v):Mid A L X w0 v d r bs:=
 ⟨h.ls.below hb,h.kp.trans (Kp.of_below hb (Nat.le_of_lt h.ls.lt)),(hb.block X (Array.getElem?_eq_some_iff.1 h.box).1).trans h.box⟩
theorem Mid.wrote {A:LAd}{L X:Nat}{w0 u v:World}{d:RAddr}{r:MRoute}{bs bs':List UInt8}(h:Mid A L X w0 u d r bs)(hX:X≠L)(hl:LS A L v bs')(hk:Kp L u v):Mid A L X w0 v d r bs':=
 ⟨hl,h.kp.trans hk,hk.oth X _ h.box (fun e=>hX (Option.some.inj e)) (fun c fz e=>by cases e)⟩
theorem Mid.c {A:LAd}{L X:Nat}{w0 u:World}{d:RAddr}{r:MRoute}{bs:List UInt8}(h:Mid A L X w0 u d r bs)(j:Nat):u.cell? ⟨X,j,none⟩=(rBox d r)[j]? := Lib.cell_of_heap h.box j
theorem line_any (A:LAd)(L:Nat)(bs:List UInt8)(i:Nat)(d:RAddr)(r:MRoute)(w:World)(h:Hid (LS A L w bs))(HU:Hid (AllU A L w ps js ss d r))(N:Hid (Short20 ps js ss))(hok:Hid (LnOk ps js ss r))(hi:i<=300)(hlen:bs.length<=1000000000):
  Calls Tryz.prog 128 #[.pointer (some ⟨L,0,none⟩),.int .i64 i,routeV d r] w fun e w'=>e = .returned (.tuple #[])/\LS A L w' (bs++lineT ps js ss i r)/\Kp L w w':=by
 obtain ⟨a0,c0,a1,c1,a2,c2,a3,c3,a4,c4,a5,c5⟩:=d;unfold routeV;dsimp only;have hLw:=h.out.lt
 go_enter Tryz.func128,Tryz.ntmps128
 go_upto_region 1 with fail
 generalize hW:World.alloc w _=W;have hbW:Below w.heap.size w W:=by rw [<-hW];exact blo
 have hX:W.heap[w.heap.size]? = some (.cells (rBox ⟨a0,c0,a1,c1,a2,c2,a3,c3,a4,c4,a5,c5⟩ r) 44 (0,0)):=by rw [<-hW];exact heap_alloc_new w _
 have HM0:Hid (Mid A L w.heap.size w W ⟨a0,c0,a1,c1,a2,c2,a3,c3,a4,c4,a5,c5⟩ r bs):=⟨h.out.below hbW,Kp.of_below hbW (Nat.le_of_lt hLw),hX⟩;have hXL:w.heap.size≠L:=by omega
 have hXL2:L≠w.heap.size:=by omega
 have hLX:L<w.heap.size:=hLw;clear hW hX;have HBW:=hidP hbW;have HXw:Hid (∃ X,X=w.heap.size):=⟨_,rfl⟩;obtain ⟨X,hXe⟩:∃ X,w.heap.size=X:=⟨_,rfl⟩;rw [hXe] at HM0 hXL hXL2 hLX ⊢;have HXE:=hidP hXe;clear hXe hbW HXw;obtain ⟨st,hst,est⟩:=hok.out.start;have HUW:=hidP (HU.out.on HM0.out.kp.bel);have hWs:L<W.heap.size:=HM0.out.ls.lt;have HIT:Hid (∀ u:World,Below W.heap.size W u->Calls Tryz.prog 160 #[.int .i64 i] u fun e w'=>e = .returned (.string ⟨(Lib.itoa i).toArray⟩)/\Below u.heap.size u w'):=fun u hu=>itoa_any i (by omega) (by omega) u (HUW.out u (hu.mono (Nat.le_of_lt hWs))).2.2
 have HGT:Hid (∀ u:World,Below W.heap.size W u->Calls Tryz.prog 161 #[.pointer (some ⟨L,0,none⟩),.int .i64 r.stop] u fun e w'=>(∃ s:ByteArray,e = .returned (.string s)/\s.data.toList=goalT ss r.stop)/\Below u.heap.size u w'):=fun u hu=>goalText_any A L bs r.stop u (HM0.out.ls.below hu) (HUW.out u (hu.mono (Nat.le_of_lt hWs))).1 hok.out.stop
 obtain ⟨sI,hsI⟩:∃ s:ByteArray,⟨(Lib.itoa (i:Int)).toArray⟩=s:=⟨_,rfl⟩;have HSI:Hid (sI.data.toList=Lib.itoa i/\sI.size<=21):=by
  rw [<-hsI];refine ⟨by simp,?_⟩
  have:=Lib.itoa_length_le (i:Int) (by omega) (by omega)
  simpa [ByteArray.size] using this
 rw [hsI] at HIT;clear hsI;have HCS:Hid (∀ u:World,Below W.heap.size W u->∃ b off,u.cell? ⟨L,2,none⟩=some (.slice (some ⟨b,off,none⟩) ss.length A.sc)/\u.cell? ⟨b,off+st*4,none⟩=some (.string ss[st].name)):=fun u hu=>by
  have c2:=(HM0.out.ls.below hu).cell.2.2.1;have hN:=(HUW.out u (hu.mono (Nat.le_of_lt hWs))).1;rw [hN.sn] at c2;obtain ⟨b,off,ha,hc⟩:=PieceCells.name hN.hs hst;rw [ha] at c2;exact ⟨b,off,c2,hc⟩
 have HNM:Hid (nmP ss r.start=ss[st].name.data.toList/\ss[st].name.size<=20):=⟨by rw [est];exact nmP_at hst,N.out.s st hst⟩
 have hsl:=(HUW.out W (Below.refl _ _)).1.hs.1;unfold maxLen at hsl;generalize ss[st].name=nm at HCS HNM;obtain ⟨n,hn⟩:∃ n,ss.length=n:=⟨_,rfl⟩;rw [hn] at hst hsl HCS;have hstI:(st:Int)<n:=by omega
 clear hn;obtain ⟨b,off,e0,e1⟩:=HCS.out W (Below.refl _ _);obtain ⟨S,hS⟩:∃ S:World->Prop,∀ u,S u↔Below W.heap.size W u:=⟨_,fun _=>Iff.rfl⟩
 have HS0:=hidP hS;have x0:∀ u:Held S,World.cell? u.val ⟨L,2,none⟩=some (.slice (some ⟨b,off,none⟩) n A.sc):=fun u=>cell_later ((hS u.val).1 u.2) e0
 have x1:∀ u:Held S,World.cell? u.val ⟨b,off+st*4,none⟩=some (.string nm):=fun u=>cell_later ((hS u.val).1 u.2) e1
 have x2:∀ u:Held S,World.cell? u.val ⟨X,0,none⟩=some (.int .i64 st):=fun u=>by
  have:=(HM0.out.below ((hS u.val).1 u.2)).c 0;rw [this,<-est];rfl
 have x3:∀ u:Held S,World.cell? u.val ⟨X,1,none⟩=some (.int .i64 r.stop):=fun u=>(HM0.out.below ((hS u.val).1 u.2)).c 1
 have hS1:S W.drew:=(hS _).2 ((Below.refl _ _).drew);have hne:=held_ne hS1;clear hS e0 e1 HCS;refine wp_region_tree (fun w' => ∃ u:Held S,w'=u.val) 17 (by kernel_rfl) (by kernel_rfl) (held_some hS1) ?_
 (refine wpT_sea 0 ?_;intro K hK;go_big_quiet_op;go_big_quiet_on);(refine wpT_sea 1 ?_;intro K hK;go_big_quiet_op;go_big_quiet_on)
 (refine wpT_sea 3 ?_;intro K hK;go_big_quiet_op;go_big_quiet_on);(refine wpT_sea 4 ?_;intro K hK;go_big_quiet_op;go_big_quiet_on);(refine wpT_sea 5 ?_;intro K hK;go_big_quiet_op;go_big_quiet_on);(refine wpT_sea 6 ?_;intro K hK;go_big_quiet_op;go_big_quiet_on);(refine wpT_sea 7 ?_;intro K hK;go_big_quiet_op;go_big_quiet_on);(refine wpT_sea 8 ?_;intro K hK;go_big_quiet_op;go_big_quiet_on);(refine wpT_sea 9 ?_;intro K hK;go_big_quiet_op;go_big_quiet_on);(refine wpT_sea 10 ?_;intro K hK;go_big_quiet_op;go_big_quiet_on);(refine wpT_sea 11 ?_;intro K hK;go_big_quiet_op;go_big_quiet_on);(refine wpT_sea 12 ?_;intro K hK;go_big_quiet_op;go_big_quiet_on);(refine wpT_sea 13 ?_;intro K hK;go_big_quiet_op;go_big_quiet_on);(refine wpT_sea 14 ?_;intro K hK;go_big_quiet_op;go_big_quiet_on)
 refine wpT_loud 2 (by rfl) (by kernel_rfl) (by kernel_rfl) ?_
 intro K hK
 go_wp2_with (go_at_call 160;refine (HIT.out _ ((Below.refl _ _).drew)).mono ?_;rintro e w1 ⟨rfl,hb1'⟩)
 have hb1:Below W.heap.size W w1:=(Below.refl _ _).drew.trans hb1';refine hK _ _ (held_some ((HS0.out _).2 hb1)) ?_;clear hK K hb1';refine wpT_loud 15 (by rfl) (by kernel_rfl) (by kernel_rfl) ?_
 intro K hK
 go_wp2_with (go_at_call 161;refine (HGT.out _ hb1).mono ?_;rintro e w2 ⟨⟨sg,rfl,hsg⟩,hb2'⟩)
 have hb2:Below W.heap.size W w2:=hb1.trans (hb2'.mono hb1.size);refine hK _ _ (held_some ((HS0.out _).2 hb2)) ?_;clear hK K hb2' hb1;have HSG:Hid (sg.data.toList=goalT ss r.stop/\sg.size<=20):=⟨hsg,by have:=goalT_le N.out r.stop;rw [<-hsg] at this;exact this⟩
 have HM2:=hidP (HM0.out.below hb2);have HW6:=hidP (write6 A L bs sI nm sg w2 HM2.out.ls (by have:=HSI.out.2;have:=HNM.out.2;have:=HSG.out.2;omega))
 refine wpT_loud 16 (by rfl) (by kernel_rfl) (by kernel_rfl) ?_
 intro K hK
 go_wp2_with fail
 have hb3:Below W.heap.size W (w2.alloc (.cells #[.string sI,.string ⟨#[32]⟩,.string nm,.string ⟨#[32,45,62,32]⟩,.string sg,.string ⟨#[32,58]⟩] 9)):=hb2.alloc hb2.size _;refine hK _ _ (held_some ((HS0.out _).2 hb3)) ?_;clear hK K hb3 hb2 hsg;refine wpT_done (by kernel_rfl) ?_
 clear x0 x1 x2 x3 hS1 hne
 go_upto_region 2 with (go_at_call 159;refine HW6.out.mono ?_;rintro e w3 ⟨rfl,hl3,hk3⟩)
 have HM3:Hid (Mid A L X w w3 ⟨a0,c0,a1,c1,a2,c2,a3,c3,a4,c4,a5,c5⟩ r (bs++headT ss i r)):=HM2.out.wrote hXL (by unfold headT;rw [<-HSI.out.1,HNM.out.1,<-HSG.out.1];exact hl3) hk3
 clear hl3 hk3 HW6 HM2 HM0 HSI HNM HSG HIT HGT HUW;obtain ⟨n1,hn1⟩:∃ n,r.steps.length=n:=⟨_,rfl⟩;obtain ⟨n2,hn2⟩:∃ n,r.lies.length=n:=⟨_,rfl⟩;obtain ⟨n3,hn3⟩:∃ n,r.flanks.length=n:=⟨_,rfl⟩;have HN1:=hidP hn1;have HN2:=hidP hn2;have HN3:=hidP hn3;have hm1:n1<=202:=by rw [<-hn1];exact hok.out.n1
 have hm2:n2<=120:=by rw [<-hn2];exact hok.out.n2
 have hm3:n3<=24000:=by rw [<-hn3];exact hok.out.n3
 have HB3:Hid ((bs++headT ss i r).length<=1000000100):=by
  have q0:=headT_le N.out r (i:=(i:Int)) (by omega) (by omega)
  unfold Hid;rw [List.length_append];omega
 have hcw:w3.cell? ⟨X,2,none⟩=some (.slice a0 r.steps.length c0):=HM3.out.c 2;rw [hn1] at hcw;clear hn1 hn2 hn3
 go_wp2_with fail
 clear hcw
 go_loopw [33] (fun c wr => ∃ k:Nat,k<=n1/\c = .int .i64 k/\Hid (Mid A L X w wr ⟨a0,c0,a1,c1,a2,c2,a3,c3,a4,c4,a5,c5⟩ r ((bs++headT ss i r)++stepsT ps (r.steps.take k)))) (fun c _=>n1-(intOf c).toNat)
 case atStart=>exact ⟨0,Nat.zero_le _,rfl,by have h:=HM3.out;unfold Hid;rw [List.take_zero];simpa [stepsT] using h⟩
 case round =>
  obtain ⟨k,hk,rfl,HMr⟩:=hrel;clear HM3
  by_cases hk':k<n1
  ·have hki:(k:Int)<n1:=by omega
   have hkl:k<r.steps.length:=by rw [HN1.out];exact hk'
   obtain ⟨hNr,hRr,_⟩:=HU.out wr HMr.out.kp.bel;obtain ⟨b,o,ha,hc⟩:=hRr.steps.2.resolve_left (fun e=>by rw [e] at hkl;exact absurd hkl (Nat.not_lt_zero _))
   simp only at ha;subst ha;have cx:=hc k hkl;have HON:=hidP (stepsT_on (ps:=ps) hkl);have HVA:=hidP (hok.out.steps _ (List.getElem_mem hkl));have HTL:Hid ((stepsT ps (r.steps.take k)).length<=4444):=by
    have q:=stepsT_le N.out (r.steps.take k);rw [List.length_take] at q;have q2:min k r.steps.length<=202:=by have:=hok.out.n1;omega
    unfold Hid;omega
   generalize r.steps[k]=s at cx HON HVA;obtain ⟨y0,y1⟩:=cx;have HNr:=hidP hNr;clear hc hNr hRr hkl
   go_wp2_with fail
   generalize hV:World.alloc wr _=V;have hbV:Below wr.heap.size wr V:=by rw [<-hV];exact blo
   have HMV:=hidP (HMr.out.below hbV);have HTX:=hidP (stepText_any A L _ s V HMV.out.ls (HNr.out.below hbV) N HVA.out);clear hV hbV y0 y1;refine HTX.out.mono ?_;rintro e w5 ⟨⟨tx,rfl,htx⟩,hb5⟩;have HM5:=hidP (HMV.out.below hb5);have HTE:=hidP htx;have HSZ:Hid (tx.size<=21):=by have q:=stepT_le N.out s;rw [<-htx] at q;exact q
   have HW2:=hidP (write2 A L _ tx w5 HM5.out.ls (by have q1:=HB3.out;have q2:=HTL.out;have q3:=HSZ.out;simp only [List.length_append] at q1 ⊢;omega))
   clear htx hb5 HTX HMV HMr
   go_wp2_with fail
   refine HW2.out.mono ?_;rintro e w6 ⟨rfl,hl6,hk6⟩;have HM6:Hid (Mid A L X w w6 _ r ((bs++headT ss i r)++stepsT ps (r.steps.take (k+1)))):=HM5.out.wrote hXL (by rw [HON.out,<-HTE.out,<-List.append_assoc];exact hl6) hk6
   clear hl6 hk6 HW2 HM5
   go_wp2_with fail
   go_roundw
   case rel=>exact ⟨k+1,by omega,by go_num,HM6⟩
   case measure=>simp [intOf];omega
  ·have hki:¬ (k:Int)<n1:=by omega
   have HME:Hid (Mid A L X w wr ⟨a0,c0,a1,c1,a2,c2,a3,c3,a4,c4,a5,c5⟩ r ((bs++headT ss i r)++stepsT ps r.steps)):=by
    have h:=HMr.out;rw [List.take_of_length_le (show r.steps.length<=k by rw [HN1.out];omega)] at h
    exact h
   clear HMr;have cw:=HME.out.c 3;have hcw:wr.cell? ⟨X,3,none⟩=some (.slice a1 r.lies.length c1):=cw;rw [HN2.out] at hcw;clear cw;have HBp:Hid ((bs++headT ss i r++stepsT ps r.steps).length<=1000010000):=by
    have q0:=headT_le N.out r (i:=(i:Int)) (by omega) (by omega)
    have q1:=stepsT_le N.out r.steps;have q2:=liesT_le N.out r.lies;have q3:=hok.out.n1;have q4:=hok.out.n2;have e1:(wLies r.lies).length<=5:=by unfold wLies;split <;> simp
    unfold Hid;simp only [List.length_append];omega
   go_upto_if 47 with fail
   go_cut [] (fun wx=>Mid A L X w wx ⟨a0,c0,a1,c1,a2,c2,a3,c3,a4,c4,a5,c5⟩ r ((bs++headT ss i r++stepsT ps r.steps)++wLies r.lies))
   case first =>
    by_cases hz:n2=0
    ·have f0:¬ (0:Int)<n2:=by omega
     have f1:decide ((0:Int)<n2)=false:=by simp;omega
     go_wp2_with fail
     go_meet
     have e:wLies r.lies=[]:=by unfold wLies;rw [if_pos (by rw [HN2.out];exact hz)]
     rw [e,List.append_nil];exact HME.out
    ·have f0:(0:Int)<n2:=by omega
     have f1:decide ((0:Int)<n2)=true:=by simp;omega
     have HW1:=hidP (write1 A L _ ⟨#[32,108,105,101,115]⟩ wr HME.out.ls (by have q:=HBp.out;have q4:(ByteArray.mk #[32,108,105,101,115]).size=5:=rfl;omega))
     go_wp2_with (go_at_call 159;refine HW1.out.mono ?_;rintro e w7 ⟨rfl,hl7,hk7⟩)
     go_meet
     have e:wLies r.lies=[32,108,105,101,115]:=by unfold wLies;rw [if_neg (by rw [HN2.out];exact hz)]
     rw [e];exact HME.out.wrote hXL hl7 hk7
   case rest =>
    have HM4:=hidP hcut;have hcw:wc.cell? ⟨X,3,none⟩=some (.slice a1 r.lies.length c1):=HM4.out.c 3;rw [HN2.out] at hcw;have HB4:Hid (((bs++headT ss i r++stepsT ps r.steps)++wLies r.lies).length<=1000010000+7):=by
     have q:=HBp.out;have e:(wLies r.lies).length<=7:=by unfold wLies;split <;> simp
     unfold Hid;rw [List.length_append];omega
    clear hcut HME HBp
    go_wp2_with fail
    clear hcw
    go_loopw [54] (fun c wr => ∃ k:Nat,k<=n2/\c = .int .i64 k/\Hid (Mid A L X w wr ⟨a0,c0,a1,c1,a2,c2,a3,c3,a4,c4,a5,c5⟩ r ((bs++headT ss i r++stepsT ps r.steps++wLies r.lies)++liesT js (r.lies.take k)))) (fun c _=>n2-(intOf c).toNat)
    case atStart=>exact ⟨0,Nat.zero_le _,rfl,by have h:=HM4.out;unfold Hid;rw [List.take_zero];simpa [liesT] using h⟩
    case round =>
     obtain ⟨k,hk,rfl,HMr⟩:=hrel;clear HM4
     by_cases hk':k<n2
     ·have hki:(k:Int)<n2:=by omega
      have hkl:k<r.lies.length:=by rw [HN2.out];exact hk'
      obtain ⟨hNr,hRr,_⟩:=HU.out wr HMr.out.kp.bel;obtain ⟨b,o,ha,hc⟩:=hRr.lies.2.resolve_left (fun e=>by rw [e] at hkl;exact absurd hkl (Nat.not_lt_zero _))
      simp only at ha;subst ha;have cx:=hc k hkl;have HON:=hidP (liesT_on (js:=js) hkl);have HVA:=hidP (hok.out.lies _ (List.getElem_mem hkl));have HTL:Hid ((liesT js (r.lies.take k)).length<=2640):=by
       have q:=liesT_le N.out (r.lies.take k);rw [List.length_take] at q;have q2:min k r.lies.length<=120:=by have:=hok.out.n2;omega
       unfold Hid;omega
      generalize r.lies[k]=s at cx HON HVA;obtain ⟨y0,y1⟩:=cx;have HNr:=hidP hNr;clear hc hNr hRr hkl
      go_wp2_with fail
      generalize hV:World.alloc wr _=V;have hbV:Below wr.heap.size wr V:=by rw [<-hV];exact blo
      have HMV:=hidP (HMr.out.below hbV);have HTX:=hidP (lieText_any A L _ s V HMV.out.ls (HNr.out.below hbV) N HVA.out);clear hV hbV y0 y1;refine HTX.out.mono ?_;rintro e w5 ⟨⟨tx,rfl,htx⟩,hb5⟩;have HM5:=hidP (HMV.out.below hb5);have HTE:=hidP htx;have HSZ:Hid (tx.size<=21):=by have q:=lieT_le N.out s;rw [<-htx] at q;exact q
      have HW2:=hidP (write2 A L _ tx w5 HM5.out.ls (by have q1:=HB4.out;have q2:=HTL.out;have q3:=HSZ.out;simp only [List.length_append] at q1 ⊢;omega))
      clear htx hb5 HTX HMV HMr
      go_wp2_with fail
      refine HW2.out.mono ?_;rintro e w6 ⟨rfl,hl6,hk6⟩;have HM6:Hid (Mid A L X w w6 _ r ((bs++headT ss i r++stepsT ps r.steps++wLies r.lies)++liesT js (r.lies.take (k+1)))):=HM5.out.wrote hXL (by rw [HON.out,<-HTE.out,<-List.append_assoc];exact hl6) hk6
      clear hl6 hk6 HW2 HM5
      go_wp2_with fail
      go_roundw
      case rel=>exact ⟨k+1,by omega,by go_num,HM6⟩
      case measure=>simp [intOf];omega
     ·have hki:¬ (k:Int)<n2:=by omega
      have HME:Hid (Mid A L X w wr ⟨a0,c0,a1,c1,a2,c2,a3,c3,a4,c4,a5,c5⟩ r ((bs++headT ss i r++stepsT ps r.steps++wLies r.lies)++liesT js r.lies)):=by
       have h:=HMr.out;rw [List.take_of_length_le (show r.lies.length<=k by rw [HN2.out];omega)] at h
       exact h
      clear HMr;have cw:=HME.out.c 7;have hcw:wr.cell? ⟨X,7,none⟩=some (.slice a5 r.flanks.length c5):=cw;rw [HN3.out] at hcw;clear cw;have HBp:Hid ((bs++headT ss i r++stepsT ps r.steps++wLies r.lies++liesT js r.lies).length<=1000100000):=by
       have q0:=headT_le N.out r (i:=(i:Int)) (by omega) (by omega)
       have q1:=stepsT_le N.out r.steps;have q2:=liesT_le N.out r.lies;have q3:=hok.out.n1;have q4:=hok.out.n2;have e1:(wLies r.lies).length<=5:=by unfold wLies;split <;> simp
       unfold Hid;simp only [List.length_append];omega
      go_upto_if 68 with fail
      go_cut [] (fun wx=>Mid A L X w wx ⟨a0,c0,a1,c1,a2,c2,a3,c3,a4,c4,a5,c5⟩ r ((bs++headT ss i r++stepsT ps r.steps++wLies r.lies++liesT js r.lies)++wFlanks r.flanks))
      case first =>
       by_cases hz:n3=0
       ·have f0:¬ (0:Int)<n3:=by omega
        have f1:decide ((0:Int)<n3)=false:=by simp;omega
        go_wp2_with fail
        go_meet
        have e:wFlanks r.flanks=[]:=by unfold wFlanks;rw [if_pos (by rw [HN3.out];exact hz)]
        rw [e,List.append_nil];exact HME.out
       ·have f0:(0:Int)<n3:=by omega
        have f1:decide ((0:Int)<n3)=true:=by simp;omega
        have HW1:=hidP (write1 A L _ ⟨#[32,102,108,97,110,107,115]⟩ wr HME.out.ls (by have q:=HBp.out;have q4:(ByteArray.mk #[32,102,108,97,110,107,115]).size=7:=rfl;omega))
        go_wp2_with (go_at_call 159;refine HW1.out.mono ?_;rintro e w7 ⟨rfl,hl7,hk7⟩)
        go_meet
        have e:wFlanks r.flanks=[32,102,108,97,110,107,115]:=by unfold wFlanks;rw [if_neg (by rw [HN3.out];exact hz)]
        rw [e];exact HME.out.wrote hXL hl7 hk7
      case rest =>
       have HM5:=hidP hcut;have hcw:wc.cell? ⟨X,7,none⟩=some (.slice a5 r.flanks.length c5):=HM5.out.c 7;rw [HN3.out] at hcw;have HB5:Hid (((bs++headT ss i r++stepsT ps r.steps++wLies r.lies++liesT js r.lies)++wFlanks r.flanks).length<=1000100000+7):=by
        have q:=HBp.out;have e:(wFlanks r.flanks).length<=7:=by unfold wFlanks;split <;> simp
        unfold Hid;rw [List.length_append];omega
       clear hcut HME HBp
       go_wp2_with fail
       clear hcw
       go_loopw [75] (fun c wr => ∃ k:Nat,k<=n3/\c = .int .i64 k/\Hid (Mid A L X w wr ⟨a0,c0,a1,c1,a2,c2,a3,c3,a4,c4,a5,c5⟩ r ((bs++headT ss i r++stepsT ps r.steps++wLies r.lies++liesT js r.lies++wFlanks r.flanks)++flanksT js ss (r.flanks.take k)))) (fun c _=>n3-(intOf c).toNat)
       case atStart=>exact ⟨0,Nat.zero_le _,rfl,by have h:=HM5.out;unfold Hid;rw [List.take_zero];simpa [flanksT] using h⟩
       case round =>
        obtain ⟨k,hk,rfl,HMr⟩:=hrel;clear HM5
        by_cases hk':k<n3
        ·have hki:(k:Int)<n3:=by omega
         have hkl:k<r.flanks.length:=by rw [HN3.out];exact hk'
         obtain ⟨hNr,hRr,_⟩:=HU.out wr HMr.out.kp.bel;obtain ⟨b,o,ha,hc⟩:=hRr.flanks.2.resolve_left (fun e=>by rw [e] at hkl;exact absurd hkl (Nat.not_lt_zero _))
         simp only at ha;subst ha;have cx:=hc k hkl;have HON:=hidP (flanksT_on (js:=js) (ss:=ss) hkl);have HVA:=hidP (hok.out.flanks _ (List.getElem_mem hkl));have HTL:Hid ((flanksT js ss (r.flanks.take k)).length<=528000):=by
          have q:=flanksT_le N.out (r.flanks.take k);rw [List.length_take] at q;have q2:min k r.flanks.length<=24000:=by have:=hok.out.n3;omega
          unfold Hid;omega
         generalize r.flanks[k]=s at cx HON HVA;obtain ⟨y0,y1,y2,y3⟩:=cx;have HNr:=hidP hNr;clear hc hNr hRr hkl
         go_wp2_with fail
         generalize hV:World.alloc wr _=V;have hbV:Below wr.heap.size wr V:=by rw [<-hV];exact blo
         have HMV:=hidP (HMr.out.below hbV);have HTX:=hidP (flankText_any A L _ s V HMV.out.ls (HNr.out.below hbV) N HVA.out);clear hV hbV y0 y1 y2 y3;refine HTX.out.mono ?_;rintro e w5 ⟨⟨tx,rfl,htx⟩,hb5⟩;have HM5:=hidP (HMV.out.below hb5);have HTE:=hidP htx;have HSZ:Hid (tx.size<=21):=by have q:=flankT_le N.out s;rw [<-htx] at q;exact q
         have HW2:=hidP (write2 A L _ tx w5 HM5.out.ls (by have q1:=HB5.out;have q2:=HTL.out;have q3:=HSZ.out;simp only [List.length_append] at q1 ⊢;omega))
         clear htx hb5 HTX HMV HMr
         go_wp2_with fail
         refine HW2.out.mono ?_;rintro e w6 ⟨rfl,hl6,hk6⟩;have HM6:Hid (Mid A L X w w6 _ r ((bs++headT ss i r++stepsT ps r.steps++wLies r.lies++liesT js r.lies++wFlanks r.flanks)++flanksT js ss (r.flanks.take (k+1)))):=HM5.out.wrote hXL (by rw [HON.out,<-HTE.out,<-List.append_assoc];exact hl6) hk6
         clear hl6 hk6 HW2 HM5
         go_wp2_with fail
         go_roundw
         case rel=>exact ⟨k+1,by omega,by go_num,HM6⟩
         case measure=>simp [intOf];omega
        ·have hki:¬ (k:Int)<n3:=by omega
         have HME:Hid (Mid A L X w wr ⟨a0,c0,a1,c1,a2,c2,a3,c3,a4,c4,a5,c5⟩ r ((bs++headT ss i r++stepsT ps r.steps++wLies r.lies++liesT js r.lies++wFlanks r.flanks)++flanksT js ss r.flanks)):=by
          have h:=HMr.out;rw [List.take_of_length_le (show r.flanks.length<=k by rw [HN3.out];omega)] at h
          exact h
         clear HMr;have HW1:=hidP (write1 A L _ ⟨#[10]⟩ wr HME.out.ls (by have q1:=HB5.out;have q2:=flanksT_le N.out r.flanks;have q3:=hok.out.n3;have q4:(ByteArray.mk #[10]).size=1:=rfl;simp only [List.length_append] at q1 ⊢;omega))
         go_wp2_with (go_at_call 159;refine HW1.out.mono ?_;rintro e w9 ⟨rfl,hl9,hk9⟩)
         go_end0
         refine ⟨rfl,?_,HME.out.kp.trans hk9⟩;have e:bs++lineT ps js ss i r=bs++headT ss i r++stepsT ps r.steps++wLies r.lies++liesT js r.lies++wFlanks r.flanks++flanksT js ss r.flanks++[10]:=by simp only [lineT,List.append_assoc]
         rw [e];exact hl9
end
end Go.Proofs.YtmkdgnmmebldgaaGreatDoor
