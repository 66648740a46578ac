import Derived.Test.YtmkdgnmmebldgaaGreatDoorPk5
import Derived.RegionTactic
import Derived.Deep.RegionWith
import Derived.Deep.QuietTactic
import Derived.BigQuiet
set_option maxRecDepth 100000
set_option maxHeartbeats 8000000
open Go.Proofs.Tryz
namespace Go.Proofs.YtmkdgnmmebldgaaGreatDoor
open Go.RowKit
theorem pL (pa ja:Option Addr)(pl pc jc:Nat)(js:List aj)(p s:Int)(w:World)(hj:Hid (aP w ja js))(hn:gN js<=1000000):
  Calls prog 70 #[.agg #[.slice pa pl pc,.slice ja js.length jc],.agg #[.int .i64 p,.int .i64 s]] w fun e w'=>e = .returned (.int .i64 (uses js p s))/\Cx w w':=by
 have hl:=hj.out.1;unfold maxLen at hl;have HU:Hid (∀ k,uses (js.take k) p s<=1000000):=fun k=>Nat.le_trans (BG js p s k) hn
 clear hn
 go_enter func70,ntmps70
 go_wp2_with fail
 generalize hW:(w.alloc (Obj.cells #[Value.slice pa pl pc,Value.slice ja js.length jc] 26)).alloc (Obj.cells #[Value.int IntKind.i64 p,Value.int IntKind.i64 s] 114)=W;have e0:W.cell? ⟨w.heap.size+1,0,none⟩=some (.int .i64 p):=by rw [<-hW];simp [go_sem]
 have e1:W.cell? ⟨w.heap.size+1,1,none⟩=some (.int .i64 s):=by rw [<-hW];simp [go_sem]
 have hz:w.heap.size+2=W.heap.size:=by rw [<-hW];simp
 have f:Cx w W:=by rw [<-hW];exact blo
 clear hW
 go_loopw [5,13] (fun c i wr => ∃ (k:Nat),k<=js.length/\i = .int .i64 k/\c = .int .i64 (uses (js.take k) p s)/\Cx W wr) (fun _ i _=>js.length-(intOf i).toNat)
 case atStart=>exact ⟨0,Nat.zero_le _,rfl,rfl,blo⟩
 case round =>
  obtain ⟨k,hk,rfl,rfl,hb⟩:=hrel
  by_cases g:k<js.length
  ·obtain ⟨b1,o,rfl,a⟩:=hj.out.2.2.resolve_left (nz g);obtain ⟨c1,c2,ea,ec,c3,c4⟩:=(a.below f) k g;have C4:=aC c4;replace c1:=cell_later hb c1;replace c2:=cell_later hb c2;replace c3:=cell_later hb c3;have q:=c4.1;unfold maxLen at q;clear a c4;have j:=hb.size;have v:=HU.out k;have x:=HU.out (k+1);have n:Hid (uses (js.take (k+1)) p s=uses (js.take k) p s+bX js[k].ends p s):=zR js p s k g;have y:bX js[k].ends p s<=1000000:=by have:=n.out;omega
   have HM:Hid (∀ m,bX (js[k].ends.take m) p s<=bX js[k].ends p s):=fun m=>(List.take_sublist m js[k].ends).countP_le
   go_wp2_with fail
   go_loopw [5,20] (fun c i r => ∃ (m:Nat),m<=js[k].ends.length/\i = .int .i64 m/\c = .int .i64 ((uses (js.take k) p s:Int)+(bX (js[k].ends.take m) p s:Int))/\Cx W r) (fun _ i _=>js[k].ends.length-(intOf i).toNat)
   case atStart=>exact ⟨0,Nat.zero_le _,rfl,(congrArg (Value.int IntKind.i64) (Int.add_zero _)).symm,blo⟩
   case round =>
    clear c1 c2 c3 hb j;obtain ⟨m,hm,rfl,rfl,hb⟩:=hrel;have j:=hb.size;have z:=HM.out m
    by_cases h:m<js[k].ends.length
    ·obtain ⟨b2,t,rfl,b⟩:=C4.out.2.resolve_left (nz h);obtain ⟨d1,d2⟩:=(b.below hb) m h;have A:w.heap.size+1<_:=Nat.lt_of_lt_of_le (by omega:w.heap.size+1<W.heap.size) hb.size
     have f0:=cell_later hb e0;have f1:=cell_later hb e1;clear b;have HS:Hid (bX (js[k].ends.take (m+1)) p s=bX (js[k].ends.take m) p s+if (js[k].ends[m].CB==p&&js[k].ends[m].side==s)=true then 1 else 0):=uN _ p s m h
     cases h1:(js[k].ends[m].CB==p) <;> cases h2:(js[k].ends[m].side==s)
     all_goals
      have d:=HS.out;rw [h1,h2] at d;simp at d;have u:=aC d;clear HS d
      go_wp2_with fail
      go_roundw
      case rel=>exact ⟨m+1,CG,by go_num,by rw [u.out] <;> go_num,blo⟩
      case measure=>simp [intOf];omega
    ·have HX:Hid ((uses (js.take k) p s:Int)+(bX (js[k].ends.take m) p s:Int)=(uses (js.take (k+1)) p s:Int)):=by
      have:=n.out;rw [List.take_of_length_le (l:=js[k].ends) CG]
      unfold Hid;omega
     go_wp2_with fail
     go_roundw
     case rel=>exact ⟨k+1,CG,by go_num,by rw [HX.out],hb⟩
     case measure=>simp [intOf];omega
  ·have HX:Hid (js.take k=js):=List.take_of_length_le CG
   go_wp2_with fail
   go_ret
   exact ⟨bB (by rw [HX.out]),f.trans (hb.mono f.size)⟩
theorem ow (pa ja:Option Addr)(pl pc jc:Nat)(js:List aj)(i:Nat)(hi:i<js.length)(w:World)(hj:Hid (aP w ja js))(hpl:pl<=maxLen):
  Calls prog 69 #[.agg #[.slice pa pl pc,.slice ja js.length jc],.int .i64 i] w fun e w'=>e = .returned (.int .i64 (cX js pl i js[i]))/\Cx w w':=by
 have hl:=hj.out.1;unfold maxLen at hl;obtain ⟨b1,f,rfl,b⟩:=hj.out.2.2.resolve_left (nz hi);have E:=aC b;have HN:=aC hj.out.2.1;clear hj;obtain ⟨c1,c2,ea,ec,c3,c4⟩:=b i hi;have C4:=aC c4;have F:=c4.1;unfold maxLen at F;have L:b1<w.heap.size:=ai c1;clear b c4;cases hk:inB js[i].kind 1 4
 ·have HX:=aC (yC (js:=js) (np:=pl) (i:=i) hk)
  go_enter func69,ntmps69
  go_wp2_with (go_at_call 34;refine (dq _ _ _ _).mono ?_;rintro e w' ⟨rfl,rfl⟩)
  go_ret
  exact ⟨bB HX.out.symm,blo⟩
 ·cases j:((js[i].ends.length:Int)==js[i].kind)
  ·have HX:=aC (zv (js:=js) (np:=pl) (i:=i) j)
   go_enter func69,ntmps69
   go_wp2_with (go_at_call 34;refine (dq _ _ _ _).mono ?_;rintro e w' ⟨rfl,rfl⟩)
   go_ret
   exact ⟨bB HX.out.symm,blo⟩
  ·go_enter func69,ntmps69
   go_wp2_with (go_at_call 34;refine (dq _ _ _ _).mono ?_;rintro e w' ⟨rfl,rfl⟩)
   have HK:=aC hk;have G:=aC j;have t:((js[i].ends.length:Int) != js[i].kind)=false:=by rw [bne,j];rfl
   simp only [t];clear hk j t;generalize hW:(w.alloc (Obj.cells #[Value.slice pa pl pc,Value.slice (some ⟨b1,f,none⟩) js.length jc] 26)).alloc (Obj.cells #[Value.int IntKind.i64 js[i].kind,Value.string js[i].name,Value.slice ea js[i].ends.length ec] 109)=W;have e0:W.cell? ⟨w.heap.size,0,none⟩=some (.slice pa pl pc):=by rw [<-hW];simp [go_sem]
   have e1:W.cell? ⟨w.heap.size,1,none⟩=some (.slice (some ⟨b1,f,none⟩) js.length jc):=by rw [<-hW];simp [go_sem]
   have g0:W.cell? ⟨w.heap.size+1,0,none⟩=some (.int .i64 js[i].kind):=by rw [<-hW];simp [go_sem]
   have g1:W.cell? ⟨w.heap.size+1,1,none⟩=some (.string js[i].name):=by rw [<-hW];simp [go_sem]
   have g2:W.cell? ⟨w.heap.size+1,2,none⟩=some (.slice ea js[i].ends.length ec):=by rw [<-hW];simp [go_sem]
   have hz:w.heap.size+2=W.heap.size:=by rw [<-hW];simp
   have a:Cx w W:=by rw [<-hW];exact blo
   clear hW c1 c2 c3
   go_loopw [29] (fun c wr => ∃ (m:Nat),m<=js[i].ends.length/\c = .int .i64 m/\Hid (∀ q (hq:q<js[i].ends.length),q<m->cV pl js[i].ends[q].CB js[i].ends[q].side=true)/\Cx W wr) (fun c _=>js[i].ends.length-(intOf c).toNat)
   case atStart=>exact ⟨0,Nat.zero_le _,rfl,(fun q _ h=>absurd h (Nat.not_lt_zero q)),blo⟩
   case round =>
    obtain ⟨m,hm,rfl,HQ,hb⟩:=hrel;have u:=hb.size;have v:w.heap.size+1<wr.heap.size:=CG
    have x:w.heap.size<wr.heap.size:=CG
    have y:=cell_later hb e0;have n:=cell_later hb e1;have z:=cell_later hb g0;have k:=cell_later hb g1
    by_cases o:m<js[i].ends.length
    ·obtain ⟨b2,H,rfl,g⟩:=C4.out.2.resolve_left (nz o);obtain ⟨d1,d2⟩:=((g.below a).below hb) m o;clear g
     go_wp2_with fail
     refine (yI _ _ _ _ _ _ _ _ _ hpl).mono ?_;rintro e w2 ⟨rfl,A⟩;have B:Cx W w2:=Below.trans blo (A.mono CN)
     clear A d1 d2 y n z k hb;cases hE:cV pl js[i].ends[m].CB js[i].ends[m].side
     ·have HX:=aC (zr (js:=js) (np:=pl) (i:=i) m o hE);clear hE
      go_wp2_with fail
      go_ret
      exact ⟨bB HX.out.symm,a.trans (B.mono a.size)⟩
     ·have p:Hid (∀ q (hq:q<js[i].ends.length),q<m+1->cV pl js[i].ends[q].CB js[i].ends[q].side=true):=by
       intro q hq M
       by_cases e:q<m
       ·exact HQ.out q hq e
       ·have:q=m:=CG
        subst this;exact hE
      clear hE HQ
      go_wp2_with fail
      go_roundw
      case rel=>exact ⟨m+1,CG,by go_num,p,B⟩
      case measure=>simp [intOf];omega
    ·have H3:Hid (ok3 pl js[i]=true):=ng HK.out G.out (fun q hq=>HQ.out q hq CG)
     clear HQ;have d:=aC (a.trans (hb.mono a.size));have HB:=aC hb
     by_cases l:js[i].kind<3
     ·by_cases hne:js[i].name=⟨#[]⟩
      ·have HX:=aC (zK (js:=js) (i:=i) H3.out l hne);rw [hne] at k;clear hne
       go_wp2_with fail
       go_ret
       exact ⟨bB HX.out.symm,d.out⟩
      ·have HX:=aC (zd (js:=js) (i:=i) H3.out l hne);have r:=nE hne
       go_wp2_with fail
       go_ret
       exact ⟨bB HX.out.symm,d.out⟩
     ·have C:=aC l;cases s:cr js[i].name
      ·have HX:=aC (yF (js:=js) (i:=i) H3.out l s)
       go_wp2_with (go_at_call 62;refine (eG _ _ (HN.out _ (List.getElem_mem hi))).mono ?_;rintro e w' ⟨rfl,rfl⟩)
       go_ret
       exact ⟨bB HX.out.symm,d.out⟩
      ·go_wp2_with (go_at_call 62;refine (eG _ _ (HN.out _ (List.getElem_mem hi))).mono ?_;rintro e w' ⟨rfl,rfl⟩)
       have I:=aC s;clear s;clear hb
       go_loopw [8] (fun c wr => ∃ (q:Nat),q<=i/\c = .int .i64 q/\Hid (∀ m (hm:m<js.length),m<q->js[m].name≠js[i].name)/\Cx W wr) (fun c _=>i-(intOf c).toNat)
       case atStart=>exact ⟨0,Nat.zero_le _,rfl,(fun q _ h=>absurd h (Nat.not_lt_zero q)),HB.out⟩
       case round =>
        clear y n z k d u v x;obtain ⟨q,hq,rfl,HQ,hb⟩:=hrel;have u:=hb.size;have v:w.heap.size+1<wr.heap.size:=CG
        have x:w.heap.size<wr.heap.size:=CG
        have n:=cell_later hb e1;have k:=cell_later hb g1;have d:=aC (a.trans (hb.mono a.size))
        by_cases J:q<i
        ·have D:q<js.length:=CG
         obtain ⟨x1,c2,x2⟩:=((E.out.below a).below hb) q D;clear x1 x2
         by_cases hne:js[q].name=js[i].name
         ·have HX:=aC (zn (js:=js) (i:=i) H3.out (by have:=C.out;omega) (xS J D hne))
          rw [hne] at c2;clear hne
          go_wp2_with fail
          go_quiet (fail)
          go_wp2_with fail
          go_ret
          exact ⟨bB HX.out.symm,(by have:=d.out;exact blo)⟩
         ·have p:Hid (∀ m (hm:m<js.length),m<q+1->js[m].name≠js[i].name):=by
           intro m hm N
           by_cases e:m<q
           ·exact HQ.out m hm e
           ·have:m=q:=CG
            subst this;exact hne
          have r:=nX hne;clear hne HQ
          go_wp2_with fail
          go_quiet (fail)
          go_wp2_with fail
          go_roundw
          case rel=>exact ⟨q+1,CG,by go_num,p,blo⟩
          case measure=>simp [intOf];omega
        ·have HX:=aC (yP (js:=js) (i:=i) H3.out (by have:=C.out;omega) I.out (uA (fun m hm O=>HQ.out m hm CG)))
         go_wp2_with fail
         go_ret
         exact ⟨bB HX.out.symm,d.out⟩
end Go.Proofs.YtmkdgnmmebldgaaGreatDoor
