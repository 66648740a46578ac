import Derived.Test.YtmkdgnmmebldgaaGreatDoorPt11
set_option maxRecDepth 100000
set_option maxHeartbeats 8000000
namespace Go.Proofs.YtmkdgnmmebldgaaGreatDoor
open Go.RowKit Go.Deep
theorem guardB_range (ss:List MPiece)(p way:Int):∀ k,k≤ss.length→guardB ss p way k = -1∨∃ (b:Nat) (hb:b<ss.length),b<k∧guardB ss p way k=b∧ss[b].len=p∧ss[b].brake=way
 | 0,_=>Or.inl rfl
 | k+1,h=>by
  have hk:k<ss.length:=by omega
  have ih:=guardB_range ss p way k (by omega)
  have ih':guardB ss p way k = -1∨∃ (b:Nat) (hb:b<ss.length),b<k+1∧guardB ss p way k=b∧ss[b].len=p∧ss[b].brake=way:=by
   rcases ih with ih | ⟨b,h1,h2,h3⟩
   ·exact Or.inl ih
   ·exact Or.inr ⟨b,h1,by omega,h3⟩
  simp only [guardB,List.getElem?_eq_getElem hk]
  split
  ·exact ih'
  ·split
   ·rename_i h1 _
    refine Or.inr ⟨k,hk,by omega,rfl,?_⟩
    constructor
    ·by_cases e:ss[k].len=p
     ·exact e
     ·exact absurd (Or.inl e) h1
    ·by_cases e:ss[k].brake=way
     ·exact e
     ·exact absurd (Or.inr e) h1
   ·exact ih'
section
variable {ss:List MPiece} {p way:Int} {k:Nat}
theorem guardB_skip (hk:k<ss.length)(h:ss[k].len≠p∨ss[k].brake≠way):guardB ss p way (k+1)=guardB ss p way k:=by
 simp only [guardB,List.getElem?_eq_getElem hk,if_pos h]
theorem guardB_take (hk:k<ss.length)(h:¬ (ss[k].len≠p∨ss[k].brake≠way))(h2:guardB ss p way k<0∨0<(ss[k].speed-sigAt ss (guardB ss p way k))*way):guardB ss p way (k+1)=k:=by
 simp only [guardB,List.getElem?_eq_getElem hk,if_neg h,if_pos h2]
theorem guardB_leave (hk:k<ss.length)(h:¬ (ss[k].len≠p∨ss[k].brake≠way))(h2:¬ (guardB ss p way k<0∨0<(ss[k].speed-sigAt ss (guardB ss p way k))*way)):guardB ss p way (k+1)=guardB ss p way k:=by
 simp only [guardB,List.getElem?_eq_getElem hk,if_neg h,if_neg h2]
theorem farI_gt {ps:List MPiece}{q:Int}(h:way=1∨way = -1){a b:Int}:farI ps q b way<farI ps q a way↔0<(a-b)*way:=by
 unfold farI
 rcases h with rfl | rfl
 ·first | (simp;done) | (simp;omega)
 ·first | (simp;done) | (simp;omega)
end
theorem nats_few:∀ (m:Nat){L:List Nat},L.Nodup→(∀ x ∈ L,x<m)→L.length≤m
 | 0,L,_,h=>by
  cases L with
  | nil=>exact Nat.le_refl _
  | cons a r=>exact absurd (h a (by simp)) (Nat.not_lt_zero _)
 | m+1,L,hd,h=>by
  by_cases hm:m ∈ L
  ·have h1:=nats_few m (hd.erase m) (fun x hx=>by
    have:=(hd.mem_erase_iff).1 hx
    have:=h x this.2
    omega)
   rw [List.length_erase_of_mem hm] at h1
   omega
  ·have:=nats_few m hd (fun x hx=>by
    have:=h x hx
    have:x≠m:=fun e=>hm (e ▸ hx)
    omega)
   omega
def Seen (ps:List MPiece)(L:List MEnd):Prop:=L.Nodup∧∀ e ∈ L,ValidE ps e
theorem Seen.few {ps:List MPiece}{L:List MEnd}(h:Seen ps L):L.length≤2*ps.length:=by
 have h1:(L.map (fun e=>2*e.piece.toNat+e.side.toNat)).Nodup:=by
  unfold List.Nodup
  rw [List.pairwise_map]
  refine List.Pairwise.imp_of_mem ?_ h.1
  intro a b ha hb hne e
  obtain ⟨p,hp,ea,sa⟩:=h.2 a ha
  obtain ⟨q,hq,eb,sb⟩:=h.2 b hb
  refine hne ?_
  cases a
  cases b
  simp only [MEnd.mk.injEq] at *
  subst ea eb
  simp only [Int.toNat_natCast] at e
  rcases sa with rfl | rfl <;> rcases sb with rfl | rfl <;> simp at e ⊢ <;> omega
 have:=nats_few (2*ps.length) h1 (fun x hx=>by
  obtain ⟨e,he,rfl⟩:=List.mem_map.1 hx
  obtain ⟨p,hp,ea,sa⟩:=h.2 e he
  rw [ea]
  rcases sa with sa | sa <;> rw [sa] <;> simp <;> omega)
 simpa using this
theorem Seen.nil (ps:List MPiece):Seen ps []:=⟨List.nodup_nil,fun e he=>absurd he (by simp)⟩
theorem Seen.push {ps:List MPiece}{L:List MEnd}{e:MEnd}(h:Seen ps L)(hv:ValidE ps e)(hn:¬ L.any (fun x=>sameE x e)=true):Seen ps (L++[e]):=by
 refine ⟨?_,?_⟩
 ·unfold List.Nodup
  rw [List.pairwise_append]
  refine ⟨h.1,List.pairwise_singleton _ _,?_⟩
  intro a ha b hb
  have:b=e:=by simpa using hb
  subst this
  rintro rfl
  exact hn (List.any_eq_true.2 ⟨a,ha,sameE_iff.2 rfl⟩)
 ·intro x hx
  rcases List.mem_append.1 hx with hx | hx
  ·exact h.2 x hx
  ·have:x=e:=by simpa using hx
   subst this
   exact hv
theorem beyond_lt {kind:Int}{k t n:Nat}(hn:(n:Int)=kind)(hk:k<n)(ht:t ∈ beyondF kind k):t<n:=by
 unfold beyondF at ht
 split at ht
 ·have:t=1-k:=by simpa using ht
  omega
 ·split at ht
  ·split at ht
   ·have:t=1∨t=2:=by simpa using ht
    omega
   ·have:t=0:=by simpa using ht
    omega
  ·split at ht
   ·have:t=if k=0 then 1 else if k=1 then 0 else if k=2 then 3 else 2:=by simpa using ht
    subst this
    split
    ·omega
    ·split
     ·omega
     ·split <;> omega
   ·exact absurd ht (by simp)
def Grew (ps:List MPiece)(a b:List MEnd × List MFlank):Prop:=Seen ps b.1∧a.1.length≤b.1.length∧b.2.length+a.1.length≤a.2.length+b.1.length
theorem Grew.refl {ps:List MPiece}{a:List MEnd × List MFlank}(h:Seen ps a.1):Grew ps a a:=⟨h,Nat.le_refl _,Nat.le_refl _⟩
theorem Grew.trans {ps:List MPiece}{a b c:List MEnd × List MFlank}(h:Grew ps a b)(k:Grew ps b c):Grew ps a c:=
 ⟨k.1,Nat.le_trans h.2.1 k.2.1,by have:=h.2.2;have:=k.2.2;have:=h.2.1;have:=k.2.1;omega⟩
theorem Grew.fold {ps:List MPiece}{f:List MEnd × List MFlank→Nat→List MEnd × List MFlank}:∀ (L:List Nat) {a:List MEnd × List MFlank},Seen ps a.1→(∀ t ∈ L,∀ s,Seen ps s.1→Grew ps s (f s t))→Grew ps a (L.foldl f a)
 | [],_,ha,_=>Grew.refl ha
 | t::r,a,ha,h=>by
  have h1:=h t (by simp) a ha
  exact h1.trans (Grew.fold r h1.1 (fun t' ht s hs=>h t' (by simp [ht]) s hs))
theorem Right.across {ps:List MPiece}{js:List MJoint}{ss:List MPiece}(R:Right ps js ss){e:MEnd}(he:ValidE ps e){t:Nat}(ht:t ∈ beyondF (kindE js (spotE js e).1) (spotE js e).2):ValidE ps (endE js (spotE js e).1 t):=by
 obtain ⟨j,k,h1,h2⟩:=R.spot he
 rw [h2] at ht ⊢
 obtain ⟨_,hj,hk,_⟩:=spotF_some h1
 simp only [Nat.sub_zero] at hj hk
 rw [kindE_at hj] at ht
 have hl:=beyond_lt (R.kind j hj).2.2 hk ht
 rw [endE_at hj hl]
 exact R.ends j hj t hl
theorem look_grew {ps:List MPiece}{js:List MJoint}{ss:List MPiece}(R:Right ps js ss)(lies:List MLie)(pl:Int):∀ (n:Nat) (st:List MEnd × List MFlank) (e:MEnd),Seen ps st.1→ValidE ps e→Grew ps st (lookF js ss lies pl n st e)
 | 0,st,e,h,_=>Grew.refl h
 | n+1,st,e,h,hv=>by
  simp only [lookF]
  generalize (if e.side=0 then (-1:Int) else 1)=wy
  split
  ·exact Grew.refl h
  ·rename_i hn
   have h1:=h.push hv hn
   have hg:∀ x:MFlank,Grew ps st (st.1++[e],st.2++[x]):=fun x=>⟨h1,by simp,by simp;omega⟩
   split
   ·exact hg _
   ·split
    ·exact hg _
    ·split
     ·exact hg _
     ·refine Grew.trans (b:=(st.1++[e],st.2)) ⟨h1,by simp,by simp⟩ ?_
      exact Grew.fold (a:=(st.1++[e],st.2)) _ h1 (fun t ht s hs=>look_grew R lies pl n s _ hs (R.across (farE_valid hv) ht))
end Go.Proofs.YtmkdgnmmebldgaaGreatDoor
