import Derived.Test.YtmkdgnmmebldgaaGreatDoorProg
import Derived.WalkKit
import Derived.WalkSpells
import Derived.WalkLawsBesides
import Derived.Deep.OwnRows
set_option maxRecDepth 100000
set_option maxHeartbeats 8000000
open Go.Proofs.Tryz
namespace Go.Proofs.YtmkdgnmmebldgaaGreatDoor
open Go.RowKit
variable {a br l sp x:Int}{b off:Nat}{s:ByteArray}{w w':World}
theorem CG{p:Prop}(h:p:=by omega):p:=h
theorem CH{p:Prop}(h:p:=by kernel_rfl):p:=h
theorem CI{p:Prop}(h:p:=by simp):p:=h
theorem CJ{p:Prop}(h:p:=by decide):p:=h
theorem CK{p:Prop}(h:p:=by unfold maxLen;omega):p:=h
theorem CL{p:Prop}(h:p:=by simp [Value.oneCell']):p:=h
theorem CM{p:Prop}(h:p:=by simp only [];omega):p:=h
theorem CN{p:Prop}(h:p:=by simp;omega):p:=h
theorem CO{p:Prop}(h:p:=by simp [go_sem]):p:=h
theorem CP{p:Prop}(h:p:=by first | (simp;done) | (simp;omega)):p:=h
theorem CQ{p:Prop}(h:p:=by first | omega | (simp;done) | (simp;omega)):p:=h
theorem CR{p:Prop}(h:p:=by simp only [ne_eq];omega):p:=h
theorem CS{p:Prop}(h:p:=by simp only [List.length_append,List.length_cons,List.length_nil];omega):p:=h
theorem CT{p:Prop}(h:p:=by first | exact Or.inr rfl | (left;omega) | (right;simp)):p:=h
theorem CU{o:Obj}:Below w.heap.size w (w.alloc o):=(Below.refl _ _).alloc (Nat.le_refl _) _
theorem CV:Below b w w:=Below.refl _ _
theorem CW:b<=b:=Nat.le_refl _
abbrev Cx (w u:World):Prop:=Below w.heap.size w u
theorem bB {k:IntKind}{b:Int}(h:a=b):Ending.returned (.int k a) = .returned (.int k b):=by rw [h]
theorem aK {a b:Bool}(h:a=b):Ending.returned (.bool a) = .returned (.bool b):=by rw [h]
theorem bZ {B:Nat}{a:World}(h:Below B a w)(n:Nat):Below B a (w.drewN n):=h.trans ⟨rfl,rfl,rfl,Nat.le_refl _,fun _ _=>rfl⟩
theorem blo {B:Nat}{a:World}(h:Below B a w:=by repeat (first | exact Below.refl _ _ | assumption | refine Below.drew ?_ | refine bZ ?_ _ | refine Below.setCell ?_ CQ _ | refine Below.alloc ?_ CQ _)):Below B a w:=h
theorem nX {a b:ByteArray}(h:a≠b):(a.toList==b.toList)=false:=by
 rw [ByteArray.toList_eq,ByteArray.toList_eq,beq_eq_false_iff_ne];intro e;apply h;obtain ⟨⟨x⟩⟩:=a;obtain ⟨⟨y⟩⟩:=b;simp at e;rw [e]
theorem nE {a:ByteArray}(h:a≠⟨#[]⟩):a.toList.isEmpty=false:=by
 rw [ByteArray.toList_eq];obtain ⟨⟨x⟩⟩:=a;cases x with
 | nil=>exact absurd rfl h
 | cons c r=>rfl
def inB (x a b:Int):Bool:=decide (a<=x/\x<=b)
theorem qi {b:Int}(h1:a<=x)(h2:x<=b):inB x a b=true:=by simp [inB,h1,h2]
theorem qp {b:Int}(h1:¬ a<=x):inB x a b=false:=by simp [inB,h1]
theorem pP {b:Int}(h2:¬ x<=b):inB x a b=false:=by simp [inB,h2]
theorem bU (x a b:Int)(w:World):
  Calls prog 80 #[.int .i64 x,.int .i64 a,.int .i64 b] w fun e w'=>e = .returned (.bool (inB x a b))/\w'=w:=by
 by_cases h1:a<=x
 ·by_cases h2:x<=b
  ·rw [qi h1 h2]
   go_enter func80,ntmps80
   go_wp2
   go_ret
   exact ⟨rfl,rfl⟩
  ·rw [pP h2]
   go_enter func80,ntmps80
   go_wp2
   go_ret
   exact ⟨rfl,rfl⟩
 ·rw [qp h1]
  go_enter func80,ntmps80
  go_wp2
  go_ret
  exact ⟨rfl,rfl⟩
theorem dq (x a b:Int)(w:World):
  Calls prog 34 #[.int .i64 x,.int .i64 a,.int .i64 b] w fun e w'=>e = .returned (.bool (inB x a b))/\w'=w:=by
 by_cases h1:a<=x
 ·by_cases h2:x<=b
  ·rw [qi h1 h2]
   go_enter func34,ntmps34
   go_wp2
   go_ret
   exact ⟨rfl,rfl⟩
  ·rw [pP h2]
   go_enter func34,ntmps34
   go_wp2
   go_ret
   exact ⟨rfl,rfl⟩
 ·rw [qp h1]
  go_enter func34,ntmps34
  go_wp2
  go_ret
  exact ⟨rfl,rfl⟩
def fN (n:Int):Bool:=decide (97<=n/\n<=122\/48<=n/\n<=57\/n=95)
theorem m7 (n:Int)(w:World):
  Calls prog 165 #[.int .u8 n] w fun e w'=>e = .returned (.bool (fN n))/\w'=w:=by
 go_enter func165,ntmps165
 go_wp2
 all_goals
  go_ret
  refine ⟨aK ?_,rfl⟩;unfold fN
  first | (symm;simp;omega) | (symm;rw [decide_eq_false_iff_not];omega) | (rw [Bool.eq_iff_iff];simp;omega)
def dU (s:ByteArray)(k:Nat):Bool:=(s.data.toList.take k).all fun c=>fN (c.toNat:Int)
def cr (s:ByteArray):Bool:=decide (1<=s.size/\s.size<=20)&&dU s s.size
theorem oV (s:ByteArray)(k:Nat)(h:k<s.size):dU s (k+1)=(dU s k&&fN (s[k].toNat:Int)):=by
 unfold dU;rw [List.take_succ_eq_append_getElem (by simpa using h)]
 simp;rfl
theorem tR (s:ByteArray)(k:Nat)(h:k<s.size)(h1:fN (s[k].toNat:Int)=false):dU s s.size=false:=by
 unfold dU;rw [List.take_of_length_le CI,List.all_eq_false]
 refine ⟨s[k],?_,by simp [h1]⟩
 exact List.getElem_mem (l:=s.data.toList) (by simpa using h)
theorem nz {α:Type}{xs:List α}{k:Nat}(h:k<xs.length):¬xs=[]:=fun e=>by rw [e] at h;exact absurd h (Nat.not_lt_zero _)
theorem mn (h:¬ (1<=s.size/\s.size<=20)):cr s=false:=by simp [cr,h]
theorem oT (h:1<=s.size/\s.size<=20)(h2:dU s s.size=true):cr s=true:=by simp [cr,h,h2]
theorem mj (k:Nat)(h:k<s.size)(h1:fN (s[k].toNat:Int)=false):cr s=false:=by
 simp [cr,tR s k h h1]
theorem xG (c:Int):fN c=true/\(97<=c/\c<=122\/¬ 97<=c/\48<=c/\c<=57\/¬ 97<=c/\48<=c/\¬ c<=57/\(c==95)=true) \/
  fN c=false/\(c==95)=false/\(¬ c<=122/\decide (c<=57)=false\/¬ 97<=c/\¬ c<=57\/¬ 48<=c):=by
 unfold fN;simp only [decide_eq_true_eq,decide_eq_false_iff_not,beq_iff_eq,beq_eq_false_iff_ne];omega
theorem oU (s:ByteArray):dU s 0=true:=by simp [dU]
theorem eG (s:ByteArray)(w:World)(hs:s.size<=maxLen):
  Calls prog 62 #[.string s] w fun e w'=>e = .returned (.bool (cr s))/\w'=w:=by
 unfold maxLen at hs
 go_enter func62,ntmps62
 go_wp2
 go_loop [3] (fun i => ∃ k:Nat,k<=s.size/\i = .int .i64 k/\Hid (dU s k=true)) (fun i=>s.size-(intOf i).toNat)
 case atStart=>exact ⟨0,Nat.zero_le _,rfl,oU s⟩
 case round =>
  obtain ⟨k,hk,rfl,hn⟩:=hrel
  by_cases b:k<s.size
  ·have HS:Hid (dU s (k+1)=(dU s k&&fN (s[k].toNat:Int))):=oV s k b;have HF:Hid (fN (s[k].toNat:Int)=false->cr s=false):=mj k b;have a:fN (s[k].toNat:Int)=true/\(97<=(s[k].toNat:Int)/\(s[k].toNat:Int)<=122\/¬ 97<=(s[k].toNat:Int)/\48<=(s[k].toNat:Int)/\(s[k].toNat:Int)<=57\/¬ 97<=(s[k].toNat:Int)/\48<=(s[k].toNat:Int)/\¬ (s[k].toNat:Int)<=57/\((s[k].toNat:Int)==95)=true) \/
     fN (s[k].toNat:Int)=false/\((s[k].toNat:Int)==95)=false/\(¬ (s[k].toNat:Int)<=122/\decide ((s[k].toNat:Int)<=57)=false\/¬ 97<=(s[k].toNat:Int)/\¬ (s[k].toNat:Int)<=57\/¬ 48<=(s[k].toNat:Int)):=xG _
   rcases a with ⟨hT,a⟩ | ⟨hT,f,a⟩
   ·have HT:Hid (dU s (k+1)=true):=by
     have h1:=HS.out;rw [hn.out,hT] at h1;exact h1
    clear hT HS HF hn;rcases a with a | a | a
    all_goals
     go_wp2
     go_round
     case rel=>exact ⟨k+1,CG,by go_num,HT⟩
     case measure=>simp [intOf];omega
   ·have HB:Hid (cr s=false):=HF.out hT;clear hT HS HF hn;rcases a with a | a | a
    all_goals
     go_wp2
     go_ret
     exact ⟨aK HB.out.symm,rfl⟩
  ·have c:k=s.size:=CG
   have HN:Hid (dU s s.size=true):=c ▸ hn;clear hn c
   by_cases d:1<=s.size/\s.size<=20
   ·have HB:Hid (cr s=true):=oT d HN.out
    go_wp2
    go_ret
    exact ⟨aK (by rw [HB.out];simp;omega),rfl⟩
   ·have HB:Hid (cr s=false):=mn d
    go_wp2
    all_goals
     go_ret
     exact ⟨aK (by rw [HB.out];try simp;try omega),rfl⟩
theorem dx (s:ByteArray)(w:World)(hs:s.size<=maxLen):
  Calls prog 129 #[.string s] w fun e w'=>e = .returned (.bool (cr s))/\w'=w:=by
 unfold maxLen at hs
 by_cases a:1<=s.size/\s.size<=20
 ·have d:inB (s.size:Int) 1 20=true:=qi CG CG
  go_enter func129,ntmps129
  go_wp2_with (go_at_call 80;refine (bU _ _ _ _).mono ?_;rintro e w' ⟨rfl,rfl⟩)
  go_loop [3,10] (fun _ i => ∃ k:Nat,k<=s.size/\i = .int .i64 k/\Hid (dU s k=true)) (fun _ i=>s.size-(intOf i).toNat)
  case atStart=>exact ⟨0,Nat.zero_le _,rfl,oU s⟩
  case round =>
   obtain ⟨k,hk,rfl,hn⟩:=hrel
   by_cases b:k<s.size
   ·have HS:Hid (dU s (k+1)=(dU s k&&fN (s[k].toNat:Int))):=oV s k b;have HF:Hid (fN (s[k].toNat:Int)=false->cr s=false):=mj k b;cases hT:fN (s[k].toNat:Int)
    ·have HB:Hid (cr s=false):=HF.out hT;clear HS HF hn
     go_wp2_with (go_at_call 165;refine (m7 _ _).mono ?_;rintro e w' ⟨rfl,rfl⟩)
     go_ret
     exact ⟨aK HB.out.symm,rfl⟩
    ·have HT:Hid (dU s (k+1)=true):=by
      have h1:=HS.out;rw [hn.out,hT] at h1;exact h1
     clear HS HF hn
     go_wp2_with (go_at_call 165;refine (m7 _ _).mono ?_;rintro e w' ⟨rfl,rfl⟩)
     go_round
     case rel=>exact ⟨k+1,CG,by go_num,HT⟩
     case measure=>simp [intOf];omega
   ·have c:k=s.size:=CG
    have HN:Hid (dU s s.size=true):=c ▸ hn;clear hn c;have HB:Hid (cr s=true):=oT a HN.out
    go_wp2
    go_ret
    exact ⟨aK HB.out.symm,rfl⟩
 ·have d:inB (s.size:Int) 1 20=false:=by unfold inB;simp;omega
  have HB:Hid (cr s=false):=mn a
  go_enter func129,ntmps129
  go_wp2_with (go_at_call 80;refine (bU _ _ _ _).mono ?_;rintro e w' ⟨rfl,rfl⟩)
  go_ret
  exact ⟨aK HB.out.symm,rfl⟩
def cM (s:ByteArray)(l sp br:Int):Bool:=cr s&&inB l 1 10000000&&inB sp 1 10000&&inB br 1 1000
theorem Ag (h:cr s=false):cM s l sp br=false:=by simp [cM,h]
theorem AT (h:inB l 1 10000000=false):cM s l sp br=false:=by simp [cM,h]
theorem Ab (h:inB sp 1 10000=false):cM s l sp br=false:=by simp [cM,h]
theorem As (h:inB br 1 1000=false):cM s l sp br=false:=by simp [cM,h]
theorem AI (h1:cr s=true)(h2:inB l 1 10000000=true)(h3:inB sp 1 10000=true)(h4:inB br 1 1000=true):cM s l sp br=true:=by simp [cM,h1,h2,h3,h4]
theorem uz (s:ByteArray)(l sp br:Int)(w:World)(hs:s.size<=maxLen):
  Calls prog 104 #[.agg #[.string s,.int .i64 l,.int .i64 sp,.int .i64 br]] w fun e w'=>e = .returned (.bool (cM s l sp br))/\Cx w w':=by
 cases h1:cr s
 ·have HB:Hid (cM s l sp br=false):=Ag h1
  go_enter func104,ntmps104
  go_wp2_with (first | (go_at_call 129;refine (dx _ _ hs).mono ?_;rintro e w' ⟨rfl,rfl⟩) | (go_at_call 80;refine (bU _ _ _ _).mono ?_;rintro e w' ⟨rfl,rfl⟩))
  go_ret
  exact ⟨aK HB.out.symm,CV.alloc CW _⟩
 ·cases h2:inB l 1 10000000
  ·have HB:Hid (cM s l sp br=false):=AT h2
   go_enter func104,ntmps104
   go_wp2_with (first | (go_at_call 129;refine (dx _ _ hs).mono ?_;rintro e w' ⟨rfl,rfl⟩) | (go_at_call 80;refine (bU _ _ _ _).mono ?_;rintro e w' ⟨rfl,rfl⟩))
   go_ret
   exact ⟨aK HB.out.symm,CV.alloc CW _⟩
  ·cases h3:inB sp 1 10000
   ·have HB:Hid (cM s l sp br=false):=Ab h3
    go_enter func104,ntmps104
    go_wp2_with (first | (go_at_call 129;refine (dx _ _ hs).mono ?_;rintro e w' ⟨rfl,rfl⟩) | (go_at_call 80;refine (bU _ _ _ _).mono ?_;rintro e w' ⟨rfl,rfl⟩))
    go_ret
    exact ⟨aK HB.out.symm,CV.alloc CW _⟩
   ·cases h4:inB br 1 1000
    ·have HB:Hid (cM s l sp br=false):=As h4
     go_enter func104,ntmps104
     go_wp2_with (first | (go_at_call 129;refine (dx _ _ hs).mono ?_;rintro e w' ⟨rfl,rfl⟩) | (go_at_call 80;refine (bU _ _ _ _).mono ?_;rintro e w' ⟨rfl,rfl⟩))
     go_ret
     exact ⟨aK HB.out.symm,CV.alloc CW _⟩
    ·have HB:Hid (cM s l sp br=true):=AI h1 h2 h3 h4
     go_enter func104,ntmps104
     go_wp2_with (first | (go_at_call 129;refine (dx _ _ hs).mono ?_;rintro e w' ⟨rfl,rfl⟩) | (go_at_call 80;refine (bU _ _ _ _).mono ?_;rintro e w' ⟨rfl,rfl⟩))
     go_ret
     exact ⟨aK HB.out.symm,CV.alloc CW _⟩
def dR (np nj:Nat):Bool:=decide (0<np/\np<=100/\nj<=120)
theorem sh (pa ja:Option Addr)(pl pc jl jc:Nat)(w:World)(hp:pl<=maxLen)(hj:jl<=maxLen):
  Calls prog 64 #[.agg #[.slice pa pl pc,.slice ja jl jc]] w fun e w'=>e = .returned (.bool (dR pl jl))/\Cx w w':=by
 unfold maxLen at hp hj
 by_cases h1:0<pl
 ·by_cases h2:pl<=100
  ·go_enter func64,ntmps64
   go_wp2
   go_ret
   exact ⟨aK (by unfold dR;rw [Bool.eq_iff_iff];simp;omega),blo⟩
  ·have HB:Hid (dR pl jl=false):=by unfold Hid dR;simp;omega
   go_enter func64,ntmps64
   go_wp2
   go_ret
   exact ⟨aK HB.out.symm,blo⟩
 ·have HB:Hid (dR pl jl=false):=by unfold Hid dR;simp;omega
  go_enter func64,ntmps64
  go_wp2
  go_ret
  exact ⟨aK HB.out.symm,blo⟩
def cV (np:Nat)(p s:Int):Bool:=inB p 0 ((np:Int)-1)&&inB s 0 1
theorem yI (pa ja:Option Addr)(pl pc jl jc:Nat)(p s:Int)(w:World)(hp:pl<=maxLen):
  Calls prog 107 #[.agg #[.slice pa pl pc,.slice ja jl jc],.agg #[.int .i64 p,.int .i64 s]] w fun e w'=>e = .returned (.bool (cV pl p s))/\Cx w w':=by
 unfold maxLen at hp;cases h1:inB p 0 ((pl:Int)-1)
 ·have HB:Hid (cV pl p s=false):=by unfold Hid cV;simp [h1]
  go_enter func107,ntmps107
  go_wp2_with (go_at_call 34;refine (dq _ _ _ _).mono ?_;rintro e w' ⟨rfl,rfl⟩)
  go_ret
  exact ⟨aK HB.out.symm,blo⟩
 ·have HB:Hid (inB s 0 1=cV pl p s):=by unfold Hid cV;simp [h1]
  go_enter func107,ntmps107
  go_wp2_with (go_at_call 34;refine (dq _ _ _ _).mono ?_;rintro e w' ⟨rfl,rfl⟩)
  go_ret
  exact ⟨aK HB.out,blo⟩
structure af where
 name:ByteArray
 len:Int
 CD:Int
 CC:Int
structure am where
 CB:Int
 side:Int
structure aj where
 kind:Int
 name:ByteArray
 ends:List am
theorem ai {a:Addr}{v:Value}(h:w.cell? a=some v):a.block<w.heap.size:=World.block_lt_of_cell? _ _ h
def jK (w:World)(b off:Nat)(ps:List af):Prop:=
 ∀ i (h:i<ps.length),w.cell? ⟨b,off+i*4,none⟩=some (.string ps[i].name)/\w.cell? ⟨b,off+i*4+1,none⟩=some (.int .i64 ps[i].len) /\
  w.cell? ⟨b,off+i*4+2,none⟩=some (.int .i64 ps[i].CD)/\w.cell? ⟨b,off+i*4+3,none⟩=some (.int .i64 ps[i].CC)
theorem jK.below {ps:List af}(h:jK w b off ps)(hb:Cx w w'):jK w' b off ps:=by
 intro i hi;obtain ⟨h1,h2,h3,h4⟩:=h i hi;exact ⟨cell_later hb h1,cell_later hb h2,cell_later hb h3,cell_later hb h4⟩
def ar (w:World)(a:Option Addr)(ps:List af):Prop:=
 ps.length<=maxLen/\(∀ p,p ∈ ps->p.name.size<=maxLen)/\(ps=[]\/∃ b off,a=some ⟨b,off,none⟩/\jK w b off ps)
theorem ar.below {a:Option Addr}{ps:List af}(h:ar w a ps)(hb:Cx w w'):ar w' a ps:=by
 obtain ⟨h1,h2,h3⟩:=h;refine ⟨h1,h2,?_⟩;rcases h3 with h3 | ⟨b,off,h3,h4⟩
 ·exact Or.inl h3
 ·exact Or.inr ⟨b,off,h3,h4.below hb⟩
def fC (w:World)(b off:Nat)(es:List am):Prop:=
 ∀ i (h:i<es.length),w.cell? ⟨b,off+i*2,none⟩=some (.int .i64 es[i].CB)/\w.cell? ⟨b,off+i*2+1,none⟩=some (.int .i64 es[i].side)
theorem fC.below {es:List am}(h:fC w b off es)(hb:Cx w w'):fC w' b off es:=by
 intro i hi;obtain ⟨h1,h2⟩:=h i hi;exact ⟨cell_later hb h1,cell_later hb h2⟩
def aT (w:World)(a:Option Addr)(es:List am):Prop:=
 es.length<=maxLen/\(es=[]\/∃ b off,a=some ⟨b,off,none⟩/\fC w b off es)
theorem aT.below {a:Option Addr}{es:List am}(h:aT w a es)(hb:Cx w w'):aT w' a es:=by
 obtain ⟨h1,h3⟩:=h;refine ⟨h1,?_⟩;rcases h3 with h3 | ⟨b,off,h3,h4⟩
 ·exact Or.inl h3
 ·exact Or.inr ⟨b,off,h3,h4.below hb⟩
def jD (w:World)(b off:Nat)(js:List aj):Prop:=
 ∀ i (h:i<js.length),w.cell? ⟨b,off+i*3,none⟩=some (.int .i64 js[i].kind)/\w.cell? ⟨b,off+i*3+1,none⟩=some (.string js[i].name) /\
  ∃ ea ec,w.cell? ⟨b,off+i*3+2,none⟩=some (.slice ea js[i].ends.length ec)/\aT w ea js[i].ends
theorem jD.below {js:List aj}(h:jD w b off js)(hb:Cx w w'):jD w' b off js:=by
 intro i hi;obtain ⟨h1,h2,ea,ec,h3,h4⟩:=h i hi;exact ⟨cell_later hb h1,cell_later hb h2,ea,ec,cell_later hb h3,h4.below hb⟩
def aP (w:World)(a:Option Addr)(js:List aj):Prop:=
 js.length<=maxLen/\(∀ p,p ∈ js->p.name.size<=maxLen)/\(js=[]\/∃ b off,a=some ⟨b,off,none⟩/\jD w b off js)
theorem aP.below {a:Option Addr}{js:List aj}(h:aP w a js)(hb:Cx w w'):aP w' a js:=by
 obtain ⟨h1,h2,h3⟩:=h;refine ⟨h1,h2,?_⟩;rcases h3 with h3 | ⟨b,off,h3,h4⟩
 ·exact Or.inl h3
 ·exact Or.inr ⟨b,off,h3,h4.below hb⟩
end Go.Proofs.YtmkdgnmmebldgaaGreatDoor
namespace Go.Proofs.YtmkdgnmmebldgaaGreatDoor
open Go.RowKit Go.Deep
theorem Tryz.infoE:(prog.info? 114).map (fun i=>(i.zero,i.size,i.bytes))=some (some (.agg #[.int .i64 0,.int .i64 0]),2,16):=CH
theorem aa {p:Prop}(h:p):Hid p:=h
end Go.Proofs.YtmkdgnmmebldgaaGreatDoor
