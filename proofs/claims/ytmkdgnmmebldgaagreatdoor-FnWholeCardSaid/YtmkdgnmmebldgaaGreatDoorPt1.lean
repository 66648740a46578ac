import Derived.Test.YtmkdgnmmebldgaaGreatDoorProg
import Derived.WalkKit
import Derived.WalkSpells
import Derived.WalkLawsBesides
import Derived.Deep.OwnRows
set_option maxRecDepth 100000
set_option maxHeartbeats 8000000
namespace Go.Proofs.YtmkdgnmmebldgaaGreatDoor
open Go.RowKit
theorem ret_int {k:IntKind}{a b:Int}(h:a=b):Ending.returned (.int k a) = .returned (.int k b):=by rw [h]
theorem ret_bool {a b:Bool}(h:a=b):Ending.returned (.bool a) = .returned (.bool b):=by rw [h]
theorem bdrewN {B:Nat}{a w:World}(h:Below B a w)(n:Nat):Below B a (w.drewN n):=h.trans ⟨rfl,rfl,rfl,Nat.le_refl _,fun _ _=>rfl⟩
theorem blo {B:Nat}{a w:World}(h:Below B a w:=by repeat (first | exact Below.refl _ _ | assumption | refine Below.drew ?_ | refine bdrewN ?_ _ | refine Below.setCell ?_ (by first | omega | (simp;done) | (simp;omega)) _ | refine Below.alloc ?_ (by first | omega | (simp;done) | (simp;omega)) _)):Below B a w:=h
theorem beqS_ne {a b:ByteArray}(h:a≠b):(a.toList==b.toList)=false:=by
 rw [ByteArray.toList_eq,ByteArray.toList_eq,beq_eq_false_iff_ne]
 intro e
 apply h
 obtain ⟨⟨x⟩⟩:=a
 obtain ⟨⟨y⟩⟩:=b
 simp at e
 rw [e]
theorem emptyS_ne {a:ByteArray}(h:a≠⟨#[]⟩):a.toList.isEmpty=false:=by
 rw [ByteArray.toList_eq]
 obtain ⟨⟨x⟩⟩:=a
 cases x with
 | nil=>exact absurd rfl h
 | cons c r=>rfl
def inB (x a b:Int):Bool:=decide (a≤x∧x≤b)
theorem inB_t {x a b:Int}(h1:a≤x)(h2:x≤b):inB x a b=true:=by simp [inB,h1,h2]
theorem inB_f1 {x a b:Int}(h1:¬ a≤x):inB x a b=false:=by simp [inB,h1]
theorem inB_f2 {x a b:Int}(h2:¬ x≤b):inB x a b=false:=by simp [inB,h2]
theorem within_any (x a b:Int)(w:World):
  Calls Tryz.prog 80 #[.int .i64 x,.int .i64 a,.int .i64 b] w fun e w'=>e = .returned (.bool (inB x a b))∧w'=w:=by
 by_cases h1:a≤x
 ·by_cases h2:x≤b
  ·rw [inB_t h1 h2]
   go_enter Tryz.func80,Tryz.ntmps80
   go_wp2
   go_ret
   exact ⟨rfl,rfl⟩
  ·rw [inB_f2 h2]
   go_enter Tryz.func80,Tryz.ntmps80
   go_wp2
   go_ret
   exact ⟨rfl,rfl⟩
 ·rw [inB_f1 h1]
  go_enter Tryz.func80,Tryz.ntmps80
  go_wp2
  go_ret
  exact ⟨rfl,rfl⟩
theorem l1in_any (x a b:Int)(w:World):
  Calls Tryz.prog 34 #[.int .i64 x,.int .i64 a,.int .i64 b] w fun e w'=>e = .returned (.bool (inB x a b))∧w'=w:=by
 by_cases h1:a≤x
 ·by_cases h2:x≤b
  ·rw [inB_t h1 h2]
   go_enter Tryz.func34,Tryz.ntmps34
   go_wp2
   go_ret
   exact ⟨rfl,rfl⟩
  ·rw [inB_f2 h2]
   go_enter Tryz.func34,Tryz.ntmps34
   go_wp2
   go_ret
   exact ⟨rfl,rfl⟩
 ·rw [inB_f1 h1]
  go_enter Tryz.func34,Tryz.ntmps34
  go_wp2
  go_ret
  exact ⟨rfl,rfl⟩
def signI (n:Int):Bool:=decide (97≤n∧n≤122∨48≤n∧n≤57∨n=95)
theorem nameSign_any (n:Int)(w:World):
  Calls Tryz.prog 165 #[.int .u8 n] w fun e w'=>e = .returned (.bool (signI n))∧w'=w:=by
 go_enter Tryz.func165,Tryz.ntmps165
 go_wp2
 all_goals
  go_ret
  refine ⟨ret_bool ?_,rfl⟩
  unfold signI
  first | (symm;simp;omega) | (symm;rw [decide_eq_false_iff_not];omega) | (rw [Bool.eq_iff_iff];simp;omega)
def nameTo (s:ByteArray)(k:Nat):Bool:=(s.data.toList.take k).all fun c=>signI (c.toNat:Int)
def nameB (s:ByteArray):Bool:=decide (1≤s.size∧s.size≤20)&&nameTo s s.size
theorem nameTo_succ (s:ByteArray)(k:Nat)(h:k<s.size):nameTo s (k+1)=(nameTo s k&&signI (s[k].toNat:Int)):=by
 unfold nameTo
 rw [List.take_succ_eq_append_getElem (by simpa using h)]
 simp
 rfl
theorem nameTo_false (s:ByteArray)(k:Nat)(h:k<s.size)(h1:signI (s[k].toNat:Int)=false):nameTo s s.size=false:=by
 unfold nameTo
 rw [List.take_of_length_le (by simp),List.all_eq_false]
 refine ⟨s[k],?_,by simp [h1]⟩
 exact List.getElem_mem (l:=s.data.toList) (by simpa using h)
theorem nz {α:Type}{xs:List α}{k:Nat}(h:k<xs.length):¬xs=[]:=fun e=>by rw [e] at h;exact absurd h (Nat.not_lt_zero _)
theorem nameB_of_size {s:ByteArray}(h:¬ (1≤s.size∧s.size≤20)):nameB s=false:=by simp [nameB,h]
theorem nameB_of_to {s:ByteArray}(h:1≤s.size∧s.size≤20)(h2:nameTo s s.size=true):nameB s=true:=by simp [nameB,h,h2]
theorem nameB_of_sign {s:ByteArray}(k:Nat)(h:k<s.size)(h1:signI (s[k].toNat:Int)=false):nameB s=false:=by
 simp [nameB,nameTo_false s k h h1]
theorem sign_cases (c:Int):signI c=true∧(97≤c∧c≤122∨¬ 97≤c∧48≤c∧c≤57∨¬ 97≤c∧48≤c∧¬ c≤57∧(c==95)=true) ∨
  signI c=false∧(c==95)=false∧(¬ c≤122∧decide (c≤57)=false∨¬ 97≤c∧¬ c≤57∨¬ 48≤c):=by
 unfold signI
 simp only [decide_eq_true_eq,decide_eq_false_iff_not,beq_iff_eq,beq_eq_false_iff_ne]
 omega
theorem nameTo_zero (s:ByteArray):nameTo s 0=true:=by simp [nameTo]
theorem l1name_any (s:ByteArray)(w:World)(hs:s.size≤maxLen):
  Calls Tryz.prog 62 #[.string s] w fun e w'=>e = .returned (.bool (nameB s))∧w'=w:=by
 unfold maxLen at hs
 go_enter Tryz.func62,Tryz.ntmps62
 go_wp2
 go_loop [3] (fun i => ∃ k:Nat,k≤s.size∧i = .int .i64 k∧Hid (nameTo s k=true)) (fun i=>s.size-(intOf i).toNat)
 case atStart=>exact ⟨0,Nat.zero_le _,rfl,nameTo_zero s⟩
 case round =>
  obtain ⟨k,hk,rfl,hn⟩:=hrel
  by_cases hlt:k<s.size
  ·have HS:Hid (nameTo s (k+1)=(nameTo s k&&signI (s[k].toNat:Int))):=nameTo_succ s k hlt
   have HF:Hid (signI (s[k].toNat:Int)=false→nameB s=false):=nameB_of_sign k hlt
   have hcl:signI (s[k].toNat:Int)=true∧(97≤(s[k].toNat:Int)∧(s[k].toNat:Int)≤122∨¬ 97≤(s[k].toNat:Int)∧48≤(s[k].toNat:Int)∧(s[k].toNat:Int)≤57∨¬ 97≤(s[k].toNat:Int)∧48≤(s[k].toNat:Int)∧¬ (s[k].toNat:Int)≤57∧((s[k].toNat:Int)==95)=true) ∨
     signI (s[k].toNat:Int)=false∧((s[k].toNat:Int)==95)=false∧(¬ (s[k].toNat:Int)≤122∧decide ((s[k].toNat:Int)≤57)=false∨¬ 97≤(s[k].toNat:Int)∧¬ (s[k].toNat:Int)≤57∨¬ 48≤(s[k].toNat:Int)):=sign_cases _
   rcases hcl with ⟨hT,hcl⟩ | ⟨hT,h95,hcl⟩
   ·have HT:Hid (nameTo s (k+1)=true):=by
     have h1:=HS.out
     rw [hn.out,hT] at h1
     exact h1
    clear hT HS HF hn
    rcases hcl with hcl | hcl | hcl
    all_goals
     go_wp2
     go_round
     case rel=>exact ⟨k+1,by omega,by go_num,HT⟩
     case measure=>simp [intOf];omega
   ·have HB:Hid (nameB s=false):=HF.out hT
    clear hT HS HF hn
    rcases hcl with hcl | hcl | hcl
    all_goals
     go_wp2
     go_ret
     exact ⟨ret_bool HB.out.symm,rfl⟩
  ·have hk':k=s.size:=by omega
   have HN:Hid (nameTo s s.size=true):=hk' ▸ hn
   clear hn hk'
   by_cases h20:1≤s.size∧s.size≤20
   ·have HB:Hid (nameB s=true):=nameB_of_to h20 HN.out
    go_wp2
    go_ret
    exact ⟨ret_bool (by rw [HB.out];simp;omega),rfl⟩
   ·have HB:Hid (nameB s=false):=nameB_of_size h20
    go_wp2
    all_goals
     go_ret
     exact ⟨ret_bool (by rw [HB.out];try simp;try omega),rfl⟩
theorem nameOk_any (s:ByteArray)(w:World)(hs:s.size≤maxLen):
  Calls Tryz.prog 129 #[.string s] w fun e w'=>e = .returned (.bool (nameB s))∧w'=w:=by
 unfold maxLen at hs
 by_cases h20:1≤s.size∧s.size≤20
 ·have hin:inB (s.size:Int) 1 20=true:=inB_t (by omega) (by omega)
  go_enter Tryz.func129,Tryz.ntmps129
  go_wp2_with (go_at_call 80;refine (within_any _ _ _ _).mono ?_;rintro e w' ⟨rfl,rfl⟩)
  go_loop [3,10] (fun _ i => ∃ k:Nat,k≤s.size∧i = .int .i64 k∧Hid (nameTo s k=true)) (fun _ i=>s.size-(intOf i).toNat)
  case atStart=>exact ⟨0,Nat.zero_le _,rfl,nameTo_zero s⟩
  case round =>
   obtain ⟨k,hk,rfl,hn⟩:=hrel
   by_cases hlt:k<s.size
   ·have HS:Hid (nameTo s (k+1)=(nameTo s k&&signI (s[k].toNat:Int))):=nameTo_succ s k hlt
    have HF:Hid (signI (s[k].toNat:Int)=false→nameB s=false):=nameB_of_sign k hlt
    cases hT:signI (s[k].toNat:Int)
    ·have HB:Hid (nameB s=false):=HF.out hT
     clear HS HF hn
     go_wp2_with (go_at_call 165;refine (nameSign_any _ _).mono ?_;rintro e w' ⟨rfl,rfl⟩)
     go_ret
     exact ⟨ret_bool HB.out.symm,rfl⟩
    ·have HT:Hid (nameTo s (k+1)=true):=by
      have h1:=HS.out
      rw [hn.out,hT] at h1
      exact h1
     clear HS HF hn
     go_wp2_with (go_at_call 165;refine (nameSign_any _ _).mono ?_;rintro e w' ⟨rfl,rfl⟩)
     go_round
     case rel=>exact ⟨k+1,by omega,by go_num,HT⟩
     case measure=>simp [intOf];omega
   ·have hk':k=s.size:=by omega
    have HN:Hid (nameTo s s.size=true):=hk' ▸ hn
    clear hn hk'
    have HB:Hid (nameB s=true):=nameB_of_to h20 HN.out
    go_wp2
    go_ret
    exact ⟨ret_bool HB.out.symm,rfl⟩
 ·have hin:inB (s.size:Int) 1 20=false:=by unfold inB;simp;omega
  have HB:Hid (nameB s=false):=nameB_of_size h20
  go_enter Tryz.func129,Tryz.ntmps129
  go_wp2_with (go_at_call 80;refine (within_any _ _ _ _).mono ?_;rintro e w' ⟨rfl,rfl⟩)
  go_ret
  exact ⟨ret_bool HB.out.symm,rfl⟩
def pieceB (s:ByteArray)(l sp br:Int):Bool:=nameB s&&inB l 1 10000000&&inB sp 1 10000&&inB br 1 1000
theorem pieceB_1 {s:ByteArray}{l sp br:Int}(h:nameB s=false):pieceB s l sp br=false:=by simp [pieceB,h]
theorem pieceB_2 {s:ByteArray}{l sp br:Int}(h:inB l 1 10000000=false):pieceB s l sp br=false:=by simp [pieceB,h]
theorem pieceB_3 {s:ByteArray}{l sp br:Int}(h:inB sp 1 10000=false):pieceB s l sp br=false:=by simp [pieceB,h]
theorem pieceB_4 {s:ByteArray}{l sp br:Int}(h:inB br 1 1000=false):pieceB s l sp br=false:=by simp [pieceB,h]
theorem pieceB_t {s:ByteArray}{l sp br:Int}(h1:nameB s=true)(h2:inB l 1 10000000=true)(h3:inB sp 1 10000=true)(h4:inB br 1 1000=true):pieceB s l sp br=true:=by simp [pieceB,h1,h2,h3,h4]
theorem pieceOk_any (s:ByteArray)(l sp br:Int)(w:World)(hs:s.size≤maxLen):
  Calls Tryz.prog 104 #[.agg #[.string s,.int .i64 l,.int .i64 sp,.int .i64 br]] w fun e w'=>e = .returned (.bool (pieceB s l sp br))∧Below w.heap.size w w':=by
 cases h1:nameB s
 ·have HB:Hid (pieceB s l sp br=false):=pieceB_1 h1
  go_enter Tryz.func104,Tryz.ntmps104
  go_wp2_with (first | (go_at_call 129;refine (nameOk_any _ _ hs).mono ?_;rintro e w' ⟨rfl,rfl⟩) | (go_at_call 80;refine (within_any _ _ _ _).mono ?_;rintro e w' ⟨rfl,rfl⟩))
  go_ret
  exact ⟨ret_bool HB.out.symm,(Below.refl _ _).alloc (Nat.le_refl _) _⟩
 ·cases h2:inB l 1 10000000
  ·have HB:Hid (pieceB s l sp br=false):=pieceB_2 h2
   go_enter Tryz.func104,Tryz.ntmps104
   go_wp2_with (first | (go_at_call 129;refine (nameOk_any _ _ hs).mono ?_;rintro e w' ⟨rfl,rfl⟩) | (go_at_call 80;refine (within_any _ _ _ _).mono ?_;rintro e w' ⟨rfl,rfl⟩))
   go_ret
   exact ⟨ret_bool HB.out.symm,(Below.refl _ _).alloc (Nat.le_refl _) _⟩
  ·cases h3:inB sp 1 10000
   ·have HB:Hid (pieceB s l sp br=false):=pieceB_3 h3
    go_enter Tryz.func104,Tryz.ntmps104
    go_wp2_with (first | (go_at_call 129;refine (nameOk_any _ _ hs).mono ?_;rintro e w' ⟨rfl,rfl⟩) | (go_at_call 80;refine (within_any _ _ _ _).mono ?_;rintro e w' ⟨rfl,rfl⟩))
    go_ret
    exact ⟨ret_bool HB.out.symm,(Below.refl _ _).alloc (Nat.le_refl _) _⟩
   ·cases h4:inB br 1 1000
    ·have HB:Hid (pieceB s l sp br=false):=pieceB_4 h4
     go_enter Tryz.func104,Tryz.ntmps104
     go_wp2_with (first | (go_at_call 129;refine (nameOk_any _ _ hs).mono ?_;rintro e w' ⟨rfl,rfl⟩) | (go_at_call 80;refine (within_any _ _ _ _).mono ?_;rintro e w' ⟨rfl,rfl⟩))
     go_ret
     exact ⟨ret_bool HB.out.symm,(Below.refl _ _).alloc (Nat.le_refl _) _⟩
    ·have HB:Hid (pieceB s l sp br=true):=pieceB_t h1 h2 h3 h4
     go_enter Tryz.func104,Tryz.ntmps104
     go_wp2_with (first | (go_at_call 129;refine (nameOk_any _ _ hs).mono ?_;rintro e w' ⟨rfl,rfl⟩) | (go_at_call 80;refine (within_any _ _ _ _).mono ?_;rintro e w' ⟨rfl,rfl⟩))
     go_ret
     exact ⟨ret_bool HB.out.symm,(Below.refl _ _).alloc (Nat.le_refl _) _⟩
def sizeB (np nj:Nat):Bool:=decide (0<np∧np≤100∧nj≤120)
theorem netSizeOk_any (pa ja:Option Addr)(pl pc jl jc:Nat)(w:World)(hp:pl≤maxLen)(hj:jl≤maxLen):
  Calls Tryz.prog 64 #[.agg #[.slice pa pl pc,.slice ja jl jc]] w fun e w'=>e = .returned (.bool (sizeB pl jl))∧Below w.heap.size w w':=by
 unfold maxLen at hp hj
 by_cases h1:0<pl
 ·by_cases h2:pl≤100
  ·go_enter Tryz.func64,Tryz.ntmps64
   go_wp2
   go_ret
   exact ⟨ret_bool (by unfold sizeB;rw [Bool.eq_iff_iff];simp;omega),blo⟩
  ·have HB:Hid (sizeB pl jl=false):=by unfold Hid sizeB;simp;omega
   go_enter Tryz.func64,Tryz.ntmps64
   go_wp2
   go_ret
   exact ⟨ret_bool HB.out.symm,blo⟩
 ·have HB:Hid (sizeB pl jl=false):=by unfold Hid sizeB;simp;omega
  go_enter Tryz.func64,Tryz.ntmps64
  go_wp2
  go_ret
  exact ⟨ret_bool HB.out.symm,blo⟩
def endB (np:Nat)(p s:Int):Bool:=inB p 0 ((np:Int)-1)&&inB s 0 1
theorem l1end_any (pa ja:Option Addr)(pl pc jl jc:Nat)(p s:Int)(w:World)(hp:pl≤maxLen):
  Calls Tryz.prog 107 #[.agg #[.slice pa pl pc,.slice ja jl jc],.agg #[.int .i64 p,.int .i64 s]] w fun e w'=>e = .returned (.bool (endB pl p s))∧Below w.heap.size w w':=by
 unfold maxLen at hp
 cases h1:inB p 0 ((pl:Int)-1)
 ·have HB:Hid (endB pl p s=false):=by unfold Hid endB;simp [h1]
  go_enter Tryz.func107,Tryz.ntmps107
  go_wp2_with (go_at_call 34;refine (l1in_any _ _ _ _).mono ?_;rintro e w' ⟨rfl,rfl⟩)
  go_ret
  exact ⟨ret_bool HB.out.symm,blo⟩
 ·have HB:Hid (inB s 0 1=endB pl p s):=by unfold Hid endB;simp [h1]
  go_enter Tryz.func107,Tryz.ntmps107
  go_wp2_with (go_at_call 34;refine (l1in_any _ _ _ _).mono ?_;rintro e w' ⟨rfl,rfl⟩)
  go_ret
  exact ⟨ret_bool HB.out,blo⟩
structure MPiece where
 name:ByteArray
 len:Int
 speed:Int
 brake:Int
structure MEnd where
 piece:Int
 side:Int
structure MJoint where
 kind:Int
 name:ByteArray
 ends:List MEnd
theorem cellLt {w:World}{a:Addr}{v:Value}(h:w.cell? a=some v):a.block<w.heap.size:=World.block_lt_of_cell? _ _ h
def PieceCells (w:World)(b off:Nat)(ps:List MPiece):Prop:=
 ∀ i (h:i<ps.length),w.cell? ⟨b,off+i*4,none⟩=some (.string ps[i].name)∧w.cell? ⟨b,off+i*4+1,none⟩=some (.int .i64 ps[i].len) ∧
  w.cell? ⟨b,off+i*4+2,none⟩=some (.int .i64 ps[i].speed)∧w.cell? ⟨b,off+i*4+3,none⟩=some (.int .i64 ps[i].brake)
theorem PieceCells.below {w w':World}{b off:Nat}{ps:List MPiece}(h:PieceCells w b off ps)(hb:Below w.heap.size w w'):PieceCells w' b off ps:=by
 intro i hi
 obtain ⟨h1,h2,h3,h4⟩:=h i hi
 exact ⟨cell_later hb h1,cell_later hb h2,cell_later hb h3,cell_later hb h4⟩
def PiecesAt (w:World)(a:Option Addr)(ps:List MPiece):Prop:=
 ps.length≤maxLen∧(∀ p,p ∈ ps→p.name.size≤maxLen)∧(ps=[]∨∃ b off,a=some ⟨b,off,none⟩∧PieceCells w b off ps)
theorem PiecesAt.below {w w':World}{a:Option Addr}{ps:List MPiece}(h:PiecesAt w a ps)(hb:Below w.heap.size w w'):PiecesAt w' a ps:=by
 obtain ⟨h1,h2,h3⟩:=h
 refine ⟨h1,h2,?_⟩
 rcases h3 with h3 | ⟨b,off,h3,h4⟩
 ·exact Or.inl h3
 ·exact Or.inr ⟨b,off,h3,h4.below hb⟩
def EndCells (w:World)(b off:Nat)(es:List MEnd):Prop:=
 ∀ i (h:i<es.length),w.cell? ⟨b,off+i*2,none⟩=some (.int .i64 es[i].piece)∧w.cell? ⟨b,off+i*2+1,none⟩=some (.int .i64 es[i].side)
theorem EndCells.below {w w':World}{b off:Nat}{es:List MEnd}(h:EndCells w b off es)(hb:Below w.heap.size w w'):EndCells w' b off es:=by
 intro i hi
 obtain ⟨h1,h2⟩:=h i hi
 exact ⟨cell_later hb h1,cell_later hb h2⟩
def EndsAt (w:World)(a:Option Addr)(es:List MEnd):Prop:=
 es.length≤maxLen∧(es=[]∨∃ b off,a=some ⟨b,off,none⟩∧EndCells w b off es)
theorem EndsAt.below {w w':World}{a:Option Addr}{es:List MEnd}(h:EndsAt w a es)(hb:Below w.heap.size w w'):EndsAt w' a es:=by
 obtain ⟨h1,h3⟩:=h
 refine ⟨h1,?_⟩
 rcases h3 with h3 | ⟨b,off,h3,h4⟩
 ·exact Or.inl h3
 ·exact Or.inr ⟨b,off,h3,h4.below hb⟩
def JointCells (w:World)(b off:Nat)(js:List MJoint):Prop:=
 ∀ i (h:i<js.length),w.cell? ⟨b,off+i*3,none⟩=some (.int .i64 js[i].kind)∧w.cell? ⟨b,off+i*3+1,none⟩=some (.string js[i].name) ∧
  ∃ ea ec,w.cell? ⟨b,off+i*3+2,none⟩=some (.slice ea js[i].ends.length ec)∧EndsAt w ea js[i].ends
theorem JointCells.below {w w':World}{b off:Nat}{js:List MJoint}(h:JointCells w b off js)(hb:Below w.heap.size w w'):JointCells w' b off js:=by
 intro i hi
 obtain ⟨h1,h2,ea,ec,h3,h4⟩:=h i hi
 exact ⟨cell_later hb h1,cell_later hb h2,ea,ec,cell_later hb h3,h4.below hb⟩
def JointsAt (w:World)(a:Option Addr)(js:List MJoint):Prop:=
 js.length≤maxLen∧(∀ p,p ∈ js→p.name.size≤maxLen)∧(js=[]∨∃ b off,a=some ⟨b,off,none⟩∧JointCells w b off js)
theorem JointsAt.below {w w':World}{a:Option Addr}{js:List MJoint}(h:JointsAt w a js)(hb:Below w.heap.size w w'):JointsAt w' a js:=by
 obtain ⟨h1,h2,h3⟩:=h
 refine ⟨h1,h2,?_⟩
 rcases h3 with h3 | ⟨b,off,h3,h4⟩
 ·exact Or.inl h3
 ·exact Or.inr ⟨b,off,h3,h4.below hb⟩
end Go.Proofs.YtmkdgnmmebldgaaGreatDoor
namespace Go.Proofs.YtmkdgnmmebldgaaGreatDoor
open Go.RowKit Go.Deep
theorem Tryz.infoE:(Tryz.prog.info? 114).map (fun i=>(i.zero,i.size,i.bytes))=some (some (.agg #[.int .i64 0,.int .i64 0]),2,16):=by kernel_rfl
theorem hidP {p:Prop}(h:p):Hid p:=h
end Go.Proofs.YtmkdgnmmebldgaaGreatDoor
