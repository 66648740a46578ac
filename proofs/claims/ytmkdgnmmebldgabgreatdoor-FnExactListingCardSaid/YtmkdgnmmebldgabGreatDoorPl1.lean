import Derived.Test.YtmkdgnmmebldgabGreatDoorProg
import Derived.WalkKit
import Derived.WalkSpells
import Derived.WalkLawsBesides
import Derived.Deep.OwnRows
set_option maxRecDepth 100000
set_option maxHeartbeats 8000000
namespace Go.Proofs.YtmkdgnmmebldgabGreatDoor
open Go.RowKit
theorem ret_int {k:IntKind}{a b:Int}(h:a=b):Ending.returned (.int k a) = .returned (.int k b):=by rw [h]
theorem ret_bool {a b:Bool}(h:a=b):Ending.returned (.bool a) = .returned (.bool b):=by rw [h]
theorem bdrewN {B:Nat}{a w:World}(h:Below B a w)(n:Nat):Below B a (w.drewN n):=h.trans ⟨rfl,rfl,rfl,Nat.le_refl _,fun _ _=>rfl⟩
theorem blo {B:Nat}{a w:World}(h:Below B a w:=by repeat (first | exact Below.refl _ _ | assumption | refine Below.drew ?_ | refine bdrewN ?_ _ | refine Below.setCell ?_ (by first | omega | (simp;done) | (simp;omega)) _ | refine Below.alloc ?_ (by first | omega | (simp;done) | (simp;omega)) _)):Below B a w:=h
theorem beqS_ne {a b:ByteArray}(h:a≠b):(a.toList==b.toList)=false:=by
 rw [ByteArray.toList_eq,ByteArray.toList_eq,beq_eq_false_iff_ne]
 intro e
 apply h
 obtain ⟨⟨x⟩⟩:=a
 obtain ⟨⟨y⟩⟩:=b
 simp at e
 rw [e]
theorem emptyS_ne {a:ByteArray}(h:a≠⟨#[]⟩):a.toList.isEmpty=false:=by
 rw [ByteArray.toList_eq]
 obtain ⟨⟨x⟩⟩:=a
 cases x with
 | nil=>exact absurd rfl h
 | cons c r=>rfl
def inB (x a b:Int):Bool:=decide (a≤x∧x≤b)
theorem inB_t {x a b:Int}(h1:a≤x)(h2:x≤b):inB x a b=true:=by simp [inB,h1,h2]
theorem inB_f1 {x a b:Int}(h1:¬ a≤x):inB x a b=false:=by simp [inB,h1]
theorem inB_f2 {x a b:Int}(h2:¬ x≤b):inB x a b=false:=by simp [inB,h2]
theorem within_any (x a b:Int)(w:World):
  Calls Tryz.prog 109 #[.int .i64 x,.int .i64 a,.int .i64 b] w fun e w'=>e = .returned (.bool (inB x a b))∧w'=w:=by
 by_cases h1:a≤x
 ·by_cases h2:x≤b
  ·rw [inB_t h1 h2]
   go_enter Tryz.func109,Tryz.ntmps109
   go_wp2
   go_ret
   exact ⟨rfl,rfl⟩
  ·rw [inB_f2 h2]
   go_enter Tryz.func109,Tryz.ntmps109
   go_wp2
   go_ret
   exact ⟨rfl,rfl⟩
 ·rw [inB_f1 h1]
  go_enter Tryz.func109,Tryz.ntmps109
  go_wp2
  go_ret
  exact ⟨rfl,rfl⟩
theorem l1in_any (x a b:Int)(w:World):
  Calls Tryz.prog 33 #[.int .i64 x,.int .i64 a,.int .i64 b] w fun e w'=>e = .returned (.bool (inB x a b))∧w'=w:=by
 by_cases h1:a≤x
 ·by_cases h2:x≤b
  ·rw [inB_t h1 h2]
   go_enter Tryz.func33,Tryz.ntmps33
   go_wp2
   go_ret
   exact ⟨rfl,rfl⟩
  ·rw [inB_f2 h2]
   go_enter Tryz.func33,Tryz.ntmps33
   go_wp2
   go_ret
   exact ⟨rfl,rfl⟩
 ·rw [inB_f1 h1]
  go_enter Tryz.func33,Tryz.ntmps33
  go_wp2
  go_ret
  exact ⟨rfl,rfl⟩
def signI (n:Int):Bool:=decide (97≤n∧n≤122∨48≤n∧n≤57∨n=95)
theorem nameSign_any (n:Int)(w:World):
  Calls Tryz.prog 202 #[.int .u8 n] w fun e w'=>e = .returned (.bool (signI n))∧w'=w:=by
 go_enter Tryz.func202,Tryz.ntmps202
 go_wp2
 all_goals
  go_ret
  refine ⟨ret_bool ?_,rfl⟩
  unfold signI
  first | (symm;simp;omega) | (symm;rw [decide_eq_false_iff_not];omega) | (rw [Bool.eq_iff_iff];simp;omega)
def nameTo (s:ByteArray)(k:Nat):Bool:=(s.data.toList.take k).all fun c=>signI (c.toNat:Int)
def nameB (s:ByteArray):Bool:=decide (1≤s.size∧s.size≤20)&&nameTo s s.size
theorem nameTo_succ (s:ByteArray)(k:Nat)(h:k<s.size):nameTo s (k+1)=(nameTo s k&&signI (s[k].toNat:Int)):=by
 unfold nameTo
 rw [List.take_succ_eq_append_getElem (by simpa using h)]
 simp
 rfl
theorem nameTo_false (s:ByteArray)(k:Nat)(h:k<s.size)(h1:signI (s[k].toNat:Int)=false):nameTo s s.size=false:=by
 unfold nameTo
 rw [List.take_of_length_le (by simp),List.all_eq_false]
 refine ⟨s[k],?_,by simp [h1]⟩
 exact List.getElem_mem (l:=s.data.toList) (by simpa using h)
theorem nz {α:Type}{xs:List α}{k:Nat}(h:k<xs.length):¬xs=[]:=fun e=>by rw [e] at h;exact absurd h (Nat.not_lt_zero _)
theorem nameB_of_size {s:ByteArray}(h:¬ (1≤s.size∧s.size≤20)):nameB s=false:=by simp [nameB,h]
theorem nameB_of_to {s:ByteArray}(h:1≤s.size∧s.size≤20)(h2:nameTo s s.size=true):nameB s=true:=by simp [nameB,h,h2]
theorem nameB_of_sign {s:ByteArray}(k:Nat)(h:k<s.size)(h1:signI (s[k].toNat:Int)=false):nameB s=false:=by
 simp [nameB,nameTo_false s k h h1]
theorem sign_cases (c:Int):signI c=true∧(97≤c∧c≤122∨¬ 97≤c∧48≤c∧c≤57∨¬ 97≤c∧48≤c∧¬ c≤57∧(c==95)=true) ∨
  signI c=false∧(c==95)=false∧(¬ c≤122∧decide (c≤57)=false∨¬ 97≤c∧¬ c≤57∨¬ 48≤c):=by
 unfold signI
 simp only [decide_eq_true_eq,decide_eq_false_iff_not,beq_iff_eq,beq_eq_false_iff_ne]
 omega
theorem nameTo_zero (s:ByteArray):nameTo s 0=true:=by simp [nameTo]
theorem l1name_any (s:ByteArray)(w:World)(hs:s.size≤maxLen):
  Calls Tryz.prog 92 #[.string s] w fun e w'=>e = .returned (.bool (nameB s))∧w'=w:=by
 unfold maxLen at hs
 go_enter Tryz.func92,Tryz.ntmps92
 go_wp2
 go_loop [3] (fun i => ∃ k:Nat,k≤s.size∧i = .int .i64 k∧Hid (nameTo s k=true)) (fun i=>s.size-(intOf i).toNat)
 case atStart=>exact ⟨0,Nat.zero_le _,rfl,nameTo_zero s⟩
 case round =>
  obtain ⟨k,hk,rfl,hn⟩:=hrel
  by_cases hlt:k<s.size
  ·have HS:Hid (nameTo s (k+1)=(nameTo s k&&signI (s[k].toNat:Int))):=nameTo_succ s k hlt
   have HF:Hid (signI (s[k].toNat:Int)=false→nameB s=false):=nameB_of_sign k hlt
   have hcl:signI (s[k].toNat:Int)=true∧(97≤(s[k].toNat:Int)∧(s[k].toNat:Int)≤122∨¬ 97≤(s[k].toNat:Int)∧48≤(s[k].toNat:Int)∧(s[k].toNat:Int)≤57∨¬ 97≤(s[k].toNat:Int)∧48≤(s[k].toNat:Int)∧¬ (s[k].toNat:Int)≤57∧((s[k].toNat:Int)==95)=true) ∨
     signI (s[k].toNat:Int)=false∧((s[k].toNat:Int)==95)=false∧(¬ (s[k].toNat:Int)≤122∧decide ((s[k].toNat:Int)≤57)=false∨¬ 97≤(s[k].toNat:Int)∧¬ (s[k].toNat:Int)≤57∨¬ 48≤(s[k].toNat:Int)):=sign_cases _
   rcases hcl with ⟨hT,hcl⟩ | ⟨hT,h95,hcl⟩
   ·have HT:Hid (nameTo s (k+1)=true):=by
     have h1:=HS.out
     rw [hn.out,hT] at h1
     exact h1
    clear hT HS HF hn
    rcases hcl with hcl | hcl | hcl
    all_goals
     go_wp2
     go_round
     case rel=>exact ⟨k+1,by omega,by go_num,HT⟩
     case measure=>simp [intOf];omega
   ·have HB:Hid (nameB s=false):=HF.out hT
    clear hT HS HF hn
    rcases hcl with hcl | hcl | hcl
    all_goals
     go_wp2
     go_ret
     exact ⟨ret_bool HB.out.symm,rfl⟩
  ·have hk':k=s.size:=by omega
   have HN:Hid (nameTo s s.size=true):=hk' ▸ hn
   clear hn hk'
   by_cases h20:1≤s.size∧s.size≤20
   ·have HB:Hid (nameB s=true):=nameB_of_to h20 HN.out
    go_wp2
    go_ret
    exact ⟨ret_bool (by rw [HB.out];simp;omega),rfl⟩
   ·have HB:Hid (nameB s=false):=nameB_of_size h20
    go_wp2
    all_goals
     go_ret
     exact ⟨ret_bool (by rw [HB.out];try simp;try omega),rfl⟩
theorem nameOk_any (s:ByteArray)(w:World)(hs:s.size≤maxLen):
  Calls Tryz.prog 188 #[.string s] w fun e w'=>e = .returned (.bool (nameB s))∧w'=w:=by
 unfold maxLen at hs
 by_cases h20:1≤s.size∧s.size≤20
 ·have hin:inB (s.size:Int) 1 20=true:=inB_t (by omega) (by omega)
  go_enter Tryz.func188,Tryz.ntmps188
  go_wp2_with (go_at_call 109;refine (within_any _ _ _ _).mono ?_;rintro e w' ⟨rfl,rfl⟩)
  go_loop [3,10] (fun _ i => ∃ k:Nat,k≤s.size∧i = .int .i64 k∧Hid (nameTo s k=true)) (fun _ i=>s.size-(intOf i).toNat)
  case atStart=>exact ⟨0,Nat.zero_le _,rfl,nameTo_zero s⟩
  case round =>
   obtain ⟨k,hk,rfl,hn⟩:=hrel
   by_cases hlt:k<s.size
   ·have HS:Hid (nameTo s (k+1)=(nameTo s k&&signI (s[k].toNat:Int))):=nameTo_succ s k hlt
    have HF:Hid (signI (s[k].toNat:Int)=false→nameB s=false):=nameB_of_sign k hlt
    cases hT:signI (s[k].toNat:Int)
    ·have HB:Hid (nameB s=false):=HF.out hT
     clear HS HF hn
     go_wp2_with (go_at_call 202;refine (nameSign_any _ _).mono ?_;rintro e w' ⟨rfl,rfl⟩)
     go_ret
     exact ⟨ret_bool HB.out.symm,rfl⟩
    ·have HT:Hid (nameTo s (k+1)=true):=by
      have h1:=HS.out
      rw [hn.out,hT] at h1
      exact h1
     clear HS HF hn
     go_wp2_with (go_at_call 202;refine (nameSign_any _ _).mono ?_;rintro e w' ⟨rfl,rfl⟩)
     go_round
     case rel=>exact ⟨k+1,by omega,by go_num,HT⟩
     case measure=>simp [intOf];omega
   ·have hk':k=s.size:=by omega
    have HN:Hid (nameTo s s.size=true):=hk' ▸ hn
    clear hn hk'
    have HB:Hid (nameB s=true):=nameB_of_to h20 HN.out
    go_wp2
    go_ret
    exact ⟨ret_bool HB.out.symm,rfl⟩
 ·have hin:inB (s.size:Int) 1 20=false:=by unfold inB;simp;omega
  have HB:Hid (nameB s=false):=nameB_of_size h20
  go_enter Tryz.func188,Tryz.ntmps188
  go_wp2_with (go_at_call 109;refine (within_any _ _ _ _).mono ?_;rintro e w' ⟨rfl,rfl⟩)
  go_ret
  exact ⟨ret_bool HB.out.symm,rfl⟩
def pieceB (s:ByteArray)(l sp br:Int):Bool:=nameB s&&inB l 1 10000000&&inB sp 1 10000&&inB br 1 1000
theorem pieceB_1 {s:ByteArray}{l sp br:Int}(h:nameB s=false):pieceB s l sp br=false:=by simp [pieceB,h]
theorem pieceB_2 {s:ByteArray}{l sp br:Int}(h:inB l 1 10000000=false):pieceB s l sp br=false:=by simp [pieceB,h]
theorem pieceB_3 {s:ByteArray}{l sp br:Int}(h:inB sp 1 10000=false):pieceB s l sp br=false:=by simp [pieceB,h]
theorem pieceB_4 {s:ByteArray}{l sp br:Int}(h:inB br 1 1000=false):pieceB s l sp br=false:=by simp [pieceB,h]
theorem pieceB_t {s:ByteArray}{l sp br:Int}(h1:nameB s=true)(h2:inB l 1 10000000=true)(h3:inB sp 1 10000=true)(h4:inB br 1 1000=true):pieceB s l sp br=true:=by simp [pieceB,h1,h2,h3,h4]
theorem pieceOk_any (s:ByteArray)(l sp br:Int)(w:World)(hs:s.size≤maxLen):
  Calls Tryz.prog 185 #[.agg #[.string s,.int .i64 l,.int .i64 sp,.int .i64 br]] w fun e w'=>e = .returned (.bool (pieceB s l sp br))∧Below w.heap.size w w':=by
 cases h1:nameB s
 ·have HB:Hid (pieceB s l sp br=false):=pieceB_1 h1
  go_enter Tryz.func185,Tryz.ntmps185
  go_wp2_with (first | (go_at_call 188;refine (nameOk_any _ _ hs).mono ?_;rintro e w' ⟨rfl,rfl⟩) | (go_at_call 109;refine (within_any _ _ _ _).mono ?_;rintro e w' ⟨rfl,rfl⟩))
  go_ret
  exact ⟨ret_bool HB.out.symm,(Below.refl _ _).alloc (Nat.le_refl _) _⟩
 ·cases h2:inB l 1 10000000
  ·have HB:Hid (pieceB s l sp br=false):=pieceB_2 h2
   go_enter Tryz.func185,Tryz.ntmps185
   go_wp2_with (first | (go_at_call 188;refine (nameOk_any _ _ hs).mono ?_;rintro e w' ⟨rfl,rfl⟩) | (go_at_call 109;refine (within_any _ _ _ _).mono ?_;rintro e w' ⟨rfl,rfl⟩))
   go_ret
   exact ⟨ret_bool HB.out.symm,(Below.refl _ _).alloc (Nat.le_refl _) _⟩
  ·cases h3:inB sp 1 10000
   ·have HB:Hid (pieceB s l sp br=false):=pieceB_3 h3
    go_enter Tryz.func185,Tryz.ntmps185
    go_wp2_with (first | (go_at_call 188;refine (nameOk_any _ _ hs).mono ?_;rintro e w' ⟨rfl,rfl⟩) | (go_at_call 109;refine (within_any _ _ _ _).mono ?_;rintro e w' ⟨rfl,rfl⟩))
    go_ret
    exact ⟨ret_bool HB.out.symm,(Below.refl _ _).alloc (Nat.le_refl _) _⟩
   ·cases h4:inB br 1 1000
    ·have HB:Hid (pieceB s l sp br=false):=pieceB_4 h4
     go_enter Tryz.func185,Tryz.ntmps185
     go_wp2_with (first | (go_at_call 188;refine (nameOk_any _ _ hs).mono ?_;rintro e w' ⟨rfl,rfl⟩) | (go_at_call 109;refine (within_any _ _ _ _).mono ?_;rintro e w' ⟨rfl,rfl⟩))
     go_ret
     exact ⟨ret_bool HB.out.symm,(Below.refl _ _).alloc (Nat.le_refl _) _⟩
    ·have HB:Hid (pieceB s l sp br=true):=pieceB_t h1 h2 h3 h4
     go_enter Tryz.func185,Tryz.ntmps185
     go_wp2_with (first | (go_at_call 188;refine (nameOk_any _ _ hs).mono ?_;rintro e w' ⟨rfl,rfl⟩) | (go_at_call 109;refine (within_any _ _ _ _).mono ?_;rintro e w' ⟨rfl,rfl⟩))
     go_ret
     exact ⟨ret_bool HB.out.symm,(Below.refl _ _).alloc (Nat.le_refl _) _⟩
theorem szPiece_any (s:ByteArray)(l sp br left:Int)(w:World)(hs:s.size≤maxLen)(h0:0≤left)(h1:left≤1048576):
  Calls Tryz.prog 51 #[.agg #[.string s,.int .i64 l,.int .i64 sp,.int .i64 br],.int .i64 left] w fun e w'=>e = .returned (.int .i64 (if left<s.size then -1 else left-s.size))∧Below w.heap.size w w':=by
 unfold maxLen at hs
 by_cases hl:left<s.size
 ·rw [if_pos hl]
  go_enter Tryz.func51,Tryz.ntmps51
  go_wp2
  go_ret
  exact ⟨rfl,(Below.refl _ _).alloc (Nat.le_refl _) _⟩
 ·rw [if_neg hl]
  go_enter Tryz.func51,Tryz.ntmps51
  go_wp2
  go_ret
  exact ⟨rfl,(Below.refl _ _).alloc (Nat.le_refl _) _⟩
theorem toPiece_any (s:ByteArray)(l sp br:Int)(w:World):
  Calls Tryz.prog 64 #[.agg #[.string s,.int .i64 l,.int .i64 sp,.int .i64 br]] w fun e w'=>e = .returned (.agg #[.string s,.int .i64 l,.int .i64 sp,.int .i64 br])∧Below w.heap.size w w':=by
 go_enter Tryz.func64,Tryz.ntmps64
 go_wp2
 exact bodyPost_ret (v:=.agg #[.string s,.int .i64 l,.int .i64 sp,.int .i64 br]) (by simp [results,Tryz.results64,go_sem]) rfl ⟨rfl,blo⟩
theorem toEnd_any (p s:Int)(w:World):
  Calls Tryz.prog 130 #[.agg #[.int .i64 p,.int .i64 s]] w fun e w'=>e = .returned (.agg #[.int .i64 p,.int .i64 s])∧Below w.heap.size w w':=by
 go_enter Tryz.func130,Tryz.ntmps130
 go_wp2
 exact bodyPost_ret (v:=.agg #[.int .i64 p,.int .i64 s]) (by simp [results,Tryz.results130,go_sem]) rfl ⟨rfl,blo⟩
theorem eqEnd_any (a b:Int)(w:World):
  Calls Tryz.prog 157 #[.agg #[.int .i64 a,.int .i64 b],.agg #[.int .i64 a,.int .i64 b]] w fun e w'=>e = .returned (.bool true)∧Below w.heap.size w w':=by
 go_enter Tryz.func157,Tryz.ntmps157
 go_wp2
 go_ret
 exact ⟨rfl,blo⟩
theorem eqPiece_any (s:ByteArray)(l sp br:Int)(w:World):
  Calls Tryz.prog 79 #[.agg #[.string s,.int .i64 l,.int .i64 sp,.int .i64 br],.agg #[.string s,.int .i64 l,.int .i64 sp,.int .i64 br]] w fun e w'=>e = .returned (.bool true)∧Below w.heap.size w w':=by
 go_enter Tryz.func79,Tryz.ntmps79
 go_wp2
 go_ret
 exact ⟨rfl,blo⟩
theorem szEndS_any (a:Option Addr)(len cap:Nat)(left:Int)(w:World)(hs:len≤maxLen)(h0:0≤left)(h1:left≤1048576):
  Calls Tryz.prog 90 #[.slice a len cap,.int .i64 left] w fun e w'=>e = .returned (.int .i64 (if left<len then -1 else left-len))∧Below w.heap.size w w':=by
 unfold maxLen at hs
 by_cases hl:left<len
 ·rw [if_pos hl]
  go_enter Tryz.func90,Tryz.ntmps90
  go_wp2
  go_ret
  exact ⟨rfl,blo⟩
 ·rw [if_neg hl]
  go_enter Tryz.func90,Tryz.ntmps90
  go_wp2
  go_ret
  exact ⟨rfl,blo⟩
def sizeB (np nj:Nat):Bool:=decide (0<np∧np≤100∧nj≤120)
theorem netSizeOk_any (pa ja:Option Addr)(pl pc jl jc:Nat)(w:World)(hp:pl≤maxLen)(hj:jl≤maxLen):
  Calls Tryz.prog 166 #[.agg #[.slice pa pl pc,.slice ja jl jc]] w fun e w'=>e = .returned (.bool (sizeB pl jl))∧Below w.heap.size w w':=by
 unfold maxLen at hp hj
 by_cases h1:0<pl
 ·by_cases h2:pl≤100
  ·go_enter Tryz.func166,Tryz.ntmps166
   go_wp2
   go_ret
   exact ⟨ret_bool (by unfold sizeB;rw [Bool.eq_iff_iff];simp;omega),blo⟩
  ·have HB:Hid (sizeB pl jl=false):=by unfold Hid sizeB;simp;omega
   go_enter Tryz.func166,Tryz.ntmps166
   go_wp2
   go_ret
   exact ⟨ret_bool HB.out.symm,blo⟩
 ·have HB:Hid (sizeB pl jl=false):=by unfold Hid sizeB;simp;omega
  go_enter Tryz.func166,Tryz.ntmps166
  go_wp2
  go_ret
  exact ⟨ret_bool HB.out.symm,blo⟩
def endB (np:Nat)(p s:Int):Bool:=inB p 0 ((np:Int)-1)&&inB s 0 1
theorem l1end_any (pa ja:Option Addr)(pl pc jl jc:Nat)(p s:Int)(w:World)(hp:pl≤maxLen):
  Calls Tryz.prog 184 #[.agg #[.slice pa pl pc,.slice ja jl jc],.agg #[.int .i64 p,.int .i64 s]] w fun e w'=>e = .returned (.bool (endB pl p s))∧Below w.heap.size w w':=by
 unfold maxLen at hp
 cases h1:inB p 0 ((pl:Int)-1)
 ·have HB:Hid (endB pl p s=false):=by unfold Hid endB;simp [h1]
  go_enter Tryz.func184,Tryz.ntmps184
  go_wp2_with (go_at_call 33;refine (l1in_any _ _ _ _).mono ?_;rintro e w' ⟨rfl,rfl⟩)
  go_ret
  exact ⟨ret_bool HB.out.symm,blo⟩
 ·have HB:Hid (inB s 0 1=endB pl p s):=by unfold Hid endB;simp [h1]
  go_enter Tryz.func184,Tryz.ntmps184
  go_wp2_with (go_at_call 33;refine (l1in_any _ _ _ _).mono ?_;rintro e w' ⟨rfl,rfl⟩)
  go_ret
  exact ⟨ret_bool HB.out,blo⟩
structure MPiece where
 name:ByteArray
 len:Int
 speed:Int
 brake:Int
structure MEnd where
 piece:Int
 side:Int
structure MJoint where
 kind:Int
 name:ByteArray
 ends:List MEnd
theorem cellLt {w:World}{a:Addr}{v:Value}(h:w.cell? a=some v):a.block<w.heap.size:=World.block_lt_of_cell? _ _ h
def PieceCells (w:World)(b off:Nat)(ps:List MPiece):Prop:=
 ∀ i (h:i<ps.length),w.cell? ⟨b,off+i*4,none⟩=some (.string ps[i].name)∧w.cell? ⟨b,off+i*4+1,none⟩=some (.int .i64 ps[i].len) ∧
  w.cell? ⟨b,off+i*4+2,none⟩=some (.int .i64 ps[i].speed)∧w.cell? ⟨b,off+i*4+3,none⟩=some (.int .i64 ps[i].brake)
theorem PieceCells.below {w w':World}{b off:Nat}{ps:List MPiece}(h:PieceCells w b off ps)(hb:Below w.heap.size w w'):PieceCells w' b off ps:=by
 intro i hi
 obtain ⟨h1,h2,h3,h4⟩:=h i hi
 exact ⟨cell_later hb h1,cell_later hb h2,cell_later hb h3,cell_later hb h4⟩
def PiecesAt (w:World)(a:Option Addr)(ps:List MPiece):Prop:=
 ps.length≤maxLen∧(∀ p,p ∈ ps→p.name.size≤maxLen)∧(ps=[]∨∃ b off,a=some ⟨b,off,none⟩∧PieceCells w b off ps)
theorem PiecesAt.below {w w':World}{a:Option Addr}{ps:List MPiece}(h:PiecesAt w a ps)(hb:Below w.heap.size w w'):PiecesAt w' a ps:=by
 obtain ⟨h1,h2,h3⟩:=h
 refine ⟨h1,h2,?_⟩
 rcases h3 with h3 | ⟨b,off,h3,h4⟩
 ·exact Or.inl h3
 ·exact Or.inr ⟨b,off,h3,h4.below hb⟩
def szP (left:Int):List MPiece→Int
 | []=>left
 | p::r=>if left<p.name.size then -1 else szP (left-p.name.size) r
theorem szPieceS_walk (b off cap:Nat)(ps:List MPiece)(left:Int)(w:World)(hl:ps.length≤maxLen)(hn:Hid (∀ p,p ∈ ps→p.name.size≤maxLen))(hc:Hid (PieceCells w b off ps))(h0:0≤left)(h1:left≤1048576):
  Calls Tryz.prog 27 #[.slice (some ⟨b,off,none⟩) ps.length cap,.int .i64 left] w fun e w'=>e = .returned (.int .i64 (if left<ps.length then -1 else szP (left-ps.length) ps))∧Below w.heap.size w w':=by
 unfold maxLen at hl
 by_cases hlt:left<ps.length
 ·rw [if_pos hlt]
  go_enter Tryz.func27,Tryz.ntmps27
  go_wp2
  go_ret
  exact ⟨rfl,blo⟩
 ·rw [if_neg hlt]
  go_enter Tryz.func27,Tryz.ntmps27
  go_wp2_with fail
  go_loopw [1,5] (fun l i wr => ∃ (k:Nat) (lf:Int),k≤ps.length∧i = .int .i64 k∧l = .int .i64 lf∧0≤lf∧lf≤1048576∧Hid (szP (left-ps.length) ps=szP lf (ps.drop k))∧Below w.heap.size w wr) (fun _ i _=>ps.length-(intOf i).toNat)
  case atStart=>exact ⟨0,left-ps.length,Nat.zero_le _,rfl,rfl,by omega,by omega,rfl,blo⟩
  case round =>
   obtain ⟨k,lf,hk,rfl,rfl,hf0,hf1,HZ,hb⟩:=hrel
   by_cases hk':k<ps.length
   ·obtain ⟨c1,c2,c3,c4⟩:=(hc.out.below hb) k hk'
    have hsz:ps[k].name.size≤maxLen:=hn.out _ (List.getElem_mem hk')
    have HD:Hid (szP lf (ps.drop k)=if lf<ps[k].name.size then -1 else szP (lf-ps[k].name.size) (ps.drop (k+1))):=by
     unfold Hid
     rw [List.drop_eq_getElem_cons hk']
     rfl
    by_cases hs:lf<ps[k].name.size
    ·have HE:Hid (szP (left-ps.length) ps = -1):=by
      have h:=HD.out
      rw [if_pos hs] at h
      exact HZ.out.trans h
     clear HZ HD
     go_wp2_with (go_at_call 51;refine (szPiece_any _ _ _ _ _ _ hsz hf0 hf1).mono ?_;rintro e w1 ⟨rfl,hb1⟩;rw [if_pos hs])
     go_ret
     exact ⟨ret_int HE.out.symm,hb.trans (hb1.mono hb.size)⟩
    ·have HE:Hid (szP (left-ps.length) ps=szP (lf-ps[k].name.size) (ps.drop (k+1))):=by
      have h:=HD.out
      rw [if_neg hs] at h
      exact HZ.out.trans h
     clear HZ HD
     go_wp2_with (go_at_call 51;refine (szPiece_any _ _ _ _ _ _ hsz hf0 hf1).mono ?_;rintro e w1 ⟨rfl,hb1⟩;rw [if_neg hs])
     go_roundw
     case rel=>exact ⟨k+1,_,by omega,by go_num,rfl,by omega,by omega,HE,hb.trans (hb1.mono hb.size)⟩
     case measure=>simp [intOf];omega
   ·have HE:Hid (szP (left-ps.length) ps=lf):=by
     have h:=HZ.out
     rw [List.drop_of_length_le (by omega)] at h
     exact h
    clear HZ
    go_wp2
    go_ret
    exact ⟨ret_int HE.out.symm,hb⟩
theorem szPieceS_nil (a:Option Addr)(cap:Nat)(left:Int)(w:World)(h0:0≤left)(h1:left≤1048576):
  Calls Tryz.prog 27 #[.slice a 0 cap,.int .i64 left] w fun e w'=>e = .returned (.int .i64 left)∧Below w.heap.size w w':=by
 go_enter Tryz.func27,Tryz.ntmps27
 go_wp2_with fail
 go_loopw [1,5] (fun l i wr=>i = .int .i64 0∧l = .int .i64 left∧wr=w) (fun _ _ _=>0)
 case atStart=>exact ⟨rfl,by simp,rfl⟩
 case round =>
  obtain ⟨rfl,rfl,rfl⟩:=hrel
  go_wp2
  go_ret
  exact ⟨rfl,blo⟩
theorem szPieceS_any (a:Option Addr)(cap:Nat)(ps:List MPiece)(left:Int)(w:World)(hp:PiecesAt w a ps)(h0:0≤left)(h1:left≤1048576):
  Calls Tryz.prog 27 #[.slice a ps.length cap,.int .i64 left] w fun e w'=>e = .returned (.int .i64 (if left<ps.length then -1 else szP (left-ps.length) ps))∧Below w.heap.size w w':=by
 obtain ⟨hl,hn,h⟩:=hp
 rcases h with rfl | ⟨b,off,rfl,hc⟩
 ·rw [if_neg (by simp;omega)]
  have:=szPieceS_nil a cap left w h0 h1
  simpa [szP] using this
 ·exact szPieceS_walk b off cap ps left w hl hn hc h0 h1
def EndCells (w:World)(b off:Nat)(es:List MEnd):Prop:=
 ∀ i (h:i<es.length),w.cell? ⟨b,off+i*2,none⟩=some (.int .i64 es[i].piece)∧w.cell? ⟨b,off+i*2+1,none⟩=some (.int .i64 es[i].side)
theorem EndCells.below {w w':World}{b off:Nat}{es:List MEnd}(h:EndCells w b off es)(hb:Below w.heap.size w w'):EndCells w' b off es:=by
 intro i hi
 obtain ⟨h1,h2⟩:=h i hi
 exact ⟨cell_later hb h1,cell_later hb h2⟩
def EndsAt (w:World)(a:Option Addr)(es:List MEnd):Prop:=
 es.length≤maxLen∧(es=[]∨∃ b off,a=some ⟨b,off,none⟩∧EndCells w b off es)
theorem EndsAt.below {w w':World}{a:Option Addr}{es:List MEnd}(h:EndsAt w a es)(hb:Below w.heap.size w w'):EndsAt w' a es:=by
 obtain ⟨h1,h3⟩:=h
 refine ⟨h1,?_⟩
 rcases h3 with h3 | ⟨b,off,h3,h4⟩
 ·exact Or.inl h3
 ·exact Or.inr ⟨b,off,h3,h4.below hb⟩
def JointCells (w:World)(b off:Nat)(js:List MJoint):Prop:=
 ∀ i (h:i<js.length),w.cell? ⟨b,off+i*3,none⟩=some (.int .i64 js[i].kind)∧w.cell? ⟨b,off+i*3+1,none⟩=some (.string js[i].name) ∧
  ∃ ea ec,w.cell? ⟨b,off+i*3+2,none⟩=some (.slice ea js[i].ends.length ec)∧EndsAt w ea js[i].ends
theorem JointCells.below {w w':World}{b off:Nat}{js:List MJoint}(h:JointCells w b off js)(hb:Below w.heap.size w w'):JointCells w' b off js:=by
 intro i hi
 obtain ⟨h1,h2,ea,ec,h3,h4⟩:=h i hi
 exact ⟨cell_later hb h1,cell_later hb h2,ea,ec,cell_later hb h3,h4.below hb⟩
def JointsAt (w:World)(a:Option Addr)(js:List MJoint):Prop:=
 js.length≤maxLen∧(∀ p,p ∈ js→p.name.size≤maxLen)∧(js=[]∨∃ b off,a=some ⟨b,off,none⟩∧JointCells w b off js)
theorem JointsAt.below {w w':World}{a:Option Addr}{js:List MJoint}(h:JointsAt w a js)(hb:Below w.heap.size w w'):JointsAt w' a js:=by
 obtain ⟨h1,h2,h3⟩:=h
 refine ⟨h1,h2,?_⟩
 rcases h3 with h3 | ⟨b,off,h3,h4⟩
 ·exact Or.inl h3
 ·exact Or.inr ⟨b,off,h3,h4.below hb⟩
def szJ (left:Int):List MJoint→Int
 | []=>left
 | p::r=>if left<p.name.size then -1 else if left-p.name.size<p.ends.length then -1 else szJ (left-p.name.size-p.ends.length) r
def szJ1 (left:Int)(a b:Nat):Int:=if left<a then -1 else if left-a<b then -1 else left-a-b
theorem szJoint_any (kd:Int)(s:ByteArray)(ea:Option Addr)(el ec:Nat)(left:Int)(w:World)(hs:s.size≤maxLen)(he:el≤maxLen)(h0:0≤left)(h1:left≤1048576):
  Calls Tryz.prog 52 #[.agg #[.int .i64 kd,.string s,.slice ea el ec],.int .i64 left] w fun e w'=>e = .returned (.int .i64 (szJ1 left s.size el))∧Below w.heap.size w w':=by
 unfold maxLen at hs
 unfold szJ1
 by_cases hl:left<s.size
 ·rw [if_pos hl]
  go_enter Tryz.func52,Tryz.ntmps52
  go_wp2
  go_ret
  exact ⟨rfl,blo⟩
 ·rw [if_neg hl]
  by_cases hl2:left-s.size<el
  ·rw [if_pos hl2]
   go_enter Tryz.func52,Tryz.ntmps52
   go_wp2_with (go_at_call 90;refine (szEndS_any _ _ _ _ _ he (by omega) (by omega)).mono ?_;rintro e w1 ⟨rfl,hb1⟩;rw [if_pos hl2])
   go_ret
   exact ⟨rfl,(show Below w.heap.size w (w.alloc _) from blo).trans (hb1.mono (by simp))⟩
  ·rw [if_neg hl2]
   go_enter Tryz.func52,Tryz.ntmps52
   go_wp2_with (go_at_call 90;refine (szEndS_any _ _ _ _ _ he (by omega) (by omega)).mono ?_;rintro e w1 ⟨rfl,hb1⟩;rw [if_neg hl2])
   go_ret
   exact ⟨rfl,(show Below w.heap.size w (w.alloc _) from blo).trans (hb1.mono (by simp))⟩
theorem szJ1_cons (left:Int)(p:MJoint)(r:List MJoint):szJ left (p::r)=if szJ1 left p.name.size p.ends.length<0 then -1 else szJ (szJ1 left p.name.size p.ends.length) r:=by
 by_cases h:left<p.name.size
 ·have e:szJ1 left p.name.size p.ends.length = -1:=by unfold szJ1;rw [if_pos h]
  rw [e];simp [szJ,h]
 ·by_cases h2:left-p.name.size<p.ends.length
  ·have e:szJ1 left p.name.size p.ends.length = -1:=by unfold szJ1;rw [if_neg h,if_pos h2]
   rw [e];simp [szJ,h,h2]
  ·have e:szJ1 left p.name.size p.ends.length=left-p.name.size-p.ends.length:=by unfold szJ1;rw [if_neg h,if_neg h2]
   rw [e,if_neg (by omega)]
   simp [szJ,h,h2]
theorem szJ1_le (left:Int)(h0:0≤left)(a b:Nat):szJ1 left a b≤left:=by
 unfold szJ1
 split
 ·omega
 ·split <;> omega
theorem szJ1_neg (left:Int)(a b:Nat)(h:szJ1 left a b<0):szJ1 left a b = -1:=by
 unfold szJ1 at h ⊢
 split
 ·rfl
 ·split
  ·rfl
  ·rename_i h1 h2
   rw [if_neg h1,if_neg h2] at h
   omega
theorem szJointS_walk (b off cap:Nat)(ps:List MJoint)(left:Int)(w:World)(hl:ps.length≤maxLen)(hn:Hid (∀ p,p ∈ ps→p.name.size≤maxLen))(hc:Hid (JointCells w b off ps))(h0:0≤left)(h1:left≤1048576):
  Calls Tryz.prog 28 #[.slice (some ⟨b,off,none⟩) ps.length cap,.int .i64 left] w fun e w'=>e = .returned (.int .i64 (if left<ps.length then -1 else szJ (left-ps.length) ps))∧Below w.heap.size w w':=by
 unfold maxLen at hl
 by_cases hlt:left<ps.length
 ·rw [if_pos hlt]
  go_enter Tryz.func28,Tryz.ntmps28
  go_wp2
  go_ret
  exact ⟨rfl,blo⟩
 ·rw [if_neg hlt]
  go_enter Tryz.func28,Tryz.ntmps28
  go_wp2_with fail
  go_loopw [1,5] (fun l i wr => ∃ (k:Nat) (lf:Int),k≤ps.length∧i = .int .i64 k∧l = .int .i64 lf∧0≤lf∧lf≤1048576∧Hid (szJ (left-ps.length) ps=szJ lf (ps.drop k))∧Below w.heap.size w wr) (fun _ i _=>ps.length-(intOf i).toNat)
  case atStart=>exact ⟨0,left-ps.length,Nat.zero_le _,rfl,rfl,by omega,by omega,rfl,blo⟩
  case round =>
   obtain ⟨k,lf,hk,rfl,rfl,hf0,hf1,HZ,hb⟩:=hrel
   by_cases hk':k<ps.length
   ·obtain ⟨c1,c2,ea,ec,c3,c4⟩:=(hc.out.below hb) k hk'
    have hel:=c4.1
    clear c4
    have hsz:ps[k].name.size≤maxLen:=hn.out _ (List.getElem_mem hk')
    have HD:Hid (szJ lf (ps.drop k)=if szJ1 lf ps[k].name.size ps[k].ends.length<0 then -1 else szJ (szJ1 lf ps[k].name.size ps[k].ends.length) (ps.drop (k+1))):=by
     unfold Hid
     rw [List.drop_eq_getElem_cons hk']
     exact szJ1_cons lf _ _
    have hle:=szJ1_le lf hf0 ps[k].name.size ps[k].ends.length
    have HNEG:Hid (szJ1 lf ps[k].name.size ps[k].ends.length<0→szJ1 lf ps[k].name.size ps[k].ends.length = -1):=szJ1_neg lf _ _
    by_cases hs:szJ1 lf ps[k].name.size ps[k].ends.length<0
    ·have HE:Hid (szJ (left-ps.length) ps = -1):=by
      have h:=HD.out
      rw [if_pos hs] at h
      exact HZ.out.trans h
     clear HZ HD
     go_wp2_with (go_at_call 52;refine (szJoint_any _ _ _ _ _ _ _ hsz hel hf0 hf1).mono ?_;rintro e w1 ⟨rfl,hb1⟩;rw [HNEG.out hs])
     go_ret
     exact ⟨ret_int HE.out.symm,hb.trans (hb1.mono hb.size)⟩
    ·have HE:Hid (szJ (left-ps.length) ps=szJ (szJ1 lf ps[k].name.size ps[k].ends.length) (ps.drop (k+1))):=by
      have h:=HD.out
      rw [if_neg hs] at h
      exact HZ.out.trans h
     clear HZ HD
     go_wp2_with (go_at_call 52;refine (szJoint_any _ _ _ _ _ _ _ hsz hel hf0 hf1).mono ?_;rintro e w1 ⟨rfl,hb1⟩)
     go_roundw
     case rel=>exact ⟨k+1,_,by omega,by go_num,rfl,by omega,by omega,HE,hb.trans (hb1.mono hb.size)⟩
     case measure=>simp [intOf];omega
   ·have HE:Hid (szJ (left-ps.length) ps=lf):=by
     have h:=HZ.out
     rw [List.drop_of_length_le (by omega)] at h
     exact h
    clear HZ
    go_wp2
    go_ret
    exact ⟨ret_int HE.out.symm,hb⟩
theorem szJointS_nil (a:Option Addr)(cap:Nat)(left:Int)(w:World)(h0:0≤left)(h1:left≤1048576):
  Calls Tryz.prog 28 #[.slice a 0 cap,.int .i64 left] w fun e w'=>e = .returned (.int .i64 left)∧Below w.heap.size w w':=by
 go_enter Tryz.func28,Tryz.ntmps28
 go_wp2_with fail
 go_loopw [1,5] (fun l i wr=>i = .int .i64 0∧l = .int .i64 left∧wr=w) (fun _ _ _=>0)
 case atStart=>exact ⟨rfl,by simp,rfl⟩
 case round =>
  obtain ⟨rfl,rfl,rfl⟩:=hrel
  go_wp2
  go_ret
  exact ⟨rfl,blo⟩
theorem szJointS_any (a:Option Addr)(cap:Nat)(ps:List MJoint)(left:Int)(w:World)(hp:JointsAt w a ps)(h0:0≤left)(h1:left≤1048576):
  Calls Tryz.prog 28 #[.slice a ps.length cap,.int .i64 left] w fun e w'=>e = .returned (.int .i64 (if left<ps.length then -1 else szJ (left-ps.length) ps))∧Below w.heap.size w w':=by
 obtain ⟨hl,hn,h⟩:=hp
 rcases h with rfl | ⟨b,off,rfl,hc⟩
 ·rw [if_neg (by simp;omega)]
  have:=szJointS_nil a cap left w h0 h1
  simpa [szJ] using this
 ·exact szJointS_walk b off cap ps left w hl hn hc h0 h1
end Go.Proofs.YtmkdgnmmebldgabGreatDoor
namespace Go.Proofs.YtmkdgnmmebldgabGreatDoor
open Go.RowKit Go.Deep
theorem Tryz.infoP:(Tryz.prog.info? 135).map (fun i=>(i.zero,i.size,i.bytes))=some (some (.agg #[.string ⟨#[]⟩,.int .i64 0,.int .i64 0,.int .i64 0]),4,40):=by kernel_rfl
theorem Tryz.infoE:(Tryz.prog.info? 192).map (fun i=>(i.zero,i.size,i.bytes))=some (some (.agg #[.int .i64 0,.int .i64 0]),2,16):=by kernel_rfl
theorem Tryz.infoJ:(Tryz.prog.info? 138).map (fun i=>(i.zero,i.size,i.bytes))=some (some (.agg #[.int .i64 0,.string ⟨#[]⟩,.slice none 0 0]),3,48):=by kernel_rfl
theorem bcell {W w1:World}(hb:Below W.heap.size W w1):(∀ b o,b<W.heap.size→w1.cell? ⟨b,o,none⟩=W.cell? ⟨b,o,none⟩)∧(∀ b o,b<W.heap.size→w1.frozen? ⟨b,o,none⟩=W.frozen? ⟨b,o,none⟩):=
 ⟨fun b o h=>hb.cell (p:=⟨b,o,none⟩) h,fun b o h=>hb.frozen (p:=⟨b,o,none⟩) h⟩
theorem hidP {p:Prop}(h:p):Hid p:=h
theorem make_structs {P:Program}(w:World)(t e:TypeId)(z:Value)(size bytes:Nat)(ht:P.underlying t=some (.slice e))(hinfo:(P.info? e).map (fun i=>(i.zero,i.size,i.bytes))=some (some z,size,bytes))
  (hb:bytes≤100) (n:Nat) (hn:n≤1048576) :
  ∃ w',(Instr.makeSlice t (.int .i64 (n:Int)) (.int .i64 (n:Int))).run P w = .ok (.slice (some ⟨w.heap.size,0,none⟩) n n) w' ∧
   (∃ f,w'.rowIs w.heap.size e (n*size) f)∧Below w.heap.size w w'∧w'.heap.size=w.heap.size+1:=by
 obtain ⟨i,hi,hi2⟩:=Option.map_eq_some_iff.1 hinfo
 simp only [Prod.mk.injEq] at hi2
 obtain ⟨hz,hs,hby⟩:=hi2
 have hlt:i.bytes*n≤100*1048576:=Nat.mul_le_mul (by omega) hn
 have h2:(i.bytes:Int)*(n:Int)=((i.bytes*n:Nat):Int):=by simp
 have h3:(i.bytes:Int)*(n:Int)≤281474976710656:=by rw [h2];exact Int.le_trans (Int.ofNat_le.2 hlt) (by decide)
 have h:=run_make (P:=P) w t e i z ht hi hz .i64 .i64 (n:Int) (n:Int) (by omega) (by omega) h3 (by omega)
 refine ⟨_,h,⟨fun j=>(madeCells z.cells (n*size)).getD j (.bool false),?_⟩,(Below.refl _ _).alloc (Nat.le_refl _) _,by simp⟩
 have hr:=World.rowIs_alloc w (madeCells z.cells (n*size)) e (fun j=>(madeCells z.cells (n*size)).getD j (.bool false)) (by intro j hj;simp only [Array.getD,hj,dite_true];exact Array.getElem?_eq_getElem hj)
 rw [size_madeCells] at hr
 simp only [Int.toNat_natCast,hs]
 exact hr
def PieceRow (ps:List MPiece)(k:Nat)(f:Nat→Value):Prop:=
 ∀ i (h:i<ps.length),i<k→f (i*4) = .string ps[i].name∧f (i*4+1) = .int .i64 ps[i].len∧f (i*4+2) = .int .i64 ps[i].speed∧f (i*4+3) = .int .i64 ps[i].brake
theorem PieceRow.next {ps:List MPiece}{k:Nat}{f:Nat→Value}(h:PieceRow ps k f)(hk:k<ps.length):
  PieceRow ps (k+1) (fun j=>if j=k*4+3 then .int .i64 ps[k].brake else if j=k*4+2 then .int .i64 ps[k].speed else if j=k*4+1 then .int .i64 ps[k].len else if j=k*4 then .string ps[k].name else f j):=by
 intro i hi hik
 by_cases e:i=k
 ·subst e
  simp
 ·have h1:=h i hi (by omega)
  refine ⟨?_,?_,?_,?_⟩
  ·dsimp only;rw [if_neg (by omega),if_neg (by omega),if_neg (by omega),if_neg (by omega)];exact h1.1
  ·dsimp only;rw [if_neg (by omega),if_neg (by omega),if_neg (by omega),if_neg (by omega)];exact h1.2.1
  ·dsimp only;rw [if_neg (by omega),if_neg (by omega),if_neg (by omega),if_neg (by omega)];exact h1.2.2.1
  ·dsimp only;rw [if_neg (by omega),if_neg (by omega),if_neg (by omega),if_neg (by omega)];exact h1.2.2.2
theorem pieceCells_of_row {w:World}{g:Nat}{t:TypeId}{ps:List MPiece}{f:Nat→Value}(h:w.rowIs g t (ps.length*4) f)(hr:PieceRow ps ps.length f):PieceCells w g 0 ps:=by
 intro i hi
 obtain ⟨h1,h2,h3,h4⟩:=hr i hi hi
 simp only [Nat.zero_add]
 exact ⟨by rw [h.cell (by omega),h1],by rw [h.cell (by omega),h2],by rw [h.cell (by omega),h3],by rw [h.cell (by omega),h4]⟩
def EndRow (ps:List MEnd)(k:Nat)(f:Nat→Value):Prop:=
 ∀ i (h:i<ps.length),i<k→f (i*2) = .int .i64 ps[i].piece∧f (i*2+1) = .int .i64 ps[i].side
theorem EndRow.next {ps:List MEnd}{k:Nat}{f:Nat→Value}(h:EndRow ps k f)(hk:k<ps.length):
  EndRow ps (k+1) (fun j=>if j=k*2+1 then .int .i64 ps[k].side else if j=k*2 then .int .i64 ps[k].piece else f j):=by
 intro i hi hik
 by_cases e:i=k
 ·subst e
  simp
 ·have h1:=h i hi (by omega)
  refine ⟨?_,?_⟩
  ·dsimp only;rw [if_neg (by omega),if_neg (by omega)];exact h1.1
  ·dsimp only;rw [if_neg (by omega),if_neg (by omega)];exact h1.2
theorem endCells_of_row {w:World}{g:Nat}{t:TypeId}{ps:List MEnd}{f:Nat→Value}(h:w.rowIs g t (ps.length*2) f)(hr:EndRow ps ps.length f):EndCells w g 0 ps:=by
 intro i hi
 obtain ⟨h1,h2⟩:=hr i hi hi
 simp only [Nat.zero_add]
 exact ⟨by rw [h.cell (by omega),h1],by rw [h.cell (by omega),h2]⟩
end Go.Proofs.YtmkdgnmmebldgabGreatDoor
