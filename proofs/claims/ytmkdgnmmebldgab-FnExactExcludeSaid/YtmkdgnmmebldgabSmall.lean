import Derived.Test.YtmkdgnmmebldgabName
namespace Go.Proofs.Ytmkdgnmmebldgab
open Go.RowKit

def pieceB (s : ByteArray) (l sp br : Int) : Bool := nameB s && inB l 1 10000000 && inB sp 1 10000 && inB br 1 1000

theorem pieceB_1 {s : ByteArray} {l sp br : Int} (h : nameB s = false) : pieceB s l sp br = false := by simp [pieceB, h]
theorem pieceB_2 {s : ByteArray} {l sp br : Int} (h : inB l 1 10000000 = false) : pieceB s l sp br = false := by simp [pieceB, h]
theorem pieceB_3 {s : ByteArray} {l sp br : Int} (h : inB sp 1 10000 = false) : pieceB s l sp br = false := by simp [pieceB, h]
theorem pieceB_4 {s : ByteArray} {l sp br : Int} (h : inB br 1 1000 = false) : pieceB s l sp br = false := by simp [pieceB, h]
theorem pieceB_t {s : ByteArray} {l sp br : Int} (h1 : nameB s = true) (h2 : inB l 1 10000000 = true) (h3 : inB sp 1 10000 = true) (h4 : inB br 1 1000 = true) : pieceB s l sp br = true := by simp [pieceB, h1, h2, h3, h4]

def sizeB (np nj : Nat) : Bool := decide (0 < np ∧ np ≤ 100 ∧ nj ≤ 120)

def endB (np : Nat) (p s : Int) : Bool := inB p 0 ((np : Int) - 1) && inB s 0 1

end Go.Proofs.Ytmkdgnmmebldgab
