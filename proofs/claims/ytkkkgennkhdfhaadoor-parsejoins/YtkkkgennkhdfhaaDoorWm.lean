/- What Text answers at the four texts of the small check. -/
import Derived.Test.YtkkkgennkhdfhaaDoorRdY
namespace Go.Proofs.YtkkkgennkhdfhaaDoor
open Go Go.RowKit
open G (Tok Er Ins Fun)

def sSmall : ByteArray := { data := #[102, 117, 110, 99, 32, 109, 97, 105, 110, 40, 105, 32, 112, 41, 32, 105, 32, 123, 32, 98, 48, 58, 32, 37, 50, 32, 61, 32, 99, 111, 110, 115, 116, 32, 45, 53, 32, 37, 51, 32, 61, 32, 110, 101, 119, 32, 105, 112, 32, 115, 116, 111, 114, 101, 46, 112, 32, 37, 51, 32, 49, 32, 37, 49, 32, 98, 114, 32, 98, 49, 32, 98, 49, 58, 32, 37, 52, 32, 61, 32, 112, 104, 105, 46, 105, 32, 98, 48, 32, 37, 50, 32, 98, 49, 32, 37, 53, 32, 37, 53, 32, 61, 32, 97, 100, 100, 32, 37, 52, 32, 37, 48, 32, 37, 54, 32, 61, 32, 99, 97, 108, 108, 46, 105, 32, 64, 55, 32, 102, 32, 37, 51, 32, 105, 102, 32, 37, 54, 32, 98, 49, 32, 98, 50, 32, 98, 50, 58, 32, 111, 117, 116, 32, 37, 53, 32, 114, 101, 116, 32, 37, 53, 32, 125, 32, 102, 117, 110, 99, 32, 102, 40, 112, 41, 32, 105, 32, 123, 32, 98, 48, 58, 32, 37, 49, 32, 61, 32, 108, 111, 97, 100, 46, 105, 32, 37, 48, 32, 48, 32, 114, 101, 116, 32, 37, 49, 32, 125] }
def sX : ByteArray := { data := #[102, 117, 110, 99, 32, 109, 97, 105, 110, 40, 41, 32, 110, 32, 123, 32, 98, 48, 58, 32, 120, 32, 125] }
def sB : ByteArray := { data := #[102, 117, 110, 99, 32, 109, 97, 105, 110, 40, 41, 32, 110, 32, 123, 32, 98, 49, 58, 32, 114, 101, 116, 32, 125] }
def sF : ByteArray := { data := #[102, 117, 110, 99] }
def okOf (r : Except Er (List Fun)) : List Fun := match r with | .ok xs => xs | .error _ => []
def erOf (r : Except Er (List Fun)) : Er := match r with | .ok _ => (0, 0) | .error e => e
def x21 : Ins := (21, 6, 7, 1, [3], [], [102], 113)
def bOne : List Ins := [(20, 4, 0, 1, [2, 5], [0, 1], [], 75), (2, 5, 0, 0, [4, 0], [], [], 98), x21, (27, -1, 0, 0, [6], [1, 2], [], 133)]
def bNought : List Ins := [(1, 2, -5, 0, [], [], [], 23), (10, 3, 0, 0, [], [], [105, 112], 37), (14, -1, 1, 0, [3, 1], [], [], 49), (26, -1, 0, 0, [], [1], [], 65)]
def bTwo : List Ins := [(22, -1, 0, 0, [5], [], [], 149), (28, -1, 0, 0, [5], [], [], 156)]
def fMain : Fun := ([109, 97, 105, 110], [1, 2], 1, [bNought, bOne, bTwo], 0)
def fF : Fun := ([102], [2], 1, [[(11, 1, 0, 0, [0], [], [], 183), (28, -1, 0, 0, [1], [], [], 200)]], 165)
def dec0 : DecidableEq (List UInt8 × Int) := instDecidableEqProd
def dec1 : DecidableEq (List Int × List UInt8 × Int) := @instDecidableEqProd _ _ _ dec0
def dec2 : DecidableEq (List Int × List Int × List UInt8 × Int) := @instDecidableEqProd _ _ _ dec1
def dec3 : DecidableEq (Int × List Int × List Int × List UInt8 × Int) := @instDecidableEqProd _ _ _ dec2
def dec4 : DecidableEq (Int × Int × List Int × List Int × List UInt8 × Int) := @instDecidableEqProd _ _ _ dec3
def dec5 : DecidableEq (Int × Int × Int × List Int × List Int × List UInt8 × Int) := @instDecidableEqProd _ _ _ dec4
def dec6 : DecidableEq Ins := @instDecidableEqProd _ _ _ dec5
def dec7 : DecidableEq (List Ins) := @instDecidableEqList _ dec6
def dec8 : DecidableEq (List (List Ins)) := @instDecidableEqList _ dec7
def dec9 : DecidableEq (List (List Ins) × Int) := @instDecidableEqProd _ _ dec8 _
def decA : DecidableEq (Int × List (List Ins) × Int) := @instDecidableEqProd _ _ _ dec9
def decB : DecidableEq (List Int × Int × List (List Ins) × Int) := @instDecidableEqProd _ _ _ decA
def decC : DecidableEq Fun := @instDecidableEqProd _ _ _ decB
def decD : DecidableEq (List Fun) := @instDecidableEqList _ decC
def same (r : Except Er (List Fun)) (q : Except Er (List Fun)) : Bool := match r, q with
  | .ok xs, .ok ys => @decide (xs = ys) (decD xs ys)
  | .error x, .error y => decide (x = y)
  | _, _ => false
theorem same_eq {r q : Except Er (List Fun)} (h : same r q = true) : r = q := by
  unfold same at h
  split at h
  · rename_i xs ys
    rw [@of_decide_eq_true _ (decD xs ys) h]
  · rw [of_decide_eq_true h]
  · exact absurd h (by simp)
theorem small_is : textG sSmall = .ok [fMain, fF] := same_eq (by decide +kernel)
theorem x_is : textG sX = .error (2, 20) := same_eq (by decide +kernel)
theorem b_is : textG sB = .error (7, 16) := same_eq (by decide +kernel)
theorem f_is : textG sF = .error (4, 4) := same_eq (by decide +kernel)
end Go.Proofs.YtkkkgennkhdfhaaDoor
