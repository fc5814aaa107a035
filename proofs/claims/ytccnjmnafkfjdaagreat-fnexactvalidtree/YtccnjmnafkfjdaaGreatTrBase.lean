import Derived.Test.YtccnjmnafkfjdaaGreatVtFits
namespace Go.Proofs.YtccnjmnafkfjdaaGreat.vt
open Go.RowKit Go.Proofs.YtccnjmnafkfjdaaGreat.bts Go.Proofs.YtccnjmnafkfjdaaGreat.nod Go.Proofs.YtccnjmnafkfjdaaGreat.lex

/-- A tree of nodes, of at most D floors. -/
def Tr : Nat → Type
  | 0 => Unit
  | D + 1 => Nd × List (Tr D)
def tr0 : (D : Nat) → Tr D
  | 0 => ()
  | _ + 1 => (nd0, [])
def mkT {D : Nat} (d : Nd) (ks : List (Tr D)) : Tr (D + 1) := (d, ks)
/-- The first node of a tree. -/
def dT : {D : Nat} → Tr D → Nd
  | 0, _ => nd0
  | _ + 1, t => t.1
def kindT {D : Nat} (t : Tr D) : Int := (dT t).kind
/-- The kinds of its children. -/
def kkT : {D : Nat} → Tr D → List Int
  | 0, _ => []
  | _ + 1, t => t.2.map kindT
def sizeT : {D : Nat} → Tr D → Nat
  | 0, _ => 1
  | _ + 1, t => 1 + (t.2.map sizeT).sum
theorem size_pos {D : Nat} (t : Tr D) : 0 < sizeT t := by
  cases D with
  | zero => unfold sizeT; omega
  | succ D => unfold sizeT; omega
theorem sum_at {α : Type} (f : α → Nat) (z : α) : ∀ {ts : List α} {k : Nat}, k < ts.length → f (ts.getD k z) ≤ (ts.map f).sum
  | [], k, h => absurd h (by simp)
  | a :: r, 0, _ => by simp
  | a :: r, k + 1, h => by
    have := sum_at f z (ts := r) (k := k) (by simpa using h)
    simp only [List.map_cons, List.sum_cons]
    have e : (a :: r).getD (k + 1) z = r.getD k z := rfl
    rw [e]; omega
/-- What stands in a place of this role: block, statement, expression, target, call, function. -/
def takes (r : Nat) (k : Int) : Bool :=
  if r = 0 then k == 0 else if r = 1 then isStat k else if r = 2 then isExpr k else if r = 3 then (k == 16) || (k == 17) else if r = 4 then k == 18 else k == 19
def holds : List Nat → List Int → Bool
  | [], [] => true
  | r :: rs, k :: ks => takes r k && holds rs ks
  | _, _ => false
def takesAll (r : Nat) (ks : List Int) (lo hi : Nat) : Bool := decide (lo ≤ ks.length) && (decide (ks.length ≤ hi) && ks.all (takes r))
def named (nn : Int) (tx : List Int) (nms : List (List Int)) (lo hi : Nat) : Bool := (nn == 0) && (decide (tx.length = 0) && (decide (lo ≤ nms.length) && (decide (nms.length ≤ hi) && nms.all isName)))
def numbered (nn : Int) (tx : List Int) (nms : List (List Int)) (lo hi : Int) : Bool := decide (lo ≤ nn) && (decide (nn ≤ hi) && (decide (tx.length = 0) && decide (nms.length = 0)))
/-- A return or a break stands last alone. -/
def lastOnly : List Int → Bool
  | [] => true
  | [_] => true
  | k :: r => !((k == 9) || (k == 8)) && lastOnly r
/-- The parts of an if from place i on. -/
def ifParts (n : Nat) : Nat → List Int → Bool
  | _, [] => true
  | i, k :: r => takes (if i % 2 = 1 ∨ i + 1 = n then 0 else 2) k && ifParts n (i + 1) r
/-- The fields and the kinds of the children are as the table says. -/
def fitsI (kd nn : Int) (tx : List Int) (nms : List (List Int)) (ks : List Int) : Bool :=
  if kd = 0 then lastOnly ks && (named nn tx nms 0 0 && takesAll 1 ks 0 6000)
  else if kd = 1 then named nn tx nms 1 50 && takesAll 2 ks 0 50
  else if kd = 26 then named nn tx nms 1 1 && holds [5] ks
  else if kd = 2 then numbered nn tx nms 1 50 && (decide (nn ≤ ks.length) && (takesAll 3 (ks.take nn.toNat) 1 50 && takesAll 2 (ks.drop nn.toNat) 1 50))
  else if kd = 3 then named nn tx nms 0 0 && holds [0] ks
  else if kd = 4 then named nn tx nms 0 0 && holds [2, 0] ks
  else if kd = 5 then named nn tx nms 0 0 && holds [0, 2] ks
  else if kd = 6 then ifParts ks.length 0 ks && (named nn tx nms 0 0 && decide (2 ≤ ks.length))
  else if kd = 7 then named nn tx nms 1 1 && (holds [2, 2, 0] ks || holds [2, 2, 2, 0] ks)
  else if kd = 8 then named nn tx nms 0 0 && holds [] ks
  else if kd = 9 then named nn tx nms 0 0 && takesAll 2 ks 0 50
  else if kd = 10 then named nn tx nms 0 0 && holds [4] ks
  else if kd = 14 then decide (tx.length = 0) && (decide (nms.length = 0) && holds [] ks)
  else if kd = 15 then (nn == 0) && (decide (tx.length ≤ 5000) && (decide (nms.length = 0) && holds [] ks))
  else if kd = 16 then named nn tx nms 1 1 && holds [] ks
  else if kd = 17 then named nn tx nms 0 0 && holds [2, 2] ks
  else if kd = 18 then named nn tx nms 0 0 && takesAll 2 ks 1 51
  else if kd = 19 then named nn tx nms 0 50 && holds [0] ks
  else if kd = 20 then named nn tx nms 0 0 && (decide (ks.length % 2 = 0) && takesAll 2 ks 0 6000)
  else if kd = 21 then numbered nn tx nms 0 11 && holds [2, 2] ks
  else if kd = 22 ∨ kd = 23 then numbered nn tx nms 0 0 && holds [2, 2] ks
  else if kd = 24 ∨ kd = 25 then named nn tx nms 0 0 && holds [2] ks
  else named nn tx nms 0 0 && holds [] ks

/-- Whether the children stand in a loop. -/
def innerT (kd : Int) (lp : Bool) : Bool := if kd = 4 ∨ kd = 5 ∨ kd = 7 then true else if kd = 19 then false else lp
def fitsT {D : Nat} (t : Tr D) : Bool := fitsI (dT t).kind (dT t).n (dT t).text (dT t).names (kkT t)
/-- One node is as it should be, at this depth, in a loop or in none. -/
def nodeOk {D : Nat} (t : Tr D) (deep : Nat) (lp : Bool) : Bool := decide (deep ≤ 200) && (fitsT t && (!(kindT t == 8) || lp))
/-- The tree is as the table says. -/
def okT : {D : Nat} → Tr D → Nat → Bool → Bool
  | 0, _, _, _ => false
  | _ + 1, t, deep, lp => nodeOk t deep lp && t.2.all (fun c => okT c (deep + 1) (innerT t.1.kind lp))
end Go.Proofs.YtccnjmnafkfjdaaGreat.vt
