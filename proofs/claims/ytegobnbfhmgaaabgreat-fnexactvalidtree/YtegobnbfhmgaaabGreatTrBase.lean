import Derived.Test.YtegobnbfhmgaaabGreatVtFits
namespace Go.Proofs.YtegobnbfhmgaaabGreat.vt
open Go.RowKit Go.Proofs.YtegobnbfhmgaaabGreat.bts Go.Proofs.YtegobnbfhmgaaabGreat.nod Go.Proofs.YtegobnbfhmgaaabGreat.lex

/-- A tree of nodes. -/
inductive Tr where
  | mk (d : Nd) (ks : List Tr)
instance : Inhabited Tr := ⟨.mk default []⟩
def Tr.d : Tr → Nd
  | .mk d _ => d
def Tr.ks : Tr → List Tr
  | .mk _ ks => ks
def Tr.kind (t : Tr) : Int := t.d.kind
mutual
def Tr.size : Tr → Nat
  | .mk _ ks => 1 + sizes ks
def sizes : List Tr → Nat
  | [] => 0
  | t :: ts => t.size + sizes ts
end
theorem size_pos : ∀ t : Tr, 0 < t.size
  | .mk _ _ => by rw [Tr.size]; omega
theorem sizes_mem {ts : List Tr} {t : Tr} (h : t ∈ ts) : t.size ≤ sizes ts := by
  induction ts with
  | nil => cases h
  | cons a r ih =>
    rw [sizes]
    rcases List.mem_cons.1 h with rfl | h
    · omega
    · have := ih h; omega
/-- What stands in a place of this role: block, statement, expression, target, call, function. -/
def takes (r : Nat) (k : Int) : Bool :=
  if r = 0 then k == 0 else if r = 1 then isStat k else if r = 2 then isExpr k else if r = 3 then (k == 16) || (k == 17) else if r = 4 then k == 18 else k == 19
def holds : List Nat → List Int → Bool
  | [], [] => true
  | r :: rs, k :: ks => takes r k && holds rs ks
  | _, _ => false
def takesAll (r : Nat) (ks : List Int) (lo hi : Nat) : Bool := decide (lo ≤ ks.length) && (decide (ks.length ≤ hi) && ks.all (takes r))
def named (nn : Int) (tx : List Int) (nms : List (List Int)) (lo hi : Nat) : Bool := (nn == 0) && (decide (tx.length = 0) && (decide (lo ≤ nms.length) && (decide (nms.length ≤ hi) && nms.all isName)))
def numbered (nn : Int) (tx : List Int) (nms : List (List Int)) (lo hi : Int) : Bool := decide (lo ≤ nn) && (decide (nn ≤ hi) && (decide (tx.length = 0) && decide (nms.length = 0)))
/-- A return or a break stands last alone. -/
def lastOnly : List Int → Bool
  | [] => true
  | [_] => true
  | k :: r => !((k == 9) || (k == 8)) && lastOnly r
/-- The parts of an if from place i on. -/
def ifParts (n : Nat) : Nat → List Int → Bool
  | _, [] => true
  | i, k :: r => takes (if i % 2 = 1 ∨ i + 1 = n then 0 else 2) k && ifParts n (i + 1) r
/-- The fields and the kinds of the children are as the table says. -/
def fitsI (kd nn : Int) (tx : List Int) (nms : List (List Int)) (ks : List Int) : Bool :=
  if kd = 0 then lastOnly ks && (named nn tx nms 0 0 && takesAll 1 ks 0 6000)
  else if kd = 1 then named nn tx nms 1 50 && takesAll 2 ks 0 50
  else if kd = 26 then named nn tx nms 1 1 && holds [5] ks
  else if kd = 2 then numbered nn tx nms 1 50 && (decide (nn ≤ ks.length) && (takesAll 3 (ks.take nn.toNat) 1 50 && takesAll 2 (ks.drop nn.toNat) 1 50))
  else if kd = 3 then named nn tx nms 0 0 && holds [0] ks
  else if kd = 4 then named nn tx nms 0 0 && holds [2, 0] ks
  else if kd = 5 then named nn tx nms 0 0 && holds [0, 2] ks
  else if kd = 6 then ifParts ks.length 0 ks && (named nn tx nms 0 0 && decide (2 ≤ ks.length))
  else if kd = 7 then named nn tx nms 1 1 && (holds [2, 2, 0] ks || holds [2, 2, 2, 0] ks)
  else if kd = 8 then named nn tx nms 0 0 && holds [] ks
  else if kd = 9 then named nn tx nms 0 0 && takesAll 2 ks 0 50
  else if kd = 10 then named nn tx nms 0 0 && holds [4] ks
  else if kd = 14 then decide (tx.length = 0) && (decide (nms.length = 0) && holds [] ks)
  else if kd = 15 then (nn == 0) && (decide (tx.length ≤ 5000) && (decide (nms.length = 0) && holds [] ks))
  else if kd = 16 then named nn tx nms 1 1 && holds [] ks
  else if kd = 17 then named nn tx nms 0 0 && holds [2, 2] ks
  else if kd = 18 then named nn tx nms 0 0 && takesAll 2 ks 1 51
  else if kd = 19 then named nn tx nms 0 50 && holds [0] ks
  else if kd = 20 then named nn tx nms 0 0 && (decide (ks.length % 2 = 0) && takesAll 2 ks 0 6000)
  else if kd = 21 then numbered nn tx nms 0 11 && holds [2, 2] ks
  else if kd = 22 ∨ kd = 23 then numbered nn tx nms 0 0 && holds [2, 2] ks
  else if kd = 24 ∨ kd = 25 then named nn tx nms 0 0 && holds [2] ks
  else named nn tx nms 0 0 && holds [] ks

/-- Whether the children stand in a loop. -/
def innerT (kd : Int) (lp : Bool) : Bool := if kd = 4 ∨ kd = 5 ∨ kd = 7 then true else if kd = 19 then false else lp
mutual
/-- The tree is as the table says, at this depth, in a loop or in none. -/
def okT : Tr → Nat → Bool → Bool
  | .mk d ks, deep, lp => (decide (deep ≤ 200) && (fitsI d.kind d.n d.text d.names (ks.map Tr.kind) && (!(d.kind == 8) || lp))) && okS ks (deep + 1) (innerT d.kind lp)
def okS : List Tr → Nat → Bool → Bool
  | [], _, _ => true
  | t :: ts, deep, lp => okT t deep lp && okS ts deep lp
end
def isValidT (t : Tr) : Bool := okT t 1 false && (t.kind == 0)
theorem okS_iff {ts : List Tr} {deep : Nat} {lp : Bool} : okS ts deep lp = true ↔ ∀ k, k < ts.length → okT (ts.getD k default) deep lp = true := by
  induction ts with
  | nil => simp [okS]
  | cons t ts ih =>
    rw [okS, Bool.and_eq_true, ih]
    constructor
    · rintro ⟨h1, h2⟩ k hk
      cases k with
      | zero => exact h1
      | succ k => exact h2 k (by simpa using hk)
    · intro h
      exact ⟨h 0 (by simp), fun k hk => h (k + 1) (by simpa using hk)⟩
end Go.Proofs.YtegobnbfhmgaaabGreat.vt
