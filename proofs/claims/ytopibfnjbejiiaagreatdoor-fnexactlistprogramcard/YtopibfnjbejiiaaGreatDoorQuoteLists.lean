import Derived.Test.YtopibfnjbejiiaaGreatDoorBytesLists
namespace Go.Proofs.YtopibfnjbejiiaaGreatDoor.quo
open Go.RowKit Go.Proofs.YtopibfnjbejiiaaGreatDoor.bts

/-- The hexadecimal digit, in lower case, of a number below 16. -/
def hexd (d : Int) : Int := if d < 10 then 48 + d else 87 + d
/-- The bytes that stand for a byte in a literal. -/
def qc (c : Int) : List Int :=
  if c = 10 then [92, 110] else if c = 9 then [92, 116] else if c = 34 ∨ c = 92 then [92, c] else if c < 32 ∨ 126 < c then [92, 120, hexd (c / 16), hexd (c % 16)] else [c]
theorem qc_len (c : Int) : (qc c).length ≤ 4 := by
  unfold qc; (repeat' split) <;> simp
theorem qc_lf : qc 10 = [92, 110] := rfl
theorem qc_tab : qc 9 = [92, 116] := rfl
theorem qc_esc {c : Int} (h : c = 34 ∨ c = 92) : qc c = [92, c] := by
  unfold qc; rw [if_neg (by omega), if_neg (by omega), if_pos h]
theorem qc_hex {c : Int} (h : c < 32 ∨ 126 < c) (h1 : ¬ c = 10) (h2 : ¬ c = 9) : qc c = [92, 120, hexd (c / 16), hexd (c % 16)] := by
  unfold qc; rw [if_neg h1, if_neg h2, if_neg (by omega), if_pos h]
theorem qc_one {c : Int} (h : 32 ≤ c) (h1 : c ≤ 126) (h2 : ¬ c = 34) (h3 : ¬ c = 92) : qc c = [c] := by
  unfold qc; rw [if_neg (by omega), if_neg (by omega), if_neg (by omega), if_neg (by omega)]
/-- What is made of the first k bytes, the first quote with it. -/
def upto (zs : List Int) (k : Nat) : List Int := 34 :: (zs.take k).flatMap qc
def quote (zs : List Int) : List Int := 34 :: zs.flatMap qc ++ [34]
theorem upto_zero (zs : List Int) : upto zs 0 = [34] := rfl
theorem upto_succ {zs : List Int} {k : Nat} (h : k < zs.length) : upto zs (k + 1) = upto zs k ++ qc (zs.getD k 0) := by
  unfold upto
  rw [List.take_succ_eq_append_getElem h, List.flatMap_append, List.cons_append]
  simp [List.getD_eq_getElem?_getD, List.getElem?_eq_getElem h]
theorem upto_len (zs : List Int) (k : Nat) : (upto zs k).length ≤ 4 * k + 1 := by
  induction k with
  | zero => simp [upto_zero]
  | succ k ih =>
    by_cases h : k < zs.length
    · rw [upto_succ h, List.length_append]
      have := qc_len (zs.getD k 0)
      omega
    · have : upto zs (k + 1) = upto zs k := by
        unfold upto; rw [List.take_of_length_le (by omega), List.take_of_length_le (by omega)]
      rw [this]; omega
theorem upto_all (zs : List Int) : upto zs zs.length ++ [34] = quote zs := by
  unfold upto quote; rw [List.take_length]
theorem quote_len (zs : List Int) : (quote zs).length ≤ 4 * zs.length + 2 := by
  rw [← upto_all, List.length_append]; have := upto_len zs zs.length; simp; omega
theorem bcells_append (xs ys : List Int) : bcells (xs ++ ys) = bcells xs ++ bcells ys := by simp [bcells]
theorem own_append {w : World} {base g cap : Nat} {E : TypeId} {ys ns : List Int} {n m : Nat} (hn : ys.length = n) (hm : ns.length = m)
    (h : w.ownsRow base E 1 (.slice (some ⟨g, 0, none⟩) (n + m) cap) (n + m) (bcells ys ++ bcells ns)) :
    w.ownsRow base E 1 (.slice (some ⟨g, 0, none⟩) (ys ++ ns).length cap) (ys ++ ns).length (bcells (ys ++ ns)) := by
  rw [bcells_append, List.length_append, hn, hm]; exact h
end Go.Proofs.YtopibfnjbejiiaaGreatDoor.quo
