import Derived.Test.YteagakplhfiodaaDoorSvLists
import Derived.Test.YteagakplhfiodaaDoorThOwn
import Derived.Test.YteagakplhfiodaaDoorSvPut
import Derived.Lib.EndianBits
namespace Go.Proofs.YteagakplhfiodaaDoor.ld
open Go.RowKit Go.Proofs.YteagakplhfiodaaDoor.bts Go.Proofs.YteagakplhfiodaaDoor.pg Go.Proofs.YteagakplhfiodaaDoor.chk Go.Proofs.YteagakplhfiodaaDoor.sv

/-- A number, read strictly: so many bytes may still come, the place of the next, what is there already. -/
def numD : Nat → Nat → Nat → List Int → Option (Nat × List Int)
  | 0, _, _, _ => none
  | _ + 1, _, _, [] => none
  | k + 1, i, acc, b :: r => if b = 0 ∧ 0 < i then none else if b < 128 then some (acc + b.toNat % 128 * 128 ^ i, r) else numD k (i + 1) (acc + b.toNat % 128 * 128 ^ i) r
def num (xs : List Int) : Option (Nat × List Int) := numD 9 0 0 xs
/-- A number, read as the given reader does. -/
def lumD : Nat → Nat → Nat → List Int → Option (Nat × List Int)
  | 0, _, _, _ => none
  | _ + 1, _, _, [] => none
  | k + 1, i, acc, b :: r => if b < 128 then some (acc + b.toNat % 128 * 128 ^ i, r) else lumD k (i + 1) (acc + b.toNat % 128 * 128 ^ i) r
def lum (xs : List Int) : Option (Nat × List Int) := lumD 3 0 0 xs
def byteD : List Int → Option (Int × List Int)
  | [] => none
  | b :: r => some (b, r)
def flagD : List Int → Option (Bool × List Int)
  | [] => none
  | b :: r => if b ≤ 1 then some (decide (b = 1), r) else none
def flagL : List Int → Option (Bool × List Int)
  | [] => none
  | b :: r => some (decide (b = 1), r)
def takeD (n : Nat) (xs : List Int) : Option (List Int × List Int) := if n ≤ xs.length then some (xs.take n, xs.drop n) else none
/-- Bytes, the lowest first, as one number. -/
def sm : List Int → Nat
  | [] => 0
  | b :: r => b.toNat + 256 * sm r
def val8 (xs : List Int) : Int := IntKind.i64.wrap (sm xs : Int)
def eightD (xs : List Int) : Option (Int × List Int) := if 8 ≤ xs.length then some (val8 (xs.take 8), xs.drop 8) else none

section
variable (nm : List Int → Option (Nat × List Int)) (fg : List Int → Option (Bool × List Int))
def constD (xs : List Int) : Option (Cn × List Int) := (fg xs).bind fun x => if x.1 then (nm x.2).bind fun y => (takeD y.1 y.2).map fun z => (⟨true, 0, z.1⟩, z.2) else (eightD x.2).map fun y => (⟨false, y.1, []⟩, y.2)
def capD (xs : List Int) : Option (Cp × List Int) := (fg xs).bind fun x => (nm x.2).map fun y => (⟨x.1, (y.1 : Int)⟩, y.2)
def insD (xs : List Int) : Option (In × List Int) := (byteD xs).bind fun x => (nm x.2).bind fun y => (nm y.2).map fun z => (⟨x.1, (y.1 : Int), (z.1 : Int)⟩, z.2)
def listD {α : Type} (d : List Int → Option (α × List Int)) : Nat → List Int → Option (List α × List Int)
  | 0, xs => some ([], xs)
  | n + 1, xs => (d xs).bind fun x => (listD d n x.2).map fun y => (x.1 :: y.1, y.2)
def manyD {α : Type} (d : List Int → Option (α × List Int)) (xs : List Int) : Option (List α × List Int) := (nm xs).bind fun x => listD d x.1 x.2
def protoD (xs : List Int) : Option (Pr × List Int) := (nm xs).bind fun a => (nm a.2).bind fun b => (manyD nm (capD nm fg) b.2).bind fun c => (manyD nm (insD nm) c.2).map fun d => (⟨(a.1 : Int), (b.1 : Int), c.1, d.1⟩, d.2)
def bodyD (xs : List Int) : Option (Pg × List Int) := (manyD nm (constD nm fg) xs).bind fun k => (manyD nm (protoD nm fg) k.2).map fun p => (⟨k.1, p.1⟩, p.2)
end
/-- The program's reading: the mark, the program, and nothing behind it. -/
def progD (xs : List Int) : Option Pg := (takeD 4 xs).bind fun h => if h.1 = [77, 78, 76, 84] then (bodyD num flagD h.2).bind fun p => if p.2 = [] then some p.1 else none else none
/-- The given reading: whatever the first four bytes are, and whatever is left. -/
def progL (xs : List Int) : Option Pg := (takeD 4 xs).bind fun h => (bodyD lum flagL h.2).map fun p => p.1

/-- All are bytes. -/
def BB (xs : List Int) : Prop := ∀ z, z ∈ xs → 0 ≤ z ∧ z ≤ 255
theorem bb_of {xs : List Int} (h : Bts xs) : BB xs := by
  intro z hz
  obtain ⟨i, hi, rfl⟩ := List.mem_iff_getElem.1 hz
  have := h i
  simpa [List.getD_eq_getElem?_getD, List.getElem?_eq_getElem hi] using this
theorem BB.tail {x : Int} {xs : List Int} (h : BB (x :: xs)) : BB xs := fun z hz => h z (List.mem_cons_of_mem _ hz)
theorem BB.head {x : Int} {xs : List Int} (h : BB (x :: xs)) : 0 ≤ x ∧ x ≤ 255 := h x List.mem_cons_self
theorem BB.right {xs ys : List Int} (h : BB (xs ++ ys)) : BB ys := fun z hz => h z (List.mem_append_right _ hz)
theorem BB.drop {xs : List Int} (h : BB xs) (k : Nat) : BB (xs.drop k) := fun z hz => h z (List.mem_of_mem_drop hz)

/- Lengths. -/
theorem numD_len : ∀ (k i acc : Nat) (xs ys : List Int) (n : Nat), numD k i acc xs = some (n, ys) → ys.length < xs.length
  | 0, _, _, _, _, _, h => by cases h
  | _ + 1, _, _, [], _, _, h => by cases h
  | k + 1, i, acc, b :: r, ys, n, h => by
    unfold numD at h
    split at h
    · cases h
    · split at h
      · simp only [Option.some.injEq, Prod.mk.injEq] at h
        rw [← h.2]; simp
      · have := numD_len k _ _ r ys n h
        simp only [List.length_cons]; omega
theorem num_len {xs ys : List Int} {n : Nat} (h : num xs = some (n, ys)) : ys.length < xs.length := numD_len _ _ _ _ _ _ h
theorem lumD_len : ∀ (k i acc : Nat) (xs ys : List Int) (n : Nat), lumD k i acc xs = some (n, ys) → ys.length < xs.length
  | 0, _, _, _, _, _, h => by cases h
  | _ + 1, _, _, [], _, _, h => by cases h
  | k + 1, i, acc, b :: r, ys, n, h => by
    unfold lumD at h
    split at h
    · simp only [Option.some.injEq, Prod.mk.injEq] at h
      rw [← h.2]; simp
    · have := lumD_len k _ _ r ys n h
      simp only [List.length_cons]; omega
theorem lum_len {xs ys : List Int} {n : Nat} (h : lum xs = some (n, ys)) : ys.length < xs.length := lumD_len _ _ _ _ _ _ h
theorem flagD_len {xs ys : List Int} {b : Bool} (h : flagD xs = some (b, ys)) : ys.length < xs.length := by
  cases xs with
  | nil => cases h
  | cons x r =>
    by_cases hb : x ≤ 1
    · simp only [flagD, if_pos hb, Option.some.injEq, Prod.mk.injEq] at h
      rw [← h.2]; simp
    · simp only [flagD, if_neg hb] at h
      cases h
theorem flagL_len {xs ys : List Int} {b : Bool} (h : flagL xs = some (b, ys)) : ys.length < xs.length := by
  cases xs with
  | nil => cases h
  | cons x r =>
    simp only [flagL, Option.some.injEq, Prod.mk.injEq] at h
    rw [← h.2]; simp
theorem takeD_len {n : Nat} {xs ys zs : List Int} (h : takeD n xs = some (ys, zs)) : ys.length + zs.length ≤ xs.length := by
  unfold takeD at h
  split at h
  · simp only [Option.some.injEq, Prod.mk.injEq] at h
    rw [← h.1, ← h.2]; simp; omega
  · cases h

theorem listD_len {α : Type} {d : List Int → Option (α × List Int)} (f : α → Nat) (hd : ∀ {xs ys : List Int} {a : α}, d xs = some (a, ys) → f a + ys.length ≤ xs.length) : ∀ (n : Nat) (xs ys : List Int) (l : List α), listD d n xs = some (l, ys) → (l.map f).sum + ys.length ≤ xs.length ∧ l.length = n
  | 0, xs, ys, l, h => by
    simp only [listD, Option.some.injEq, Prod.mk.injEq] at h
    obtain ⟨rfl, rfl⟩ := h
    simp
  | n + 1, xs, ys, l, h => by
    simp only [listD, Option.bind_eq_some_iff, Option.map_eq_some_iff, Prod.mk.injEq] at h
    obtain ⟨⟨a, y⟩, h1, ⟨l', z⟩, h2, rfl, rfl⟩ := h
    obtain ⟨h3, h4⟩ := listD_len f hd n y z l' h2
    have := hd h1
    simp only [List.map_cons, List.sum_cons, List.length_cons]
    omega
theorem sums_top {α : Type} (f : α → Nat) (l : List α) : l.length + sumsF f l l.length = (l.map fun a => 1 + f a).sum := by
  unfold sumsF
  rw [List.take_length]
  induction l with
  | nil => rfl
  | cons a l ih => simp only [List.length_cons, List.map_cons, List.sum_cons]; omega

section
variable {nm : List Int → Option (Nat × List Int)} {fg : List Int → Option (Bool × List Int)}
theorem insD_len (hn : ∀ {xs ys : List Int} {n : Nat}, nm xs = some (n, ys) → ys.length < xs.length) {xs ys : List Int} {x : In} (h : insD nm xs = some (x, ys)) : 1 + ys.length ≤ xs.length := by
  cases xs with
  | nil => cases h
  | cons b r =>
    simp only [insD, byteD, Option.bind_some, Option.bind_eq_some_iff, Option.map_eq_some_iff, Prod.mk.injEq] at h
    obtain ⟨⟨n, y⟩, h1, ⟨m, z⟩, h2, _, rfl⟩ := h
    have := hn h1
    have := hn h2
    simp only [List.length_cons] at *; omega
theorem manyD_len (hn : ∀ {xs ys : List Int} {n : Nat}, nm xs = some (n, ys) → ys.length < xs.length) {α : Type} {d : List Int → Option (α × List Int)} (f : α → Nat) (hd : ∀ {xs ys : List Int} {a : α}, d xs = some (a, ys) → f a + ys.length ≤ xs.length) {xs ys : List Int} {l : List α} (h : manyD nm d xs = some (l, ys)) : 1 + (l.map f).sum + ys.length ≤ xs.length := by
  simp only [manyD, Option.bind_eq_some_iff] at h
  obtain ⟨⟨n, y⟩, h1, h2⟩ := h
  have := hn h1
  have := (listD_len f hd n y ys l h2).1
  simp only at *; omega
theorem constD_len (hn : ∀ {xs ys : List Int} {n : Nat}, nm xs = some (n, ys) → ys.length < xs.length) (hf : ∀ {xs ys : List Int} {b : Bool}, fg xs = some (b, ys) → ys.length < xs.length) {xs ys : List Int} {c : Cn} (h : constD nm fg xs = some (c, ys)) : 1 + c.text.length + ys.length ≤ xs.length := by
  simp only [constD, Option.bind_eq_some_iff] at h
  obtain ⟨⟨b, y⟩, h1, h2⟩ := h
  have := hf h1
  simp only at h2 this
  split at h2
  · simp only [Option.bind_eq_some_iff, Option.map_eq_some_iff, Prod.mk.injEq] at h2
    obtain ⟨⟨n, z⟩, h3, ⟨t, u⟩, h4, rfl, rfl⟩ := h2
    have := hn h3
    have := takeD_len h4
    simp only at *; omega
  · simp only [Option.map_eq_some_iff, Prod.mk.injEq] at h2
    obtain ⟨⟨n, z⟩, h3, rfl, rfl⟩ := h2
    unfold eightD at h3
    split at h3
    · simp only [Option.some.injEq, Prod.mk.injEq] at h3
      rw [← h3.2]
      simp only [List.length_nil, List.length_drop]; omega
    · cases h3
theorem capD_len (hn : ∀ {xs ys : List Int} {n : Nat}, nm xs = some (n, ys) → ys.length < xs.length) (hf : ∀ {xs ys : List Int} {b : Bool}, fg xs = some (b, ys) → ys.length < xs.length) {xs ys : List Int} {c : Cp} (h : capD nm fg xs = some (c, ys)) : 1 + ys.length ≤ xs.length := by
  simp only [capD, Option.bind_eq_some_iff, Option.map_eq_some_iff, Prod.mk.injEq] at h
  obtain ⟨⟨b, y⟩, h1, ⟨n, z⟩, h2, _, rfl⟩ := h
  have := hf h1
  have := hn h2
  simp only at *; omega
theorem protoD_len (hn : ∀ {xs ys : List Int} {n : Nat}, nm xs = some (n, ys) → ys.length < xs.length) (hf : ∀ {xs ys : List Int} {b : Bool}, fg xs = some (b, ys) → ys.length < xs.length) {xs ys : List Int} {f : Pr} (h : protoD nm fg xs = some (f, ys)) : 1 + sizePr f + ys.length ≤ xs.length := by
  simp only [protoD, Option.bind_eq_some_iff, Option.map_eq_some_iff, Prod.mk.injEq] at h
  obtain ⟨⟨a, y⟩, h1, ⟨b, z⟩, h2, ⟨c, u⟩, h3, ⟨d, v⟩, h4, rfl, rfl⟩ := h
  have := hn h1
  have := hn h2
  have e3 := manyD_len hn (fun _ => 1) (capD_len hn hf) h3
  have e4 := manyD_len hn (fun _ => 1) (insD_len hn) h4
  simp only [List.map_const', List.sum_replicate_nat, Nat.mul_one] at e3 e4
  unfold sizePr
  simp only at *; omega
theorem bodyD_len (hn : ∀ {xs ys : List Int} {n : Nat}, nm xs = some (n, ys) → ys.length < xs.length) (hf : ∀ {xs ys : List Int} {b : Bool}, fg xs = some (b, ys) → ys.length < xs.length) {xs ys : List Int} {p : Pg} (h : bodyD nm fg xs = some (p, ys)) : sizePg p + ys.length ≤ xs.length := by
  simp only [bodyD, Option.bind_eq_some_iff, Option.map_eq_some_iff, Prod.mk.injEq] at h
  obtain ⟨⟨k, y⟩, h1, ⟨q, z⟩, h2, rfl, rfl⟩ := h
  have e1 := manyD_len hn (fun c => 1 + sizeCn c) (constD_len hn hf) h1
  have e2 := manyD_len hn (fun f => 1 + sizePr f) (protoD_len hn hf) h2
  unfold sizePg sizeK sizeP
  rw [sums_top, sums_top]
  simp only at *; omega
end
end Go.Proofs.YteagakplhfiodaaDoor.ld

namespace Go.Proofs.YteagakplhfiodaaDoor.ld
open Go.RowKit Go.Proofs.YteagakplhfiodaaDoor.bts Go.Proofs.YteagakplhfiodaaDoor.pg Go.Proofs.YteagakplhfiodaaDoor.chk Go.Proofs.YteagakplhfiodaaDoor.sv

theorem tn (v : Nat) : ((v : Int)).toNat = v := Int.toNat_natCast v
/-- The two ways in which a number of at most three bytes is written. -/
theorem var_cases {n : Nat} (h : n < 2097152) : (n < 128 ∧ var n = [(n : Int)]) ∨ (128 ≤ n ∧ n < 16384 ∧ var n = [((n % 128 + 128 : Nat) : Int), ((n / 128 : Nat) : Int)]) ∨ (16384 ≤ n ∧ var n = [((n % 128 + 128 : Nat) : Int), ((n / 128 % 128 + 128 : Nat) : Int), ((n / 128 / 128 : Nat) : Int)]) := by
  by_cases h1 : n < 128
  · exact .inl ⟨h1, var_small h1⟩
  · by_cases h2 : n < 16384
    · refine .inr (.inl ⟨by omega, h2, ?_⟩)
      rw [var_great h1 h, var_small (by omega)]
    · refine .inr (.inr ⟨by omega, ?_⟩)
      rw [var_great h1 h, var_great (by omega) (by omega), var_small (by omega)]
theorem num_ok {n : Nat} (h : n < 2097152) (ys : List Int) : num (var n ++ ys) = some (n, ys) := by
  rcases var_cases h with ⟨h1, e⟩ | ⟨h1, h2, e⟩ | ⟨h1, e⟩
  · rw [e]
    simp only [num, List.cons_append, List.nil_append, numD, Nat.lt_irrefl, and_false, if_false]
    rw [if_pos (by omega), tn, Nat.mod_eq_of_lt h1]
    simp
  · rw [e]
    simp only [num, List.cons_append, List.nil_append, numD, Nat.lt_irrefl, and_false, if_false]
    rw [if_neg (by omega), if_neg (by omega), if_pos (by omega), tn, tn]
    simp only [Option.some.injEq, Prod.mk.injEq, and_true, Nat.reduceAdd, Nat.pow_zero, Nat.pow_one]
    omega
  · rw [e]
    simp only [num, List.cons_append, List.nil_append, numD, Nat.lt_irrefl, and_false, if_false]
    rw [if_neg (by omega), if_neg (by omega), if_neg (by omega), if_neg (by omega), if_pos (by omega), tn, tn, tn]
    simp only [Option.some.injEq, Prod.mk.injEq, and_true, Nat.reduceAdd, Nat.pow_zero, Nat.pow_one, Nat.reducePow]
    omega
set_option maxRecDepth 100000 in
theorem lum_ok {n : Nat} (h : n < 2097152) (ys : List Int) : lum (var n ++ ys) = some (n, ys) := by
  rcases var_cases h with ⟨h1, e⟩ | ⟨h1, h2, e⟩ | ⟨h1, e⟩
  · rw [e]
    simp only [lum, List.cons_append, List.nil_append, lumD]
    rw [if_pos (by omega), tn, Nat.mod_eq_of_lt h1]
    simp
  · rw [e]
    simp only [lum, List.cons_append, List.nil_append, lumD]
    rw [if_neg (by omega), if_pos (by omega), tn, tn]
    simp only [Option.some.injEq, Prod.mk.injEq, and_true, Nat.reduceAdd, Nat.pow_zero, Nat.pow_one]
    omega
  · rw [e]
    simp only [lum, List.cons_append, List.nil_append, lumD]
    rw [if_neg (by omega), if_neg (by omega), if_pos (by omega), tn, tn, tn]
    simp only [Option.some.injEq, Prod.mk.injEq, and_true, Nat.reduceAdd, Nat.pow_zero, Nat.pow_one, Nat.reducePow]
    omega
theorem numD_ge : ∀ (k i acc : Nat) (xs ys : List Int) (n : Nat), BB xs → 0 < i → numD k i acc xs = some (n, ys) → acc + 128 ^ i ≤ n
  | 0, _, _, _, _, _, _, _, h => by cases h
  | _ + 1, _, _, [], _, _, _, _, h => by cases h
  | k + 1, i, acc, b :: r, ys, n, hb, hi, h => by
    obtain ⟨b0, b1⟩ := hb.head
    unfold numD at h
    split at h
    · cases h
    · rename_i hz
      have hp : 0 < 128 ^ i := Nat.pow_pos (by omega)
      split at h
      · rename_i hl
        simp only [Option.some.injEq, Prod.mk.injEq] at h
        have hq : 1 ≤ b.toNat % 128 := by
          have : b ≠ 0 := fun e => hz ⟨e, hi⟩
          omega
        have := Nat.mul_le_mul_right (128 ^ i) hq
        omega
      · have := numD_ge k (i + 1) _ r ys n hb.tail (by omega) h
        have e : 128 ^ (i + 1) = 128 ^ i * 128 := Nat.pow_succ _ _
        have := Nat.zero_le (b.toNat % 128 * 128 ^ i)
        omega
theorem num_inv {xs ys : List Int} {n : Nat} (hb : BB xs) (h : num xs = some (n, ys)) (hn : n < 2097152) : xs = var n ++ ys := by
  unfold num at h
  cases xs with
  | nil => cases h
  | cons b0 r0 =>
    obtain ⟨p0, p1⟩ := hb.head
    simp only [numD, Nat.lt_irrefl, and_false, if_false, Nat.pow_zero, Nat.mul_one, Nat.zero_add] at h
    split at h
    · simp only [Option.some.injEq, Prod.mk.injEq] at h
      obtain ⟨h1, rfl⟩ := h
      rw [var_small (by omega)]
      simp only [List.cons_append, List.nil_append, List.cons.injEq, and_true]
      omega
    · have hb1 := hb.tail
      cases r0 with
      | nil => cases h
      | cons b1 r1 =>
        obtain ⟨q0, q1⟩ := hb1.head
        simp only [numD, Nat.pow_one, Nat.reduceAdd] at h
        split at h
        · cases h
        · split at h
          · simp only [Option.some.injEq, Prod.mk.injEq] at h
            obtain ⟨h1, rfl⟩ := h
            rw [var_great (by omega) hn, var_small (by omega)]
            simp only [List.cons_append, List.nil_append, List.cons.injEq, and_true]
            omega
          · have hb2 := hb1.tail
            cases r1 with
            | nil => cases h
            | cons b2 r2 =>
              obtain ⟨s0, s1⟩ := hb2.head
              simp only [numD, Nat.reducePow, Nat.reduceAdd] at h
              split at h
              · cases h
              · split at h
                · simp only [Option.some.injEq, Prod.mk.injEq] at h
                  obtain ⟨h1, rfl⟩ := h
                  rw [var_great (by omega) hn, var_great (by omega) (by omega), var_small (by omega)]
                  simp only [List.cons_append, List.nil_append, List.cons.injEq, and_true]
                  omega
                · have hb3 := hb2.tail
                  cases r2 with
                  | nil => cases h
                  | cons b3 r3 =>
                    obtain ⟨t0, t1⟩ := hb3.head
                    have := numD_ge 6 3 _ (b3 :: r3) ys n hb3 (by omega) (by simpa only [numD, Nat.reducePow, Nat.reduceAdd] using h)
                    simp only [Nat.reducePow] at this
                    omega

theorem flagD_inv {xs ys : List Int} {b : Bool} (hb : BB xs) (h : flagD xs = some (b, ys)) : xs = (if b then 1 else 0) :: ys := by
  cases xs with
  | nil => cases h
  | cons x r =>
    obtain ⟨p0, p1⟩ := hb.head
    by_cases hx : x ≤ 1
    · simp only [flagD, if_pos hx, Option.some.injEq, Prod.mk.injEq] at h
      obtain ⟨rfl, rfl⟩ := h
      simp only [List.cons.injEq, and_true, decide_eq_true_eq]
      split <;> omega
    · simp only [flagD, if_neg hx] at h
      cases h
theorem flagD_ok (b : Bool) (ys : List Int) : flagD ((if b then 1 else 0) :: ys) = some (b, ys) := by cases b <;> simp [flagD]
theorem flagL_ok (b : Bool) (ys : List Int) : flagL ((if b then 1 else 0) :: ys) = some (b, ys) := by cases b <;> simp [flagL]
theorem takeD_ok (xs ys : List Int) : takeD xs.length (xs ++ ys) = some (xs, ys) := by
  unfold takeD
  rw [if_pos (by simp)]
  simp
theorem takeD_inv {n : Nat} {xs ys zs : List Int} (h : takeD n xs = some (ys, zs)) : xs = ys ++ zs ∧ ys.length = n := by
  unfold takeD at h
  split at h
  · simp only [Option.some.injEq, Prod.mk.injEq] at h
    obtain ⟨rfl, rfl⟩ := h
    simp; omega
  · cases h

theorem sm_lt : ∀ xs : List Int, BB xs → sm xs < 256 ^ xs.length
  | [], _ => by simp [sm]
  | b :: r, h => by
    have := sm_lt r h.tail
    have h1 := h.head
    simp only [sm, List.length_cons, Nat.pow_succ]
    omega
theorem wrap64 (z : Int) : IntKind.i64.wrap z = (if 9223372036854775808 ≤ z % 18446744073709551616 then z % 18446744073709551616 - 18446744073709551616 else z % 18446744073709551616) := by
  have e1 : (2 : Int) ^ 64 = 18446744073709551616 := rfl
  have e2 : (2 : Int) ^ (64 - 1) = 9223372036854775808 := rfl
  simp only [IntKind.wrap, IntKind.bits, IntKind.signed, e1, e2, Bool.true_and, decide_eq_true_eq, ge_iff_le]
theorem smI {b : Int} {r : List Int} (h : 0 ≤ b) : ((sm (b :: r) : Nat) : Int) = b + 256 * (sm r : Int) := by
  simp only [sm]
  omega
/-- A number's eight digits, the lowest first. -/
theorem digits (n : Int) : ∃ x1 x2 x3 x4 x5 x6 x7 x8 : Int, ∃ d0 d1 d2 d3 d4 d5 d6 d7 : Int, e8 n 8 = [d0, d1, d2, d3, d4, d5, d6, d7] ∧ n = 256 * x1 + d0 ∧ x1 = 256 * x2 + d1 ∧ x2 = 256 * x3 + d2 ∧ x3 = 256 * x4 + d3 ∧ x4 = 256 * x5 + d4 ∧ x5 = 256 * x6 + d5 ∧ x6 = 256 * x7 + d6 ∧ x7 = 256 * x8 + d7 ∧
    (0 ≤ d0 ∧ d0 < 256) ∧ (0 ≤ d1 ∧ d1 < 256) ∧ (0 ≤ d2 ∧ d2 < 256) ∧ (0 ≤ d3 ∧ d3 < 256) ∧ (0 ≤ d4 ∧ d4 < 256) ∧ (0 ≤ d5 ∧ d5 < 256) ∧ (0 ≤ d6 ∧ d6 < 256) ∧ 0 ≤ d7 ∧ d7 < 256 := by
  have hr : List.range 8 = [0, 1, 2, 3, 4, 5, 6, 7] := by decide
  have key : ∀ i : Nat, n / 2 ^ (8 * (i + 1)) = n / 2 ^ (8 * i) / 256 := fun i => by
    rw [show (2 : Int) ^ (8 * (i + 1)) = 2 ^ (8 * i) * 256 by rw [Nat.mul_add, Int.pow_add]; rfl]
    exact (Int.ediv_ediv_of_nonneg (Int.pow_nonneg (by omega))).symm
  have k0 : n / 2 ^ (8 * 0) = n := by simp
  have k1 := key 0
  have k2 := key 1
  have k3 := key 2
  have k4 := key 3
  have k5 := key 4
  have k6 := key 5
  have k7 := key 6
  have k8 := key 7
  refine ⟨n / 2 ^ (8 * 1), n / 2 ^ (8 * 2), n / 2 ^ (8 * 3), n / 2 ^ (8 * 4), n / 2 ^ (8 * 5), n / 2 ^ (8 * 6), n / 2 ^ (8 * 7), n / 2 ^ (8 * 8), n / 2 ^ (8 * 0) % 256, n / 2 ^ (8 * 1) % 256, n / 2 ^ (8 * 2) % 256, n / 2 ^ (8 * 3) % 256, n / 2 ^ (8 * 4) % 256, n / 2 ^ (8 * 5) % 256, n / 2 ^ (8 * 6) % 256, n / 2 ^ (8 * 7) % 256, by simp only [e8, hr, List.map_cons, List.map_nil], ?_⟩
  simp only [Nat.zero_add, Nat.reduceAdd] at k1 k2 k3 k4 k5 k6 k7 k8
  generalize n / 2 ^ (8 * 8) = x8 at *
  generalize n / 2 ^ (8 * 7) = x7 at *
  generalize n / 2 ^ (8 * 6) = x6 at *
  generalize n / 2 ^ (8 * 5) = x5 at *
  generalize n / 2 ^ (8 * 4) = x4 at *
  generalize n / 2 ^ (8 * 3) = x3 at *
  generalize n / 2 ^ (8 * 2) = x2 at *
  generalize n / 2 ^ (8 * 1) = x1 at *
  rw [k0] at *
  omega
theorem sm8 {a b c d e f g h : Int} (hb : BB [a, b, c, d, e, f, g, h]) : ((sm [a, b, c, d, e, f, g, h] : Nat) : Int) = a + 256 * (b + 256 * (c + 256 * (d + 256 * (e + 256 * (f + 256 * (g + 256 * h)))))) := by
  simp only [BB, List.mem_cons, List.not_mem_nil, or_false, forall_eq_or_imp, forall_eq] at hb
  obtain ⟨h1, h2, h3, h4, h5, h6, h7, h8⟩ := hb
  rw [smI h1.1, smI h2.1, smI h3.1, smI h4.1, smI h5.1, smI h6.1, smI h7.1, smI h8.1]
  simp [sm]
theorem val8_e8 {n : Int} (h0 : -9223372036854775808 ≤ n) (h1 : n ≤ 9223372036854775807) : val8 (e8 n 8) = n := by
  obtain ⟨x1, x2, x3, x4, x5, x6, x7, x8, d0, d1, d2, d3, d4, d5, d6, d7, e, i0, i1, i2, i3, i4, i5, i6, i7, r⟩ := digits n
  have hb : BB [d0, d1, d2, d3, d4, d5, d6, d7] := by
    simp only [BB, List.mem_cons, List.not_mem_nil, or_false, forall_eq_or_imp, forall_eq]
    omega
  rw [e]
  unfold val8
  rw [wrap64, sm8 hb]
  have hs : n = d0 + 256 * (d1 + 256 * (d2 + 256 * (d3 + 256 * (d4 + 256 * (d5 + 256 * (d6 + 256 * d7)))))) + 18446744073709551616 * x8 := by omega
  have hl : 0 ≤ d0 + 256 * (d1 + 256 * (d2 + 256 * (d3 + 256 * (d4 + 256 * (d5 + 256 * (d6 + 256 * d7)))))) ∧ d0 + 256 * (d1 + 256 * (d2 + 256 * (d3 + 256 * (d4 + 256 * (d5 + 256 * (d6 + 256 * d7)))))) < 18446744073709551616 := by omega
  generalize d0 + 256 * (d1 + 256 * (d2 + 256 * (d3 + 256 * (d4 + 256 * (d5 + 256 * (d6 + 256 * d7)))))) = S at hs hl
  clear e i0 i1 i2 i3 i4 i5 i6 i7 r hb
  omega
theorem e8_val8 {a b c d e f g h : Int} (hb : BB [a, b, c, d, e, f, g, h]) : e8 (val8 [a, b, c, d, e, f, g, h]) 8 = [a, b, c, d, e, f, g, h] := by
  have hv : ∃ q, val8 [a, b, c, d, e, f, g, h] = a + 256 * (b + 256 * (c + 256 * (d + 256 * (e + 256 * (f + 256 * (g + 256 * h)))))) + 18446744073709551616 * q := by
    unfold val8
    rw [wrap64, sm8 hb]
    generalize a + 256 * (b + 256 * (c + 256 * (d + 256 * (e + 256 * (f + 256 * (g + 256 * h)))))) = S
    split
    · exact ⟨- (S / 18446744073709551616) - 1, by omega⟩
    · exact ⟨- (S / 18446744073709551616), by omega⟩
  obtain ⟨q, hq⟩ := hv
  obtain ⟨x1, x2, x3, x4, x5, x6, x7, x8, d0, d1, d2, d3, d4, d5, d6, d7, e', i0, i1, i2, i3, i4, i5, i6, i7, r0, r1, r2, r3, r4, r5, r6, r7⟩ := digits (val8 [a, b, c, d, e, f, g, h])
  rw [e']
  simp only [BB, List.mem_cons, List.not_mem_nil, or_false, forall_eq_or_imp, forall_eq] at hb
  obtain ⟨b0, b1, b2, b3, b4, b5, b6, b7⟩ := hb
  generalize val8 [a, b, c, d, e, f, g, h] = n at *
  clear e'
  obtain ⟨rfl, j1⟩ : d0 = a ∧ x1 = b + 256 * (c + 256 * (d + 256 * (e + 256 * (f + 256 * (g + 256 * h))))) + 72057594037927936 * q := by omega
  obtain ⟨rfl, j2⟩ : d1 = b ∧ x2 = c + 256 * (d + 256 * (e + 256 * (f + 256 * (g + 256 * h)))) + 281474976710656 * q := by omega
  obtain ⟨rfl, j3⟩ : d2 = c ∧ x3 = d + 256 * (e + 256 * (f + 256 * (g + 256 * h))) + 1099511627776 * q := by omega
  obtain ⟨rfl, j4⟩ : d3 = d ∧ x4 = e + 256 * (f + 256 * (g + 256 * h)) + 4294967296 * q := by omega
  obtain ⟨rfl, j5⟩ : d4 = e ∧ x5 = f + 256 * (g + 256 * h) + 16777216 * q := by omega
  obtain ⟨rfl, j6⟩ : d5 = f ∧ x6 = g + 256 * h + 65536 * q := by omega
  obtain ⟨rfl, j7⟩ : d6 = g ∧ x7 = h + 256 * q := by omega
  obtain rfl : d7 = h := by omega
  rfl
theorem val8_in (xs : List Int) : -9223372036854775808 ≤ val8 xs ∧ val8 xs ≤ 9223372036854775807 := by
  unfold val8
  rw [wrap64]
  split <;> omega
end Go.Proofs.YteagakplhfiodaaDoor.ld

namespace Go.Proofs.YteagakplhfiodaaDoor.ld
open Go.RowKit Go.Proofs.YteagakplhfiodaaDoor.bts Go.Proofs.YteagakplhfiodaaDoor.pg Go.Proofs.YteagakplhfiodaaDoor.chk Go.Proofs.YteagakplhfiodaaDoor.sv

theorem fl_top {α : Type} (f : α → List Int) (l : List α) : fl f l l.length = (l.map f).flatten := by simp [fl]
theorem mem_at {α : Type} {l : List α} {a : α} (d : α) (h : a ∈ l) : ∃ i, i < l.length ∧ l.getD i d = a := by
  obtain ⟨i, hi, rfl⟩ := List.mem_iff_getElem.1 h
  exact ⟨i, hi, by simp [List.getD_eq_getElem?_getD, List.getElem?_eq_getElem hi]⟩
theorem listD_ok {α : Type} {d : List Int → Option (α × List Int)} {enc : α → List Int} : ∀ (l : List α), (∀ a, a ∈ l → ∀ ys, d (enc a ++ ys) = some (a, ys)) → ∀ ys, listD d l.length ((l.map enc).flatten ++ ys) = some (l, ys)
  | [], _, ys => by simp [listD]
  | a :: l, h, ys => by
    simp only [List.length_cons, List.map_cons, List.flatten_cons, List.append_assoc, listD]
    rw [h a List.mem_cons_self]
    simp only [Option.bind_some]
    rw [listD_ok l (fun b hb => h b (List.mem_cons_of_mem _ hb)) ys]
    rfl
theorem listD_inv {α : Type} {d : List Int → Option (α × List Int)} {enc : α → List Int} : ∀ (n : Nat) (xs ys : List Int) (l : List α), listD d n xs = some (l, ys) → BB xs → (∀ a, a ∈ l → ∀ xs ys, BB xs → d xs = some (a, ys) → xs = enc a ++ ys) → xs = (l.map enc).flatten ++ ys ∧ l.length = n
  | 0, xs, ys, l, h, _, _ => by
    simp only [listD, Option.some.injEq, Prod.mk.injEq] at h
    obtain ⟨rfl, rfl⟩ := h
    simp
  | n + 1, xs, ys, l, h, hb, hd => by
    simp only [listD, Option.bind_eq_some_iff, Option.map_eq_some_iff, Prod.mk.injEq] at h
    obtain ⟨⟨a, y⟩, h1, ⟨l', z⟩, h2, rfl, rfl⟩ := h
    have e := hd a List.mem_cons_self xs y hb h1
    rw [e] at hb
    obtain ⟨e2, hl⟩ := listD_inv n y z l' h2 hb.right (fun b hb' => hd b (List.mem_cons_of_mem _ hb'))
    simp only at e2 hl ⊢
    exact ⟨by rw [e, e2]; simp, by simp [hl]⟩
theorem len_list {α : Type} {d : List Int → Option (α × List Int)} : ∀ (n : Nat) (xs ys : List Int) (l : List α), listD d n xs = some (l, ys) → l.length = n
  | 0, xs, ys, l, h => by
    simp only [listD, Option.some.injEq, Prod.mk.injEq] at h
    rw [← h.1]; rfl
  | n + 1, xs, ys, l, h => by
    simp only [listD, Option.bind_eq_some_iff, Option.map_eq_some_iff, Prod.mk.injEq] at h
    obtain ⟨⟨a, y⟩, _, ⟨l', z⟩, h2, rfl, rfl⟩ := h
    simp [len_list n y z l' h2]
theorem listD_all {α : Type} {d : List Int → Option (α × List Int)} {P : α → Prop} (hd : ∀ {xs ys : List Int} {a : α}, d xs = some (a, ys) → P a) : ∀ (n : Nat) (xs ys : List Int) (l : List α), listD d n xs = some (l, ys) → ∀ a, a ∈ l → P a
  | 0, xs, ys, l, h, a, ha => by
    simp only [listD, Option.some.injEq, Prod.mk.injEq] at h
    rw [← h.1] at ha
    cases ha
  | n + 1, xs, ys, l, h, a, ha => by
    simp only [listD, Option.bind_eq_some_iff, Option.map_eq_some_iff, Prod.mk.injEq] at h
    obtain ⟨⟨b, y⟩, h1, ⟨l', z⟩, h2, rfl, rfl⟩ := h
    rcases List.mem_cons.1 ha with rfl | h3
    · exact hd h1
    · exact listD_all hd n y z l' h2 a h3

section
variable {nm : List Int → Option (Nat × List Int)} {fg : List Int → Option (Bool × List Int)}
theorem ins_ok (hn : ∀ {n : Nat}, n < 2097152 → ∀ ys, nm (var n ++ ys) = some (n, ys)) {x : In} (h : SmallI x) (ys : List Int) : insD nm (xc x ++ ys) = some (x, ys) := by
  obtain ⟨op, a, b⟩ := x
  obtain ⟨o0, o1, a0, a1, b0, b1⟩ := h
  simp only at o0 o1 a0 a1 b0 b1
  simp only [insD, xc, vz, List.cons_append, byteD, Option.bind_some, List.append_assoc]
  rw [hn (by omega)]
  simp only [Option.bind_some]
  rw [hn (by omega)]
  simp only [Option.map_some, Option.some.injEq, Prod.mk.injEq, In.mk.injEq, and_true, true_and]
  omega
theorem many_ok (hn : ∀ {n : Nat}, n < 2097152 → ∀ ys, nm (var n ++ ys) = some (n, ys)) {α : Type} {d : List Int → Option (α × List Int)} {enc : α → List Int} {l : List α} (hl : l.length < 2097152) (h : ∀ a, a ∈ l → ∀ ys, d (enc a ++ ys) = some (a, ys)) (ys : List Int) : manyD nm d (var l.length ++ (fl enc l l.length ++ ys)) = some (l, ys) := by
  unfold manyD
  rw [hn hl]
  simp only [Option.bind_some]
  rw [fl_top]
  exact listD_ok l h ys
theorem cap_ok (hn : ∀ {n : Nat}, n < 2097152 → ∀ ys, nm (var n ++ ys) = some (n, ys)) (hf : ∀ (b : Bool) (ys : List Int), fg ((if b then 1 else 0) :: ys) = some (b, ys)) {c : Cp} (h : SmallC c) (ys : List Int) : capD nm fg (cc c ++ ys) = some (c, ys) := by
  obtain ⟨u, i⟩ := c
  obtain ⟨i0, i1⟩ := h
  simp only at i0 i1
  simp only [capD, cc, vz, List.cons_append]
  rw [hf]
  simp only [Option.bind_some]
  rw [hn (by omega)]
  simp only [Option.map_some, Option.some.injEq, Prod.mk.injEq, Cp.mk.injEq, and_true, true_and]
  omega
theorem const_ok (hn : ∀ {n : Nat}, n < 2097152 → ∀ ys, nm (var n ++ ys) = some (n, ys)) (hf : ∀ (b : Bool) (ys : List Int), fg ((if b then 1 else 0) :: ys) = some (b, ys)) {c : Cn} (h : FitsK c) (h0 : -9223372036854775808 ≤ c.n) (h1 : c.n ≤ 9223372036854775807) (ys : List Int) : constD nm fg (kc c ++ ys) = some (c, ys) := by
  obtain ⟨t, n, s⟩ := c
  obtain ⟨f1, f2, f3⟩ := h
  simp only at f1 f2 f3 h0 h1
  cases t with
  | true =>
    have e := f2 rfl
    subst e
    rw [kc_text]
    simp only [constD, List.cons_append, List.append_assoc]
    rw [show (1 : Int) :: (var s.length ++ (s ++ ys)) = (if true = true then 1 else 0) :: (var s.length ++ (s ++ ys)) from rfl, hf]
    simp only [Option.bind_some, if_true]
    rw [hn (by omega)]
    simp only [Option.bind_some]
    rw [takeD_ok]
    rfl
  | false =>
    have e : s = [] := List.length_eq_zero_iff.1 (f3 rfl)
    subst e
    rw [kc_num]
    simp only [constD, List.cons_append]
    rw [show (0 : Int) :: (e8 n 8 ++ ys) = (if false = true then 1 else 0) :: (e8 n 8 ++ ys) from rfl, hf]
    simp only [Option.bind_some, eightD]
    have hl := e8_len n 8
    rw [if_neg (by simp), if_pos (by simp [hl]), List.take_append_of_le_length (by omega), List.take_of_length_le (by omega), List.drop_append_of_le_length (by omega), List.drop_of_length_le (by omega), val8_e8 h0 h1]
    rfl
theorem proto_ok (hn : ∀ {n : Nat}, n < 2097152 → ∀ ys, nm (var n ++ ys) = some (n, ys)) (hf : ∀ (b : Bool) (ys : List Int), fg ((if b then 1 else 0) :: ys) = some (b, ys)) {f : Pr} (h : SmallP f) (hc : f.caps.length < 2097152) (hd : f.code.length < 2097152) (ys : List Int) : protoD nm fg (fc f ++ ys) = some (f, ys) := by
  obtain ⟨p0, p1, s0, s1, h1, h2⟩ := h
  simp only [protoD, fc, vz, List.append_assoc]
  rw [hn (by omega)]
  simp only [Option.bind_some]
  rw [hn (by omega)]
  simp only [Option.bind_some]
  rw [many_ok hn hc (fun a ha ys => by
    obtain ⟨i, hi, rfl⟩ := mem_at cp0 ha
    exact cap_ok hn hf (h1 i hi) ys)]
  simp only [Option.bind_some]
  rw [many_ok hn hd (fun a ha ys => by
    obtain ⟨i, hi, rfl⟩ := mem_at in0 ha
    exact ins_ok hn (h2 i hi) ys)]
  obtain ⟨p, s, c, d⟩ := f
  simp only at p0 s0
  simp only [Option.map_some, Option.some.injEq, Prod.mk.injEq, Pr.mk.injEq, and_true]
  omega
theorem body_ok (hn : ∀ {n : Nat}, n < 2097152 → ∀ ys, nm (var n ++ ys) = some (n, ys)) (hf : ∀ (b : Bool) (ys : List Int), fg ((if b then 1 else 0) :: ys) = some (b, ys)) {p : Pg} (h : Sound p) (hs : sizePg p ≤ 1048576) (hN : ∀ c, c ∈ p.consts → -9223372036854775808 ≤ c.n ∧ c.n ≤ 9223372036854775807) : bodyD nm fg (var p.consts.length ++ (fl kc p.consts p.consts.length ++ (var p.protos.length ++ (fl fc p.protos p.protos.length ++ [])))) = some (p, []) := by
  have hsm := sound_small h hs
  have hz := hs
  unfold sizePg sizeK sizeP at hz
  unfold bodyD
  rw [many_ok hn (by omega) (fun a ha ys => by
    obtain ⟨i, hi, rfl⟩ := mem_at cn0 ha
    exact const_ok hn hf (h.1.2.1 i hi) (hN _ ha).1 (hN _ ha).2 ys)]
  simp only [Option.bind_some]
  rw [many_ok hn (by omega) (fun a ha ys => by
    obtain ⟨i, hi, rfl⟩ := mem_at pr0 ha
    have hz2 := sumsF_at (f := sizePr) pr0 hi
    have e : sizePr (p.protos.getD i pr0) = (p.protos.getD i pr0).caps.length + (p.protos.getD i pr0).code.length := rfl
    exact proto_ok hn hf (hsm.protos i hi) (by omega) (by omega) ys)]
  rfl
end

theorem save_eq (p : Pg) : save p = [77, 78, 76, 84] ++ (var p.consts.length ++ (fl kc p.consts p.consts.length ++ (var p.protos.length ++ (fl fc p.protos p.protos.length ++ [])))) := by
  unfold save
  simp only [List.append_assoc, List.append_nil]
def NumL (p : Pg) : Prop := ∀ c, c ∈ p.consts → -9223372036854775808 ≤ c.n ∧ c.n ≤ 9223372036854775807
theorem progD_ok {p : Pg} (h : Sound p) (hs : sizePg p ≤ 1048576) (hN : NumL p) : progD (save p) = some p := by
  rw [save_eq]
  unfold progD
  rw [show (4 : Nat) = ([77, 78, 76, 84] : List Int).length from rfl, takeD_ok]
  simp only [Option.bind_some, if_true]
  rw [body_ok num_ok flagD_ok h hs hN]
  simp
theorem progL_ok {p : Pg} (h : Sound p) (hs : sizePg p ≤ 1048576) (hN : NumL p) : progL (save p) = some p := by
  rw [save_eq]
  unfold progL
  rw [show (4 : Nat) = ([77, 78, 76, 84] : List Int).length from rfl, takeD_ok]
  simp only [Option.bind_some]
  rw [body_ok lum_ok flagL_ok h hs hN]
  rfl
theorem constD_num {nm : List Int → Option (Nat × List Int)} {fg : List Int → Option (Bool × List Int)} {xs ys : List Int} {c : Cn} (h : constD nm fg xs = some (c, ys)) : -9223372036854775808 ≤ c.n ∧ c.n ≤ 9223372036854775807 := by
  simp only [constD, Option.bind_eq_some_iff] at h
  obtain ⟨⟨b, y⟩, _, h2⟩ := h
  simp only at h2
  split at h2
  · simp only [Option.bind_eq_some_iff, Option.map_eq_some_iff, Prod.mk.injEq] at h2
    obtain ⟨⟨n, z⟩, _, ⟨t, u⟩, _, rfl, rfl⟩ := h2
    simp
  · simp only [Option.map_eq_some_iff, Prod.mk.injEq] at h2
    obtain ⟨⟨n, z⟩, h3, rfl, rfl⟩ := h2
    unfold eightD at h3
    split at h3
    · simp only [Option.some.injEq, Prod.mk.injEq] at h3
      simp only
      rw [← h3.1]
      exact val8_in _
    · cases h3
theorem bodyD_num {nm : List Int → Option (Nat × List Int)} {fg : List Int → Option (Bool × List Int)} {xs ys : List Int} {p : Pg} (h : bodyD nm fg xs = some (p, ys)) : NumL p := by
  simp only [bodyD, Option.bind_eq_some_iff, Option.map_eq_some_iff, Prod.mk.injEq] at h
  obtain ⟨⟨k, y⟩, h1, ⟨q, z⟩, _, rfl, rfl⟩ := h
  simp only [manyD, Option.bind_eq_some_iff] at h1
  obtain ⟨⟨n, u⟩, _, h3⟩ := h1
  exact fun c hc => listD_all (P := fun c : Cn => -9223372036854775808 ≤ c.n ∧ c.n ≤ 9223372036854775807) constD_num n u y k h3 c hc

/- From what was read strictly back to the bytes. -/
theorem ins_inv {xs ys : List Int} {x : In} (hb : BB xs) (h : insD num xs = some (x, ys)) (hs : SmallI x) : xs = xc x ++ ys := by
  cases xs with
  | nil => cases h
  | cons b r =>
    simp only [insD, byteD, Option.bind_some, Option.bind_eq_some_iff, Option.map_eq_some_iff, Prod.mk.injEq] at h
    obtain ⟨⟨n, y⟩, h1, ⟨m, z⟩, h2, rfl, rfl⟩ := h
    obtain ⟨_, _, _, a1, _, b1⟩ := hs
    simp only at a1 b1 h2
    have e1 := num_inv hb.tail h1 (by omega)
    have hb2 := hb.tail
    rw [e1] at hb2
    have e2 := num_inv hb2.right h2 (by omega)
    simp only [xc, vz, tn, List.cons_append, List.cons.injEq, true_and, List.append_assoc]
    rw [← e2, e1]
theorem cap_inv {xs ys : List Int} {c : Cp} (hb : BB xs) (h : capD num flagD xs = some (c, ys)) (hs : SmallC c) : xs = cc c ++ ys := by
  simp only [capD, Option.bind_eq_some_iff, Option.map_eq_some_iff, Prod.mk.injEq] at h
  obtain ⟨⟨b, y⟩, h1, ⟨n, z⟩, h2, rfl, rfl⟩ := h
  have e1 := flagD_inv hb h1
  rw [e1] at hb
  have := hs.2
  simp only at this h2
  have e2 := num_inv hb.tail h2 (by omega)
  simp only [cc, vz, tn, List.cons_append]
  rw [← e2, e1]
theorem eight {xs : List Int} (h : xs.length = 8) : ∃ a b c d e f g i : Int, xs = [a, b, c, d, e, f, g, i] := by
  match xs, h with
  | [a, b, c, d, e, f, g, i], _ => exact ⟨a, b, c, d, e, f, g, i, rfl⟩
theorem const_inv {xs ys : List Int} {c : Cn} (hb : BB xs) (h : constD num flagD xs = some (c, ys)) (hs : c.text.length ≤ 5000) : xs = kc c ++ ys := by
  simp only [constD, Option.bind_eq_some_iff] at h
  obtain ⟨⟨b, y⟩, h1, h2⟩ := h
  have e1 := flagD_inv hb h1
  rw [e1] at hb
  simp only at h2
  cases b with
  | true =>
    simp only [if_true, Option.bind_eq_some_iff, Option.map_eq_some_iff, Prod.mk.injEq] at h2
    obtain ⟨⟨n, z⟩, h3, ⟨t, u⟩, h4, rfl, rfl⟩ := h2
    obtain ⟨e4, el⟩ := takeD_inv h4
    simp only at e4 el hs
    have e3 := num_inv hb.tail h3 (by omega)
    rw [kc_text, e1, e3, e4, el]
    simp
  | false =>
    simp only [Bool.false_eq_true, if_false, Option.map_eq_some_iff, Prod.mk.injEq] at h2
    obtain ⟨⟨n, z⟩, h3, rfl, rfl⟩ := h2
    unfold eightD at h3
    split at h3
    · rename_i h8
      simp only [Option.some.injEq, Prod.mk.injEq] at h3
      obtain ⟨rfl, rfl⟩ := h3
      have hy : BB y := hb.tail
      obtain ⟨a, b, c, d, e, f, g, i, e5⟩ := eight (xs := y.take 8) (by simp; omega)
      have hb5 : BB (y.take 8) := fun z hz => hy z (List.mem_of_mem_take hz)
      rw [kc_num, e1]
      simp only [Bool.false_eq_true, if_false, List.cons_append, List.cons.injEq, true_and]
      rw [e5] at hb5 ⊢
      rw [e8_val8 hb5, ← e5, List.take_append_drop]
    · cases h3
theorem many_inv {α : Type} {d : List Int → Option (α × List Int)} {enc : α → List Int} {xs ys : List Int} {l : List α} (hb : BB xs) (h : manyD num d xs = some (l, ys)) (hl : l.length < 2097152) (hd : ∀ a, a ∈ l → ∀ xs ys, BB xs → d xs = some (a, ys) → xs = enc a ++ ys) : xs = var l.length ++ (fl enc l l.length ++ ys) := by
  simp only [manyD, Option.bind_eq_some_iff] at h
  obtain ⟨⟨n, y⟩, h1, h2⟩ := h
  simp only at h2
  have hn : l.length = n := by
    exact len_list n y ys l h2
  have e1 := num_inv hb h1 (by omega)
  rw [e1] at hb
  obtain ⟨e2, _⟩ := listD_inv n y ys l h2 hb.right hd
  rw [fl_top, e1, hn, ← e2]
theorem proto_inv {xs ys : List Int} {f : Pr} (hb : BB xs) (h : protoD num flagD xs = some (f, ys)) (hs : SmallP f) (hc : f.caps.length < 2097152) (hd : f.code.length < 2097152) : xs = fc f ++ ys := by
  simp only [protoD, Option.bind_eq_some_iff, Option.map_eq_some_iff, Prod.mk.injEq] at h
  obtain ⟨⟨a, y⟩, h1, ⟨b, z⟩, h2, ⟨c, u⟩, h3, ⟨d, v⟩, h4, rfl, rfl⟩ := h
  obtain ⟨_, p1, _, s1, k1, k2⟩ := hs
  simp only at p1 s1 k1 k2 hc hd h2 h3 h4
  have e1 := num_inv hb h1 (by omega)
  rw [e1] at hb
  have e2 := num_inv hb.right h2 (by omega)
  have hb2 := hb.right
  rw [e2] at hb2
  have e3 := many_inv (enc := cc) hb2.right h3 hc (fun a ha xs ys hb h => by
    obtain ⟨i, hi, rfl⟩ := mem_at cp0 ha
    exact cap_inv hb h (k1 i hi))
  have hb3 := hb2.right
  rw [e3] at hb3
  have e4 := many_inv (enc := xc) hb3.right.right h4 hd (fun a ha xs ys hb h => by
    obtain ⟨i, hi, rfl⟩ := mem_at in0 ha
    exact ins_inv hb h (k2 i hi))
  simp only [fc, vz, tn, List.append_assoc]
  rw [← e4, ← e3, ← e2, ← e1]
theorem progD_inv {xs : List Int} {p : Pg} (hb : BB xs) (h : progD xs = some p) (hS : Sound p) (hs : sizePg p ≤ 1048576) : xs = save p := by
  have hsm := sound_small hS hs
  have hz := hs
  unfold sizePg sizeK sizeP at hz
  simp only [progD, Option.bind_eq_some_iff] at h
  obtain ⟨⟨t, y⟩, h1, h2⟩ := h
  obtain ⟨e1, _⟩ := takeD_inv h1
  simp only at h2
  split at h2
  · rename_i ht
    simp only [Option.bind_eq_some_iff] at h2
    obtain ⟨⟨q, z⟩, h3, h4⟩ := h2
    simp only at h4
    split at h4
    · rename_i hz0
      simp only [Option.some.injEq] at h4
      subst h4 hz0
      rw [e1] at hb
      simp only [bodyD, Option.bind_eq_some_iff, Option.map_eq_some_iff, Prod.mk.injEq] at h3
      obtain ⟨⟨k, u⟩, h5, ⟨f, v⟩, h6, rfl, rfl⟩ := h3
      simp only at hz hsm h6
      have e2 := many_inv (enc := kc) hb.right h5 (by omega) (fun a ha xs ys hb h => by
        obtain ⟨i, hi, rfl⟩ := mem_at cn0 ha
        exact const_inv hb h (hsm.texts i hi))
      have hb2 := hb.right
      rw [e2] at hb2
      have e3 := many_inv (enc := fc) hb2.right.right h6 (by omega) (fun a ha xs ys hb h => by
        obtain ⟨i, hi, rfl⟩ := mem_at pr0 ha
        have hz2 := sumsF_at (f := sizePr) pr0 hi
        have e : sizePr (f.getD i pr0) = (f.getD i pr0).caps.length + (f.getD i pr0).code.length := rfl
        exact proto_inv hb h (hsm.protos i hi) (by omega) (by omega))
      rw [save_eq, e1, ht]
      simp only
      rw [← e3, ← e2]
    · cases h4
  · cases h2
theorem progD_size {xs : List Int} {p : Pg} (h : progD xs = some p) : sizePg p ≤ xs.length ∧ NumL p := by
  simp only [progD, Option.bind_eq_some_iff] at h
  obtain ⟨⟨t, y⟩, h1, h2⟩ := h
  have l1 := takeD_len h1
  simp only at h2
  split at h2
  · simp only [Option.bind_eq_some_iff] at h2
    obtain ⟨⟨q, z⟩, h3, h4⟩ := h2
    have l2 := bodyD_len num_len flagD_len h3
    simp only at h4
    split at h4
    · simp only [Option.some.injEq] at h4
      subst h4
      exact ⟨by omega, bodyD_num h3⟩
    · cases h4
  · cases h2
theorem progL_size {xs : List Int} {p : Pg} (h : progL xs = some p) : sizePg p ≤ xs.length ∧ NumL p := by
  simp only [progL, Option.bind_eq_some_iff, Option.map_eq_some_iff] at h
  obtain ⟨⟨t, y⟩, h1, ⟨q, z⟩, h3, rfl⟩ := h
  have l1 := takeD_len h1
  have l2 := bodyD_len lum_len flagL_len h3
  simp only at l1 l2
  exact ⟨by show sizePg q ≤ xs.length; omega, bodyD_num h3⟩
/-- What both answer. -/
def Lo (bs : List Int) : Option Pg → Prop
  | some q => progD bs = some q ∧ Sound q
  | none => ∀ q, progD bs = some q → ¬ Sound q
theorem lo_some {bs : List Int} {q : Pg} (hb : BB bs) (hl : bs.length ≤ 1048576) (h : Lo bs (some q)) : progL bs = some q ∧ Sound q ∧ save q = bs ∧ sizePg q ≤ 1048576 := by
  obtain ⟨h1, h2⟩ := h
  obtain ⟨h3, h4⟩ := progD_size h1
  have e := progD_inv hb h1 h2 (by omega)
  refine ⟨?_, h2, e.symm, by omega⟩
  rw [e]
  exact progL_ok h2 (by omega) h4
theorem lo_none {bs : List Int} (hl : bs.length ≤ 1048576) (h : Lo bs none) {q : Pg} (h1 : progL bs = some q) (h2 : Sound q) : save q ≠ bs := by
  intro e
  obtain ⟨h3, h4⟩ := progL_size h1
  refine h q ?_ h2
  rw [← e]
  exact progD_ok h2 (by omega) h4
end Go.Proofs.YteagakplhfiodaaDoor.ld

namespace Go.Proofs.YteagakplhfiodaaDoor.ld
open Go.RowKit Go.Proofs.YteagakplhfiodaaDoor.bts Go.Proofs.YteagakplhfiodaaDoor.pg Go.Proofs.YteagakplhfiodaaDoor.chk Go.Proofs.YteagakplhfiodaaDoor.sv

/-- The two of them lie where the package has them. -/
def Er (w : World) (a0 a1 : Addr) : Prop := w.cell? ⟨0, 0, none⟩ = some (.iface 142 (.pointer (some a0))) ∧ w.cell? ⟨1, 0, none⟩ = some (.iface 142 (.pointer (some a1)))
theorem Er.below {w w' : World} {a0 a1 : Addr} (h : Er w a0 a1) (hb : Below w.heap.size w w') : Er w' a0 a1 := ⟨cellB h.1 hb, cellB h.2 hb⟩
/-- A slice that is nil, or one that lies in a block. -/
def Sl (av : Option Addr) (n cv : Nat) : Prop := (av = none ∧ n = 0 ∧ cv = 0) ∨ ∃ b off, av = some ⟨b, off, none⟩ ∧ n ≤ cv
/-- The reader at g, over bytes that lay there in w0: what is left, or none behind a fault. -/
def St (w0 : World) (a0 a1 : Addr) (w : World) (g : Nat) (s : Option (List Int)) : Prop :=
  Below w0.heap.size w0 w ∧ w0.heap.size ≤ g ∧ ∃ av n cv f, Lone 67 2 w g [.slice av n cv, f] ∧ Sl av n cv ∧ n ≤ 1048576 ∧ (∀ xs, s = some xs → n = xs.length ∧ Rd w0 av xs ∧ BB xs ∧ f = .nilIface) ∧ (s = none → f = .iface 142 (.pointer (some a0)) ∨ f = .iface 142 (.pointer (some a1)))
/-- Nothing has turned but the reader. -/
structure Fq (g : Nat) (w w' : World) : Prop where
  below : Below g w w'
  keep : ∀ b, b < w.heap.size → b ≠ g → w'.heap[b]? = w.heap[b]?
theorem Fq.refl (g : Nat) (w : World) : Fq g w w := ⟨Below.refl _ _, fun _ _ _ => rfl⟩
theorem Fq.trans {g : Nat} {a b c : World} (h : Fq g a b) (k : Fq g b c) : Fq g a c :=
  ⟨h.below.trans k.below, fun x hx hg => (k.keep x (Nat.lt_of_lt_of_le hx h.below.size) hg).trans (h.keep x hx hg)⟩
theorem Fq.grown {g : Nat} {a b c : World} (h : Fq g a b) (hg : g ≤ b.heap.size) (k : Below b.heap.size b c) : Fq g a c :=
  h.trans ⟨k.mono hg, fun x hx _ => k.block x hx⟩
theorem Fq.of {g : Nat} {a b : World} (hg : g ≤ a.heap.size) (k : Below a.heap.size a b) : Fq g a b := (Fq.refl g a).grown hg k
theorem Fq.set {g o : Nat} (w : World) (v : Value) : Fq g w (w.setCell ⟨g, o, none⟩ v) :=
  ⟨(Below.refl _ _).setCell (p := ⟨g, o, none⟩) (Nat.le_refl _) _, fun b _ hb => Below.heap_setCell w ⟨g, o, none⟩ _ b hb⟩
theorem St.lt {w0 w : World} {a0 a1 : Addr} {g : Nat} {s : Option (List Int)} (h : St w0 a0 a1 w g s) : g < w.heap.size := by
  obtain ⟨_, _, _, _, _, _, hL, _⟩ := h
  exact heap_lt hL.back
theorem St.keep {w0 w w' : World} {a0 a1 : Addr} {g : Nat} {s : Option (List Int)} (h : St w0 a0 a1 w g s) (hb : Below w.heap.size w w') : St w0 a0 a1 w' g s := by
  have hl := h.lt
  obtain ⟨h1, h2, av, n, cv, f, hL, h3⟩ := h
  exact ⟨h1.trans (hb.mono h1.size), h2, av, n, cv, f, hL.below hb hl, h3⟩
theorem St.set {w0 w w' : World} {a0 a1 : Addr} {g : Nat} {s : Option (List Int)} {av : Option Addr} {n cv : Nat} {f : Value} (h1 : Below w0.heap.size w0 w) (h2 : w0.heap.size ≤ g) (k : Fq g w w') (hL : Lone 67 2 w' g [.slice av n cv, f]) (h3 : Sl av n cv) (h4 : n ≤ 1048576) (h5 : ∀ xs, s = some xs → n = xs.length ∧ Rd w0 av xs ∧ BB xs ∧ f = .nilIface) (h6 : s = none → f = .iface 142 (.pointer (some a0)) ∨ f = .iface 142 (.pointer (some a1))) : St w0 a0 a1 w' g s :=
  ⟨h1.trans (k.below.mono h2), h2, av, n, cv, f, hL, h3, h4, h5, h6⟩

set_option maxRecDepth 100000 in
theorem fail_any (w0 w : World) (a0 a1 : Addr) (g : Nat) (s : Option (List Int)) (ax : Addr) (hx : ax = a0 ∨ ax = a1) (h : St w0 a0 a1 w g s) :
    Calls Tryd.prog 30 #[.pointer (some ⟨g, 0, none⟩), .iface 142 (.pointer (some ax))] w fun e w' => (∃ v, e = .returned v) ∧ St w0 a0 a1 w' g none ∧ Fq g w w' := by
  obtain ⟨h1, h2, av, n, cv, f, hL, h3, h4, h5, h6⟩ := h
  have c1 : w.cell? ⟨g, 1, none⟩ = some f := hL.at (j := 1) (by omega)
  have f1 := hL.free 1
  cases s with
  | some xs =>
    obtain ⟨_, _, _, rfl⟩ := h5 xs rfl
    clear h5 h6
    have P : Hid (St w0 a0 a1 (w.setCell ⟨g, 1, none⟩ (.iface 142 (.pointer (some ax)))) g none ∧ Fq g w (w.setCell ⟨g, 1, none⟩ (.iface 142 (.pointer (some ax))))) := ⟨St.set h1 h2 (Fq.set w _) (hL.set 1 _) h3 h4 (fun _ e => by cases e) (fun _ => by rcases hx with rfl | rfl <;> simp), Fq.set w _⟩
    clear h1 h2 h3 h4 hL hx
    go_enter Tryd.func30, Tryd.ntmps30
    go_wp2
    go_returns
    exact ⟨⟨_, rfl⟩, P.out⟩
  | none =>
    have P : Hid (St w0 a0 a1 w g none ∧ Fq g w w) := ⟨⟨h1, h2, av, n, cv, f, hL, h3, h4, h5, h6⟩, Fq.refl _ _⟩
    have hf := h6 rfl
    clear h1 h2 h3 h4 hL hx h5 h6
    rcases hf with rfl | rfl
    all_goals
      go_enter Tryd.func30, Tryd.ntmps30
      go_wp2
      go_returns
      exact ⟨⟨_, rfl⟩, P.out⟩

set_option maxRecDepth 100000 in
theorem take_none (w0 w : World) (a0 a1 : Addr) (g n : Nat) (_hn : n ≤ 9223372036854775807) (hE : Er w a0 a1) (h : St w0 a0 a1 w g none) :
    Calls Tryd.prog 29 #[.pointer (some ⟨g, 0, none⟩), .int .i64 (n : Int)] w fun e w' => e = .returned (.slice none 0 0) ∧ St w0 a0 a1 w' g none ∧ Fq g w w' := by
  have FL : Hid (Calls Tryd.prog 30 #[.pointer (some ⟨g, 0, none⟩), .iface 142 (.pointer (some a0))] w fun e w' => (∃ v, e = .returned v) ∧ St w0 a0 a1 w' g none ∧ Fq g w w') := fail_any w0 w a0 a1 g none a0 (.inl rfl) h
  have HS : Hid (St w0 a0 a1 w g none) := h
  obtain ⟨h1, h2, av, m, cv, f, hL, h3, h4, h5, h6⟩ := h
  have c0 : w.cell? ⟨g, 0, none⟩ = some (.slice av m cv) := hL.at (j := 0) (by omega)
  have c1 : w.cell? ⟨g, 1, none⟩ = some f := hL.at (j := 1) (by omega)
  have hf := h6 rfl
  have e0 := hE.1
  clear h1 h2 h3 hL h5 h6 hE
  by_cases hlt : (m : Int) < (n : Int)
  · go_enter Tryd.func29, Tryd.ntmps29
    go_wp2_with fail
    refine FL.out.mono ?_
    rintro e w1 ⟨⟨v, rfl⟩, s1, q1⟩
    have HQ : Hid (St w0 a0 a1 w1 g none ∧ Fq g w w1) := ⟨s1, q1⟩
    obtain ⟨_, _, av1, m1, cv1, f1, hL1, _, _, _, h7⟩ := s1
    have c1' : w1.cell? ⟨g, 1, none⟩ = some f1 := hL1.at (j := 1) (by omega)
    have hf1 := h7 rfl
    clear hL1 h7 q1
    rcases hf1 with rfl | rfl
    all_goals
      go_wp2
      go_returns
      exact ⟨rfl, HQ.out⟩
  · rcases hf with rfl | rfl
    all_goals
      go_enter Tryd.func29, Tryd.ntmps29
      go_wp2
      go_returns
      exact ⟨rfl, HS.out, Fq.refl _ _⟩

set_option maxRecDepth 100000 in
theorem take_short (w0 w : World) (a0 a1 : Addr) (g n : Nat) (xs : List Int) (_hn : n ≤ 9223372036854775807) (hl : xs.length < n) (hE : Er w a0 a1) (h : St w0 a0 a1 w g (some xs)) :
    Calls Tryd.prog 29 #[.pointer (some ⟨g, 0, none⟩), .int .i64 (n : Int)] w fun e w' => e = .returned (.slice none 0 0) ∧ St w0 a0 a1 w' g none ∧ Fq g w w' := by
  have FL : Hid (Calls Tryd.prog 30 #[.pointer (some ⟨g, 0, none⟩), .iface 142 (.pointer (some a0))] w fun e w' => (∃ v, e = .returned v) ∧ St w0 a0 a1 w' g none ∧ Fq g w w') := fail_any w0 w a0 a1 g (some xs) a0 (.inl rfl) h
  obtain ⟨h1, h2, av, m, cv, f, hL, h3, h4, h5, h6⟩ := h
  have c0 : w.cell? ⟨g, 0, none⟩ = some (.slice av m cv) := hL.at (j := 0) (by omega)
  have hm := (h5 xs rfl).1
  have e0 := hE.1
  have hlt : (m : Int) < (n : Int) := by omega
  clear h1 h2 h3 hL h5 h6 hE
  go_enter Tryd.func29, Tryd.ntmps29
  go_wp2_with fail
  refine FL.out.mono ?_
  rintro e w1 ⟨⟨v, rfl⟩, s1, q1⟩
  have HQ : Hid (St w0 a0 a1 w1 g none ∧ Fq g w w1) := ⟨s1, q1⟩
  obtain ⟨_, _, av1, m1, cv1, f1, hL1, _, _, _, h7⟩ := s1
  have c1' : w1.cell? ⟨g, 1, none⟩ = some f1 := hL1.at (j := 1) (by omega)
  have hf1 := h7 rfl
  clear hL1 h7 q1
  rcases hf1 with rfl | rfl
  all_goals
    go_wp2
    go_returns
    exact ⟨rfl, HQ.out⟩

set_option maxRecDepth 100000 in
theorem take_ok (w0 w : World) (a0 a1 : Addr) (g n : Nat) (xs : List Int) (hl : n ≤ xs.length) (h : St w0 a0 a1 w g (some xs)) :
    Calls Tryd.prog 29 #[.pointer (some ⟨g, 0, none⟩), .int .i64 (n : Int)] w fun e w' => (∃ av cv, e = .returned (.slice av n cv) ∧ Rd w0 av (xs.take n)) ∧ St w0 a0 a1 w' g (some (xs.drop n)) ∧ Fq g w w' := by
  obtain ⟨h1, h2, av, m, cv, f, hL, h3, h4, h5, h6⟩ := h
  obtain ⟨hm, hr, hb, rfl⟩ := h5 xs rfl
  have c0 : w.cell? ⟨g, 0, none⟩ = some (.slice av m cv) := hL.at (j := 0) (by omega)
  have c1 : w.cell? ⟨g, 1, none⟩ = some .nilIface := hL.at (j := 1) (by omega)
  have f0 := hL.free 0
  have hlt : ¬ (m : Int) < (n : Int) := by omega
  clear h5 h6
  rcases h3 with ⟨rfl, rfl, rfl⟩ | ⟨b, off, rfl, hc⟩
  · obtain rfl : n = 0 := by omega
    have P : Hid (St w0 a0 a1 (w.setCell ⟨g, 0, none⟩ (.slice none 0 0)) g (some (xs.drop 0)) ∧ Fq g w (w.setCell ⟨g, 0, none⟩ (.slice none 0 0))) := ⟨St.set h1 h2 (Fq.set w _) (hL.set 0 _) (.inl ⟨rfl, rfl, rfl⟩) h4 (fun ys e => by cases e; exact ⟨hm, hr, hb, rfl⟩) (fun e => by cases e), Fq.set w _⟩
    clear h1 h2 hL hr hb hm hl h4 hlt
    go_enter Tryd.func29, Tryd.ntmps29
    go_wp2
    go_returns
    exact ⟨⟨none, 0, rfl, fun i hi => absurd hi (by simp)⟩, P.out⟩
  · have hR : Rd w0 (some ⟨b, off + n, none⟩) (xs.drop n) := fun i hi => by
      rw [List.length_drop] at hi
      obtain ⟨b', off', e, hc'⟩ := hr (n + i) (by omega)
      simp only [Option.some.injEq, Addr.mk.injEq, and_true] at e
      obtain ⟨rfl, rfl⟩ := e
      refine ⟨_, _, rfl, ?_⟩
      rw [Nat.add_assoc, hc']
      simp [List.getD_eq_getElem?_getD, List.getElem?_drop]
    have hT : Rd w0 (some ⟨b, off, none⟩) (xs.take n) := fun i hi => by
      rw [List.length_take] at hi
      obtain ⟨b', off', e, hc'⟩ := hr i (by omega)
      refine ⟨b', off', e, ?_⟩
      rw [hc']
      simp only [List.getD_eq_getElem?_getD]
      rw [List.getElem?_take_of_lt (by omega)]
    have P : Hid (∀ av k c, Rd w0 av (xs.drop n) → k = xs.length - n → Sl av k c → St w0 a0 a1 (w.setCell ⟨g, 0, none⟩ (.slice av k c)) g (some (xs.drop n)) ∧ Fq g w (w.setCell ⟨g, 0, none⟩ (.slice av k c))) := fun av k c hr' hk hS => ⟨St.set h1 h2 (Fq.set w _) (hL.set 0 _) hS (by omega) (fun ys e => by cases e; exact ⟨by rw [List.length_drop]; omega, hr', hb.drop n, rfl⟩) (fun e => by cases e), Fq.set w _⟩
    have HT : Hid (Rd w0 (some ⟨b, off, none⟩) (xs.take n)) := hT
    have HR : Hid (Rd w0 (some ⟨b, off + n, none⟩) (xs.drop n)) := hR
    clear h1 h2 hL hr hb hT hR
    go_enter Tryd.func29, Tryd.ntmps29
    go_wp2
    · go_returns
      refine ⟨⟨_, ⟨_, rfl⟩, HT.out⟩, P.out _ _ _ (fun i hi => ?_) rfl (.inr ⟨_, _, rfl, by omega⟩)⟩
      rw [List.length_drop] at hi
      omega
    · go_returns
      exact ⟨⟨_, ⟨_, rfl⟩, HT.out⟩, P.out _ _ _ HR.out rfl (.inr ⟨_, _, rfl, by omega⟩)⟩

/-- What a reading gives: the value where it succeeds, and the state behind it. -/
def Got {α : Type} (o : Option (α × List Int)) (a : α) (s' : Option (List Int)) : Prop := (o = none ∧ s' = none) ∨ ∃ ys, o = some (a, ys) ∧ s' = some ys
theorem Er.st {w0 w : World} {a0 a1 : Addr} {g : Nat} {s : Option (List Int)} (hE : Er w0 a0 a1) (h : St w0 a0 a1 w g s) : Er w a0 a1 := hE.below h.1

set_option maxRecDepth 100000 in
theorem next_none (w0 w : World) (a0 a1 : Addr) (g : Nat) (s : Option (List Int)) (hE : Er w0 a0 a1) (hs : s = none ∨ s = some []) (h : St w0 a0 a1 w g s) :
    Calls Tryd.prog 54 #[.pointer (some ⟨g, 0, none⟩)] w fun e w' => e = .returned (.int .u8 0) ∧ St w0 a0 a1 w' g none ∧ Fq g w w' := by
  have TK : Hid (Calls Tryd.prog 29 #[.pointer (some ⟨g, 0, none⟩), .int .i64 1] w fun e w' => e = .returned (.slice none 0 0) ∧ St w0 a0 a1 w' g none ∧ Fq g w w') := by
    rcases hs with rfl | rfl
    · exact take_none w0 w a0 a1 g 1 (by omega) (hE.st h) h
    · exact take_short w0 w a0 a1 g 1 [] (by omega) (by simp) (hE.st h) h
  clear h hE hs
  go_enter Tryd.func54, Tryd.ntmps54
  go_wp2_with fail
  refine TK.out.mono ?_
  rintro e w1 ⟨rfl, s1, q1⟩
  have HQ : Hid (St w0 a0 a1 w1 g none ∧ Fq g w w1) := ⟨s1, q1⟩
  clear s1 q1
  go_wp2
  go_returns
  exact ⟨rfl, HQ.out⟩

set_option maxRecDepth 100000 in
theorem next_ok (w0 w : World) (a0 a1 : Addr) (g : Nat) (z : Int) (r : List Int) (h : St w0 a0 a1 w g (some (z :: r))) :
    Calls Tryd.prog 54 #[.pointer (some ⟨g, 0, none⟩)] w fun e w' => e = .returned (.int .u8 z) ∧ St w0 a0 a1 w' g (some r) ∧ Fq g w w' := by
  have TK : Hid (Calls Tryd.prog 29 #[.pointer (some ⟨g, 0, none⟩), .int .i64 1] w fun e w' => (∃ av cv, e = .returned (.slice av 1 cv) ∧ Rd w0 av [z]) ∧ St w0 a0 a1 w' g (some r) ∧ Fq g w w') := take_ok w0 w a0 a1 g 1 (z :: r) (by simp) h
  clear h
  go_enter Tryd.func54, Tryd.ntmps54
  go_wp2_with fail
  refine TK.out.mono ?_
  rintro e w1 ⟨⟨av, cv, rfl, hr⟩, s1, q1⟩
  obtain ⟨b, off, rfl, hc⟩ := hr 0 (by simp)
  have c0 : w1.cell? ⟨b, off, none⟩ = some (.int .u8 z) := by simpa using cellB hc s1.1
  have HQ : Hid (St w0 a0 a1 w1 g (some r) ∧ Fq g w w1) := ⟨s1, q1⟩
  clear s1 q1 hr hc
  go_wp2
  go_returns
  exact ⟨rfl, HQ.out⟩

/-- The next byte, or 0. -/
theorem next_any (w0 w : World) (a0 a1 : Addr) (g : Nat) (s : Option (List Int)) (hE : Er w0 a0 a1) (h : St w0 a0 a1 w g s) :
    Calls Tryd.prog 54 #[.pointer (some ⟨g, 0, none⟩)] w fun e w' => ∃ z s', e = .returned (.int .u8 z) ∧ 0 ≤ z ∧ z ≤ 255 ∧ Got (s.bind byteD) z s' ∧ (s' = none → z = 0) ∧ St w0 a0 a1 w' g s' ∧ Fq g w w' := by
  match s, h with
  | none, h =>
    refine (next_none w0 w a0 a1 g none hE (.inl rfl) h).mono ?_
    rintro e w' ⟨rfl, h1, h2⟩
    exact ⟨0, none, rfl, by omega, by omega, .inl ⟨rfl, rfl⟩, fun _ => rfl, h1, h2⟩
  | some [], h =>
    refine (next_none w0 w a0 a1 g (some []) hE (.inr rfl) h).mono ?_
    rintro e w' ⟨rfl, h1, h2⟩
    exact ⟨0, none, rfl, by omega, by omega, .inl ⟨rfl, rfl⟩, fun _ => rfl, h1, h2⟩
  | some (z :: r), h =>
    have hb : 0 ≤ z ∧ z ≤ 255 := by
      obtain ⟨_, _, _, _, _, _, _, _, _, h5, _⟩ := h
      exact (h5 _ rfl).2.2.1.head
    refine (next_ok w0 w a0 a1 g z r h).mono ?_
    rintro e w' ⟨rfl, h1, h2⟩
    exact ⟨z, some r, rfl, hb.1, hb.2, .inr ⟨r, rfl, rfl⟩, fun e => (by cases e), h1, h2⟩

set_option maxRecDepth 100000 in
theorem flag_any (w0 w : World) (a0 a1 : Addr) (g : Nat) (s : Option (List Int)) (hE : Er w0 a0 a1) (h : St w0 a0 a1 w g s) :
    Calls Tryd.prog 52 #[.pointer (some ⟨g, 0, none⟩)] w fun e w' => ∃ b s', e = .returned (.bool b) ∧ Got (s.bind flagD) b s' ∧ St w0 a0 a1 w' g s' ∧ Fq g w w' := by
  have NX : Hid _ := next_any w0 w a0 a1 g s hE h
  have FL : Hid (∀ W s, St w0 a0 a1 W g s → Calls Tryd.prog 30 #[.pointer (some ⟨g, 0, none⟩), .iface 142 (.pointer (some a1))] W fun e w' => (∃ v, e = .returned v) ∧ St w0 a0 a1 w' g none ∧ Fq g W w') := fun W s h => fail_any w0 W a0 a1 g s a1 (.inr rfl) h
  have HE : Hid (Er w0 a0 a1) := hE
  clear h hE
  go_enter Tryd.func52, Tryd.ntmps52
  go_wp2_with fail
  refine Calls.mono NX.out ?_
  rintro e w1 ⟨z, s1, rfl, z0, z1, hg, hz, h1, q1⟩
  have e1 := (HE.out.st h1).2
  have HS : Hid (St w0 a0 a1 w1 g s1) := h1
  have HQ : Hid (Fq g w w1) := q1
  have HG : Hid (Got (s.bind byteD) z s1) := hg
  clear h1 q1 hg NX
  by_cases hz1 : (1 : Int) < z
  · go_wp2_with fail
    refine (FL.out w1 s1 HS.out).mono ?_
    rintro e w2 ⟨⟨v, rfl⟩, h2, q2⟩
    have HS2 : Hid (St w0 a0 a1 w2 g none ∧ Fq g w w2) := ⟨h2, HQ.out.trans q2⟩
    clear h2 q2
    go_wp2
    go_returns
    refine ⟨z == 1, none, rfl, .inl ⟨?_, rfl⟩, HS2.out⟩
    rcases HG.out with ⟨_, e⟩ | ⟨ys, e, _⟩
    · have := hz e; omega
    · match s, e with
      | some (x :: r), e =>
        simp only [Option.bind_some, byteD, Option.some.injEq, Prod.mk.injEq] at e
        obtain ⟨rfl, rfl⟩ := e
        simp only [Option.bind_some, flagD]
        rw [if_neg (by omega)]
  · have R : Hid (∃ b s', (Ending.returned (.bool (z == 1)) = Ending.returned (.bool b)) ∧ Got (s.bind flagD) b s' ∧ St w0 a0 a1 w1 g s' ∧ Fq g w w1) := by
      refine ⟨z == 1, s1, rfl, ?_, HS.out, HQ.out⟩
      rcases HG.out with ⟨e, e'⟩ | ⟨ys, e, e'⟩
      · refine .inl ⟨?_, e'⟩
        match s, e with
        | none, _ => rfl
        | some [], _ => rfl
      · refine .inr ⟨ys, ?_, e'⟩
        match s, e with
        | some (x :: r), e =>
          simp only [Option.bind_some, byteD, Option.some.injEq, Prod.mk.injEq] at e
          obtain ⟨rfl, rfl⟩ := e
          simp only [Option.bind_some, flagD]
          rw [if_pos (by omega)]
          rfl
    go_wp2
    go_returns
    exact R.out
end Go.Proofs.YteagakplhfiodaaDoor.ld

namespace Go.Proofs.YteagakplhfiodaaDoor.ld
open Go.RowKit Go.Proofs.YteagakplhfiodaaDoor.bts Go.Proofs.YteagakplhfiodaaDoor.pg Go.Proofs.YteagakplhfiodaaDoor.chk Go.Proofs.YteagakplhfiodaaDoor.sv

theorem pow_seven (i : Nat) : 2 ^ (7 * i) = 128 ^ i := by rw [Nat.pow_mul]
theorem join_lt {acc z i : Nat} (ha : acc < 128 ^ i) : acc + z % 128 * 128 ^ i < 128 ^ (i + 1) := by
  have h1 : z % 128 ≤ 127 := by omega
  have h2 := Nat.mul_le_mul_right (128 ^ i) h1
  rw [Nat.pow_succ]
  omega
theorem join_top {acc i : Nat} (hi : i ≤ 9) (ha : acc < 128 ^ i) : acc ≤ 9223372036854775807 := by
  have := Nat.pow_le_pow_right (show 0 < 128 by omega) hi
  have e : 128 ^ 9 = 9223372036854775808 := rfl
  omega
theorem or_num {acc z i : Nat} (hi : i < 9) (ha : acc < 128 ^ i) : bits .or .i64 (acc : Int) (IntKind.i64.wrap (((z % 128 : Nat) : Int) * 2 ^ (7 * i))) = ((acc + z % 128 * 128 ^ i : Nat) : Int) := by
  have hp : ((2 : Int) ^ (7 * i)) = ((128 ^ i : Nat) : Int) := by rw [← pow_seven]; simp
  have h1 := join_top (show i + 1 ≤ 9 by omega) (join_lt (z := z) ha)
  have e1 : IntKind.i64.wrap (((z % 128 : Nat) : Int) * 2 ^ (7 * i)) = ((z % 128 * 128 ^ i : Nat) : Int) := by
    rw [hp, ← Int.natCast_mul, wrap64, Int.emod_eq_of_lt (by omega) (by omega), if_neg (by omega)]
  rw [e1, bits_join_low .i64 63 (by decide) (fun n h0 h1 => by rw [wrap64, Int.emod_eq_of_lt h0 (by have : (2 : Int) ^ 63 = 9223372036854775808 := rfl; omega), if_neg (by have : (2 : Int) ^ 63 = 9223372036854775808 := rfl; omega)]) (7 * i) (acc : Int) _ (by omega) (by rw [hp]; omega) (by have : (2 : Int) ^ 63 = 9223372036854775808 := rfl; omega) (by omega) (by rw [hp, ← Int.natCast_emod, Nat.mul_mod_left]; rfl) (by have : (2 : Int) ^ 63 = 9223372036854775808 := rfl; omega)]
  omega

theorem wr64 (n : Int) : Go.RowKit.wrap64 n = IntKind.i64.wrap n := by
  rw [wrap64]
  unfold Go.RowKit.wrap64
  split <;> omega
theorem wr0 : Go.RowKit.wrap64 0 = 0 := by unfold Go.RowKit.wrap64; omega
theorem or_here {acc z i : Nat} (hi : i < 9) (ha : acc < 128 ^ i) : bits .or .i64 (acc : Int) (Go.RowKit.wrap64 ((z : Int) % 128 * 2 ^ (7 * i))) = ((acc + z % 128 * 128 ^ i : Nat) : Int) := by
  rw [wr64]
  exact or_num hi ha

set_option maxRecDepth 100000 in
set_option maxHeartbeats 1000000 in
theorem number_any (w0 w : World) (a0 a1 : Addr) (g : Nat) (s : Option (List Int)) (hE : Er w0 a0 a1) (h : St w0 a0 a1 w g s) :
    Calls Tryd.prog 51 #[.pointer (some ⟨g, 0, none⟩)] w fun e w' => ∃ (n : Nat) (s' : Option (List Int)), e = .returned (.int .i64 (n : Int)) ∧ n ≤ 9223372036854775807 ∧ Got (s.bind num) n s' ∧ St w0 a0 a1 w' g s' ∧ Fq g w w' := by
  have NX : Hid (∀ W s, St w0 a0 a1 W g s → Calls Tryd.prog 54 #[.pointer (some ⟨g, 0, none⟩)] W fun e w' => ∃ z s', e = .returned (.int .u8 z) ∧ 0 ≤ z ∧ z ≤ 255 ∧ Got (s.bind byteD) z s' ∧ (s' = none → z = 0) ∧ St w0 a0 a1 w' g s' ∧ Fq g W w') := fun W s h => next_any w0 W a0 a1 g s hE h
  have FL : Hid (∀ W s, St w0 a0 a1 W g s → Calls Tryd.prog 30 #[.pointer (some ⟨g, 0, none⟩), .iface 142 (.pointer (some a1))] W fun e w' => (∃ v, e = .returned v) ∧ St w0 a0 a1 w' g none ∧ Fq g W w') := fun W s h => fail_any w0 W a0 a1 g s a1 (.inr rfl) h
  have HE : Hid (Er w0 a0 a1) := hE
  have HS : Hid (St w0 a0 a1 w g s) := h
  clear h hE
  go_enter Tryd.func51, Tryd.ntmps51
  go_wp2_with fail
  go_loopw [3, 4] (fun v x wr => ∃ (i acc : Nat) (s' : Option (List Int)), i ≤ 9 ∧ x = .int .i64 (7 * (i : Int)) ∧ v = .int .i64 (acc : Int) ∧ Hid (acc < 128 ^ i) ∧ Hid (s.bind num = s'.bind (numD (9 - i) i acc)) ∧ Hid (s' = none → i = 0) ∧ Hid (St w0 a0 a1 wr g s') ∧ Hid (Fq g w wr)) (fun _ x _ => 63 - (intOf x).toNat)
  case atStart => exact ⟨0, 0, s, by omega, rfl, rfl, by show 0 < 1; omega, rfl, fun _ => rfl, HS.out, Fq.refl _ _⟩
  case round =>
    obtain ⟨i, acc, s1, hi, rfl, rfl, HA, HN, HZ, HS1, HF1⟩ := hrel
    have e1 := (HE.out.st HS1.out).2
    have ht := join_top hi HA.out
    by_cases hlt : i < 9
    · have hlt' : 7 * (i : Int) < 63 := by omega
      go_wp2_with fail
      refine (NX.out _ s1 HS1.out).mono ?_
      rintro e w2 ⟨z, s2, rfl, z0, z1, hG, hz, hS2, hF2⟩
      obtain ⟨zn, rfl⟩ : ∃ zn : Nat, z = (zn : Int) := ⟨z.toNat, by omega⟩
      have HOR : Hid (bits .or .i64 (acc : Int) (Go.RowKit.wrap64 ((zn : Int) % 128 * 2 ^ (7 * i))) = ((acc + zn % 128 * 128 ^ i : Nat) : Int)) := or_here hlt HA.out
      have HG : Hid (Got (s1.bind byteD) (zn : Int) s2) := hG
      have HS2 : Hid (St w0 a0 a1 w2 g s2) := hS2
      have HF2 : Hid (Fq g w w2) := HF1.out.trans hF2
      have HL : Hid (acc + zn % 128 * 128 ^ i < 128 ^ (i + 1)) := join_lt HA.out
      clear hG hS2 hF2 HS1 HF1
      have e2 := (HE.out.st HS2.out).2
      have HT : Hid (acc + zn % 128 * 128 ^ i ≤ 9223372036854775807) := join_top (show i + 1 ≤ 9 by omega) HL.out
      by_cases hb : (zn : Int) < 128
      · by_cases h0 : zn = 0 ∧ 0 < i
        · obtain ⟨rfl, hi0⟩ := h0
          have hi7 : (0 : Int) < 7 * (i : Int) := by omega
          have HR : Hid (s.bind num = none) := by
            show s.bind num = none
            rw [HN.out]
            match s1, HG.out with
            | none, _ => rfl
            | some [], _ =>
              obtain ⟨k, hk⟩ : ∃ k, 9 - i = k + 1 := ⟨8 - i, by omega⟩
              rw [hk]; rfl
            | some (x :: r), hG =>
              obtain ⟨k, hk⟩ : ∃ k, 9 - i = k + 1 := ⟨8 - i, by omega⟩
              rw [hk]
              rcases hG with ⟨e, _⟩ | ⟨ys, e, _⟩
              · cases e
              · simp only [Option.bind_some, byteD, Option.some.injEq, Prod.mk.injEq] at e
                simp only [Option.bind_some, numD]
                rw [if_pos ⟨e.1, hi0⟩]
          go_wp2_with fail
          refine (FL.out _ s2 HS2.out).mono ?_
          rintro e w3 ⟨⟨v, rfl⟩, h3, q3⟩
          have HS3 : Hid (St w0 a0 a1 w3 g none ∧ Fq g w w3) := ⟨h3, HF2.out.trans q3⟩
          clear h3 q3
          go_wp2
          go_returns
          exact ⟨acc + 0 % 128 * 128 ^ i, none, by first | (rw [HOR.out]; rfl) | (have := HOR.out; simp [wr0] at this ⊢; exact this), HT.out, .inl ⟨HR.out, rfl⟩, HS3.out⟩
        · have HR : Hid (Got (s.bind num) (acc + zn % 128 * 128 ^ i) s2) := by
            show Got _ _ _
            rw [HN.out]
            obtain ⟨k, hk⟩ : ∃ k, 9 - i = k + 1 := ⟨8 - i, by omega⟩
            rw [hk]
            match s1, HG.out with
            | none, hG =>
              rcases hG with ⟨_, e⟩ | ⟨ys, e, _⟩
              · exact .inl ⟨rfl, e⟩
              · cases e
            | some [], hG =>
              rcases hG with ⟨_, e⟩ | ⟨ys, e, _⟩
              · exact .inl ⟨rfl, e⟩
              · cases e
            | some (x :: r), hG =>
              rcases hG with ⟨e, _⟩ | ⟨ys, e, e'⟩
              · cases e
              · simp only [Option.bind_some, byteD, Option.some.injEq, Prod.mk.injEq] at e
                obtain ⟨rfl, rfl⟩ := e
                refine .inr ⟨r, ?_, e'⟩
                simp only [Option.bind_some, numD]
                rw [if_neg (by omega), if_pos hb]
                simp
          by_cases hz0 : zn = 0
          · obtain rfl : i = 0 := by omega
            subst hz0
            go_wp2
            go_returns
            exact ⟨_, s2, by first | (rw [HOR.out]; rfl) | (have := HOR.out; simp [wr0] at this ⊢; exact this), HT.out, HR.out, HS2.out, HF2.out⟩
          · go_wp2
            go_returns
            exact ⟨_, s2, by rw [HOR.out]; rfl, HT.out, HR.out, HS2.out, HF2.out⟩
      · have HR : Hid (s.bind num = s2.bind (numD (9 - (i + 1)) (i + 1) (acc + zn % 128 * 128 ^ i)) ∧ s2 ≠ none) := by
          show _ ∧ _
          rw [HN.out]
          obtain ⟨k, hk⟩ : ∃ k, 9 - i = k + 1 := ⟨8 - i, by omega⟩
          have hk2 : 9 - (i + 1) = k := by omega
          rw [hk, hk2]
          rcases HG.out with ⟨_, e⟩ | ⟨ys, e, e'⟩
          · have := hz e; omega
          · match s1, e with
            | some (x :: r), e =>
              simp only [Option.bind_some, byteD, Option.some.injEq, Prod.mk.injEq] at e
              obtain ⟨rfl, rfl⟩ := e
              subst e'
              refine ⟨?_, by simp⟩
              simp only [Option.bind_some, numD]
              rw [if_neg (by omega), if_neg hb]
              simp
        go_wp2
        exact ⟨⟨i + 1, acc + zn % 128 * 128 ^ i, s2, by omega, by go_num, by rw [HOR.out], HL.out, HR.out.1, fun e => absurd e HR.out.2, HS2.out, HF2.out⟩, by simp [intOf]; omega⟩
    · obtain rfl : i = 9 := by omega
      have HR : Hid (s.bind num = none) := by
        show s.bind num = none
        rw [HN.out]
        cases s1 <;> rfl
      go_wp2_with fail
      refine (FL.out _ s1 HS1.out).mono ?_
      rintro e w3 ⟨⟨v, rfl⟩, h3, q3⟩
      have HS3 : Hid (St w0 a0 a1 w3 g none ∧ Fq g w w3) := ⟨h3, HF1.out.trans q3⟩
      clear h3 q3
      go_wp2
      go_returns
      exact ⟨0, none, rfl, by omega, .inl ⟨HR.out, rfl⟩, HS3.out⟩
end Go.Proofs.YteagakplhfiodaaDoor.ld

namespace Go.Proofs.YteagakplhfiodaaDoor.ld
open Go.RowKit Go.Proofs.YteagakplhfiodaaDoor.bts Go.Proofs.YteagakplhfiodaaDoor.pg Go.Proofs.YteagakplhfiodaaDoor.chk Go.Proofs.YteagakplhfiodaaDoor.sv

theorem got_then {α β : Type} {s s1 s2 : Option (List Int)} {d : List Int → Option (α × List Int)} {e : α → List Int → Option (β × List Int)} {a : α} {b : β} (h1 : Got (s.bind d) a s1) (h2 : Got (s1.bind (e a)) b s2) : Got (s.bind fun xs => (d xs).bind fun x => e x.1 x.2) b s2 := by
  rcases h1 with ⟨h, rfl⟩ | ⟨ys, h, rfl⟩
  · rcases h2 with ⟨_, rfl⟩ | ⟨ys, h', _⟩
    · refine .inl ⟨?_, rfl⟩
      cases s with
      | none => rfl
      | some xs => simp only [Option.bind_some] at h ⊢; rw [h]; rfl
    · cases h'
  · cases s with
    | none => cases h
    | some xs =>
      simp only [Option.bind_some] at h h2 ⊢
      rw [h]
      exact h2
theorem got_map {α β : Type} {s s1 : Option (List Int)} {d : List Int → Option (α × List Int)} {a : α} (f : α → β) (h : Got (s.bind d) a s1) : Got (s.bind fun xs => (d xs).map fun x => (f x.1, x.2)) (f a) s1 := by
  rcases h with ⟨h, rfl⟩ | ⟨ys, h, rfl⟩
  · refine .inl ⟨?_, rfl⟩
    cases s with
    | none => rfl
    | some xs => simp only [Option.bind_some] at h ⊢; rw [h]; rfl
  · refine .inr ⟨ys, ?_, rfl⟩
    cases s with
    | none => cases h
    | some xs => simp only [Option.bind_some] at h ⊢; rw [h]; rfl

theorem Fq.lone {T : TypeId} {c g R : Nat} {w w' : World} {xs : List Value} (h : Fq g w w') (hL : Lone T c w R xs) (hg : R ≠ g) : Lone T c w' R xs :=
  own_far hL (fun b e => by
    cases e
    exact h.keep R (heap_lt hL.back) hg)
theorem lone_new {T : TypeId} {c : Nat} (w : World) {xs : List Value} (h : xs.length = c) : Lone T c (w.alloc (.cells xs.toArray T)) w.heap.size xs := Lone.of (heap_alloc_new w _) h
theorem Fq.new {g : Nat} {w w' : World} (o : Obj) (hg : g < w.heap.size) (h : Fq g (w.alloc o) w') : Fq g w w' := (Fq.of (Nat.le_of_lt hg) ((Below.refl _ _).alloc (Nat.le_refl _) o)).trans h
/-- Behind the call nothing has turned but the reader, and what was made since. -/
theorem Fq.far {g R o : Nat} {w w' : World} (h : Fq g w w') (hR : w.heap.size ≤ R) (hg : g < w.heap.size) (v : Value) : Fq g w (w'.setCell ⟨R, o, none⟩ v) :=
  ⟨h.below.trans ((Below.refl _ _).setCell (p := ⟨R, o, none⟩) (show g ≤ R by omega) _), fun b hb hbg => by
    rw [Below.heap_setCell w' ⟨R, o, none⟩ _ b (by show b ≠ R; omega)]
    exact h.keep b hb hbg⟩
theorem St.far {w0 w : World} {a0 a1 : Addr} {g R o : Nat} {s : Option (List Int)} {v : Value} (h : St w0 a0 a1 w g s) (hR : g < R) : St w0 a0 a1 (w.setCell ⟨R, o, none⟩ v) g s := by
  obtain ⟨h1, h2, av, n, cv, f, hL, h3⟩ := h
  refine ⟨h1.setCell (p := ⟨R, o, none⟩) (show w0.heap.size ≤ R by omega) _, h2, av, n, cv, f, hL.other (by omega), h3⟩

set_option maxRecDepth 100000 in
theorem capture_any (w0 w : World) (a0 a1 : Addr) (g : Nat) (s : Option (List Int)) (hE : Er w0 a0 a1) (h : St w0 a0 a1 w g s) :
    Calls Tryd.prog 56 #[.pointer (some ⟨g, 0, none⟩)] w fun e w' => ∃ (b : Bool) (n : Nat) (s' : Option (List Int)), e = .returned (.agg #[.bool b, .int .i64 (n : Int)]) ∧ Got (s.bind (capD num flagD)) ⟨b, (n : Int)⟩ s' ∧ St w0 a0 a1 w' g s' ∧ Fq g w w' := by
  have FG : Hid (∀ W s, St w0 a0 a1 W g s → Calls Tryd.prog 52 #[.pointer (some ⟨g, 0, none⟩)] W fun e w' => ∃ b s', e = .returned (.bool b) ∧ Got (s.bind flagD) b s' ∧ St w0 a0 a1 w' g s' ∧ Fq g W w') := fun W s h => flag_any w0 W a0 a1 g s hE h
  have NM : Hid (∀ W s, St w0 a0 a1 W g s → Calls Tryd.prog 51 #[.pointer (some ⟨g, 0, none⟩)] W fun e w' => ∃ (n : Nat) (s' : Option (List Int)), e = .returned (.int .i64 (n : Int)) ∧ n ≤ 9223372036854775807 ∧ Got (s.bind num) n s' ∧ St w0 a0 a1 w' g s' ∧ Fq g W w') := fun W s h => number_any w0 W a0 a1 g s hE h
  have hgl := h.lt
  have HS : Hid (St w0 a0 a1 (w.alloc (.cells #[.bool false, .int .i64 0] 48)) g s) := h.keep ((Below.refl _ _).alloc (Nat.le_refl _) _)
  have L0 : Hid (Lone 48 2 (w.alloc (.cells #[.bool false, .int .i64 0] 48)) w.heap.size [.bool false, .int .i64 0]) := lone_new w rfl
  have F0 : Hid (Fq g w (w.alloc (.cells #[.bool false, .int .i64 0] 48))) := Fq.of (Nat.le_of_lt hgl) ((Below.refl _ _).alloc (Nat.le_refl _) _)
  clear h hE
  go_enter Tryd.func56, Tryd.ntmps56
  go_wp2_with fail
  generalize w.alloc (.cells #[.bool false, .int .i64 0] 48) = W0 at HS L0 F0 ⊢
  refine (FG.out _ _ HS.out).mono ?_
  rintro e w1 ⟨b, s1, rfl, g1, h1, q1⟩
  have L1 : Hid _ := q1.lone L0.out (by omega)
  have HG1 : Hid (Got (s.bind flagD) b s1) := g1
  have HS1 : Hid (St w0 a0 a1 w1 g s1) := h1
  have F1 : Hid (Fq g w w1) := F0.out.trans q1
  clear g1 h1 q1 HS L0 F0
  go_wp2_with fail
  refine (NM.out _ _ HS1.out).mono ?_
  rintro e w2 ⟨n, s2, rfl, hn, g2, h2, q2⟩
  have L2 : Lone 48 2 w2 w.heap.size [.bool false, .int .i64 0] := q2.lone L1.out (by omega)
  have g4 := got_then (e := fun (b : Bool) (ys : List Int) => (num ys).map fun y : Nat × List Int => ((⟨b, (y.1 : Int)⟩ : Cp), y.2)) HG1.out (got_map (fun n : Nat => (⟨b, (n : Int)⟩ : Cp)) g2)
  have g3 : Got (s.bind (capD num flagD)) ⟨b, (n : Int)⟩ s2 := g4
  have HG2 : Hid (Got (s.bind (capD num flagD)) ⟨b, (n : Int)⟩ s2) := g3
  have HS2 : Hid (St w0 a0 a1 w2 g s2) := h2
  have F2 : Hid (Fq g w w2) := F1.out.trans q2
  clear g2 g3 g4 h2 q2 HS1 L1 F1 HG1
  have f0 := L2.free 0
  have f1 := L2.free 1
  have c0 := L2.at (j := 0) (by omega)
  have c1 := L2.at (j := 1) (by omega)
  simp only [List.getElem?_cons_zero, List.getElem?_cons_succ] at c0 c1
  have P : Hid (St w0 a0 a1 ((w2.setCell ⟨w.heap.size, 0, none⟩ (.bool b)).setCell ⟨w.heap.size, 1, none⟩ (.int .i64 (n : Int))) g s2 ∧ Fq g w ((w2.setCell ⟨w.heap.size, 0, none⟩ (.bool b)).setCell ⟨w.heap.size, 1, none⟩ (.int .i64 (n : Int)))) := ⟨(HS2.out.far hgl).far hgl, (F2.out.far (Nat.le_refl _) hgl _).far (Nat.le_refl _) hgl _⟩
  have HM : Hid (Lone 48 2 ((w2.setCell ⟨w.heap.size, 0, none⟩ (.bool b)).setCell ⟨w.heap.size, 1, none⟩ (.int .i64 (n : Int))) w.heap.size [.bool b, .int .i64 (n : Int)]) := (L2.set 0 _).set 1 _
  clear L2 HS2 F2
  go_wp2
  refine bodyPost_ret (results_cell_row Tryd.results56 _ _ w.heap.size 48 _ _ _ rfl (Lone.back HM.out) Tryd.underlying48 rfl rfl) rfl ?_
  exact ⟨b, n, s2, rfl, HG2.out, P.out⟩

set_option maxRecDepth 100000 in
theorem instruction_any (w0 w : World) (a0 a1 : Addr) (g : Nat) (s : Option (List Int)) (hE : Er w0 a0 a1) (h : St w0 a0 a1 w g s) :
    Calls Tryd.prog 58 #[.pointer (some ⟨g, 0, none⟩)] w fun e w' => ∃ (z : Int) (n m : Nat) (s' : Option (List Int)), e = .returned (.agg #[.int .i64 z, .int .i64 (n : Int), .int .i64 (m : Int)]) ∧ Got (s.bind (insD num)) ⟨z, (n : Int), (m : Int)⟩ s' ∧ St w0 a0 a1 w' g s' ∧ Fq g w w' := by
  have NX : Hid (∀ W s, St w0 a0 a1 W g s → Calls Tryd.prog 54 #[.pointer (some ⟨g, 0, none⟩)] W fun e w' => ∃ z s', e = .returned (.int .u8 z) ∧ 0 ≤ z ∧ z ≤ 255 ∧ Got (s.bind byteD) z s' ∧ (s' = none → z = 0) ∧ St w0 a0 a1 w' g s' ∧ Fq g W w') := fun W s h => next_any w0 W a0 a1 g s hE h
  have NM : Hid (∀ W s, St w0 a0 a1 W g s → Calls Tryd.prog 51 #[.pointer (some ⟨g, 0, none⟩)] W fun e w' => ∃ (n : Nat) (s' : Option (List Int)), e = .returned (.int .i64 (n : Int)) ∧ n ≤ 9223372036854775807 ∧ Got (s.bind num) n s' ∧ St w0 a0 a1 w' g s' ∧ Fq g W w') := fun W s h => number_any w0 W a0 a1 g s hE h
  have hgl := h.lt
  have HS : Hid (St w0 a0 a1 (w.alloc (.cells #[.int .i64 0, .int .i64 0, .int .i64 0] 50)) g s) := h.keep ((Below.refl _ _).alloc (Nat.le_refl _) _)
  have L0 : Hid (Lone 50 3 (w.alloc (.cells #[.int .i64 0, .int .i64 0, .int .i64 0] 50)) w.heap.size [.int .i64 0, .int .i64 0, .int .i64 0]) := lone_new w rfl
  have F0 : Hid (Fq g w (w.alloc (.cells #[.int .i64 0, .int .i64 0, .int .i64 0] 50))) := Fq.of (Nat.le_of_lt hgl) ((Below.refl _ _).alloc (Nat.le_refl _) _)
  clear h hE
  go_enter Tryd.func58, Tryd.ntmps58
  go_wp2_with fail
  generalize w.alloc (.cells #[.int .i64 0, .int .i64 0, .int .i64 0] 50) = W0 at HS L0 F0 ⊢
  refine (NX.out _ _ HS.out).mono ?_
  rintro e w1 ⟨z, s1, rfl, z0, z1, g1, _, h1, q1⟩
  have L1 : Hid _ := q1.lone L0.out (by omega)
  have HG1 : Hid (Got (s.bind byteD) z s1) := g1
  have HS1 : Hid (St w0 a0 a1 w1 g s1) := h1
  have F1 : Hid (Fq g w w1) := F0.out.trans q1
  clear g1 h1 q1 HS L0 F0
  go_wp2_with fail
  refine (NM.out _ _ HS1.out).mono ?_
  rintro e w2 ⟨n, s2, rfl, hn, g2, h2, q2⟩
  have L2 : Hid _ := q2.lone L1.out (by omega)
  have HG2 : Hid (Got (s1.bind num) n s2) := g2
  have HS2 : Hid (St w0 a0 a1 w2 g s2) := h2
  have F2 : Hid (Fq g w w2) := F1.out.trans q2
  clear g2 h2 q2 HS1 L1 F1
  go_wp2_with fail
  refine (NM.out _ _ HS2.out).mono ?_
  rintro e w3 ⟨m, s3, rfl, hm, g3, h3, q3⟩
  have L3 : Lone 50 3 w3 w.heap.size [.int .i64 0, .int .i64 0, .int .i64 0] := q3.lone L2.out (by omega)
  have g5 := got_then (e := fun (y : Nat) (ys : List Int) => (num ys).map fun x : Nat × List Int => ((⟨z, (y : Int), (x.1 : Int)⟩ : In), x.2)) HG2.out (got_map (fun m : Nat => (⟨z, (n : Int), (m : Int)⟩ : In)) g3)
  have g4 := got_then (e := fun (z : Int) (ys : List Int) => (num ys).bind fun y => (num y.2).map fun x : Nat × List Int => ((⟨z, (y.1 : Int), (x.1 : Int)⟩ : In), x.2)) HG1.out g5
  have g6 : Got (s.bind (insD num)) ⟨z, (n : Int), (m : Int)⟩ s3 := g4
  have HG3 : Hid (Got (s.bind (insD num)) ⟨z, (n : Int), (m : Int)⟩ s3) := g6
  have HS3 : Hid (St w0 a0 a1 w3 g s3) := h3
  have F3 : Hid (Fq g w w3) := F2.out.trans q3
  clear g3 g4 g5 g6 h3 q3 HS2 L2 F2 HG1 HG2
  have f0 := L3.free 0
  have f1 := L3.free 1
  have f2 := L3.free 2
  have c0 := L3.at (j := 0) (by omega)
  have c1 := L3.at (j := 1) (by omega)
  have c2 := L3.at (j := 2) (by omega)
  simp only [List.getElem?_cons_zero, List.getElem?_cons_succ] at c0 c1 c2
  have P : Hid (St w0 a0 a1 (((w3.setCell ⟨w.heap.size, 0, none⟩ (.int .i64 z)).setCell ⟨w.heap.size, 1, none⟩ (.int .i64 (n : Int))).setCell ⟨w.heap.size, 2, none⟩ (.int .i64 (m : Int))) g s3 ∧ Fq g w (((w3.setCell ⟨w.heap.size, 0, none⟩ (.int .i64 z)).setCell ⟨w.heap.size, 1, none⟩ (.int .i64 (n : Int))).setCell ⟨w.heap.size, 2, none⟩ (.int .i64 (m : Int)))) := ⟨((HS3.out.far hgl).far hgl).far hgl, ((F3.out.far (Nat.le_refl _) hgl _).far (Nat.le_refl _) hgl _).far (Nat.le_refl _) hgl _⟩
  have HM : Hid (Lone 50 3 (((w3.setCell ⟨w.heap.size, 0, none⟩ (.int .i64 z)).setCell ⟨w.heap.size, 1, none⟩ (.int .i64 (n : Int))).setCell ⟨w.heap.size, 2, none⟩ (.int .i64 (m : Int))) w.heap.size [.int .i64 z, .int .i64 (n : Int), .int .i64 (m : Int)]) := ((L3.set 0 _).set 1 _).set 2 _
  clear L3 HS3 F3
  go_wp2
  refine bodyPost_ret (results_cell_row Tryd.results58 _ _ w.heap.size 50 _ _ _ rfl (Lone.back HM.out) Tryd.underlying50 rfl rfl) rfl ?_
  exact ⟨z, n, m, s3, rfl, HG3.out, P.out⟩
end Go.Proofs.YteagakplhfiodaaDoor.ld

namespace Go.Proofs.YteagakplhfiodaaDoor.ld
open Go.RowKit Go.Proofs.YteagakplhfiodaaDoor.bts Go.Proofs.YteagakplhfiodaaDoor.pg Go.Proofs.YteagakplhfiodaaDoor.chk Go.Proofs.YteagakplhfiodaaDoor.sv Go.Proofs.YteagakplhfiodaaDoor.th

theorem bts_of {xs : List Int} (h : BB xs) : Bts xs := fun i => by
  by_cases hi : i < xs.length
  · have := h _ (List.getElem_mem hi)
    simpa [List.getD_eq_getElem?_getD, List.getElem?_eq_getElem hi] using this
  · simp [List.getD_eq_getElem?_getD, List.getElem?_eq_none (Nat.le_of_not_lt hi)]
theorem St.held {w0 w : World} {a0 a1 : Addr} {g : Nat} {xs : List Int} (h : St w0 a0 a1 w g (some xs)) : BB xs ∧ xs.length ≤ 1048576 := by
  obtain ⟨_, _, av, n, cv, f, _, _, hn, h5, _⟩ := h
  obtain ⟨e, _, hb, _⟩ := h5 xs rfl
  exact ⟨hb, by omega⟩
theorem take_any (w0 w : World) (a0 a1 : Addr) (g n : Nat) (s : Option (List Int)) (hn : n ≤ 9223372036854775807) (hE : Er w0 a0 a1) (h : St w0 a0 a1 w g s) :
    Calls Tryd.prog 29 #[.pointer (some ⟨g, 0, none⟩), .int .i64 (n : Int)] w fun e w' => ∃ av m cv ys s', e = .returned (.slice av m cv) ∧ m = ys.length ∧ RdV w' (.slice av m cv) ys ∧ ys.length ≤ 1048576 ∧ (s' = none → av = none) ∧ Got (s.bind (takeD n)) ys s' ∧ St w0 a0 a1 w' g s' ∧ Fq g w w' := by
  match s, h with
  | none, h =>
    refine (take_none w0 w a0 a1 g n hn (hE.st h) h).mono ?_
    rintro e w' ⟨rfl, h1, h2⟩
    exact ⟨none, 0, 0, [], none, rfl, rfl, ⟨none, 0, rfl, by simp, fun i hi => absurd hi (by simp), fun i => by simp⟩, by simp, fun _ => rfl, .inl ⟨rfl, rfl⟩, h1, h2⟩
  | some xs, h =>
    by_cases hl : n ≤ xs.length
    · obtain ⟨hb, hx⟩ := h.held
      refine (take_ok w0 w a0 a1 g n xs hl h).mono ?_
      rintro e w' ⟨⟨av, cv, rfl, hr⟩, h1, h2⟩
      have hlt : (xs.take n).length = n := by simp; omega
      refine ⟨av, n, cv, xs.take n, some (xs.drop n), rfl, hlt.symm, ⟨av, cv, by rw [hlt], by omega, hr.below h1.1, bts_of fun z hz => hb z (List.mem_of_mem_take hz)⟩, by omega, fun e => (by cases e), .inr ⟨xs.drop n, ?_, rfl⟩, h1, h2⟩
      simp only [Option.bind_some, takeD]
      rw [if_pos hl]
    · refine (take_short w0 w a0 a1 g n xs hn (by omega) (hE.st h) h).mono ?_
      rintro e w' ⟨rfl, h1, h2⟩
      refine ⟨none, 0, 0, [], none, rfl, rfl, ⟨none, 0, rfl, by simp, fun i hi => absurd hi (by simp), fun i => by simp⟩, by simp, fun _ => rfl, .inl ⟨?_, rfl⟩, h1, h2⟩
      simp only [Option.bind_some, takeD]
      rw [if_neg hl]

theorem sm_snoc : ∀ (l : List Int) (z : Int), sm (l ++ [z]) = sm l + z.toNat * 256 ^ l.length
  | [], z => by simp [sm]
  | b :: l, z => by
    simp only [List.cons_append, sm, List.length_cons, Nat.pow_succ]
    rw [sm_snoc l z, Nat.mul_add]
    have e : 256 * (z.toNat * 256 ^ l.length) = z.toNat * (256 ^ l.length * 256) := by rw [Nat.mul_comm 256, Nat.mul_assoc]
    omega
theorem or_eight {y z k : Nat} (hk : k ≤ 7) (hy : y < 256 ^ k) (hz : z ≤ 255) : bits .or .i64 (y : Int) (Go.RowKit.wrap64 ((z : Int) * 2 ^ (8 * k))) = IntKind.i64.wrap ((y + z * 256 ^ k : Nat) : Int) := by
  have hp : 2 ^ (8 * k) = 256 ^ k := by rw [Nat.pow_mul]
  have hpi : ((2 : Int) ^ (8 * k)) = ((256 ^ k : Nat) : Int) := by rw [← hp]; simp
  have hle := Nat.pow_le_pow_right (show 0 < 256 by omega) hk
  have e7 : 256 ^ 7 = 72057594037927936 := rfl
  have hm : z * 256 ^ k ≤ 255 * 256 ^ k := Nat.mul_le_mul_right _ hz
  have hc : (z : Int) * 2 ^ (8 * k) = ((z * 256 ^ k : Nat) : Int) := by rw [hpi]; simp
  rw [wr64, hc]
  show IntKind.i64.wrap ((BitVec.ofInt 64 (y : Int) ||| BitVec.ofInt 64 (IntKind.i64.wrap ((z * 256 ^ k : Nat) : Int))).toNat : Int) = _
  have h1 : (BitVec.ofInt 64 (y : Int)).toNat = y := by
    rw [BitVec.toNat_ofInt]
    omega
  have h2 : (BitVec.ofInt 64 (IntKind.i64.wrap ((z * 256 ^ k : Nat) : Int))).toNat = z * 256 ^ k := by
    rw [BitVec.toNat_ofInt, wrap64]
    split <;> omega
  rw [BitVec.toNat_or, h1, h2, Nat.or_comm, Nat.mul_comm z, ← hp, ← Nat.two_pow_add_eq_or_of_lt (by rw [hp]; exact hy)]
  congr 1
  omega
theorem takeD_next {k : Nat} {xs l r : List Int} {z : Int} (h : takeD k xs = some (l, z :: r)) : takeD (k + 1) xs = some (l ++ [z], r) := by
  obtain ⟨e, hl⟩ := takeD_inv h
  subst hl
  rw [e, show l ++ z :: r = (l ++ [z]) ++ r by simp, show l.length + 1 = (l ++ [z]).length by simp]
  exact takeD_ok _ _
theorem takeD_end {k : Nat} {xs l : List Int} (h : takeD k xs = some (l, [])) : takeD (k + 1) xs = none := by
  obtain ⟨e, hl⟩ := takeD_inv h
  subst hl
  unfold takeD
  rw [if_neg]
  rw [e]
  simp
theorem takeD_more {k : Nat} {xs : List Int} (h : takeD k xs = none) : takeD (k + 1) xs = none := by
  unfold takeD at h ⊢
  split at h
  · cases h
  · rw [if_neg (by omega)]
/-- The value of a constant's first bytes, where they are there. -/
def Acc (s : Option (List Int)) (k : Nat) (x : Int) (s' : Option (List Int)) : Prop := (s.bind (takeD k) = none ∧ s' = none) ∨ ∃ l ys, s.bind (takeD k) = some (l, ys) ∧ s' = some ys ∧ BB l ∧ x = IntKind.i64.wrap (sm l : Int)
theorem acc_next {s s1 s2 : Option (List Int)} {k : Nat} {x : Int} {z : Nat} (hk : k ≤ 7) (h : Acc s k x s1) (hz : z ≤ 255) (hG : Got (s1.bind byteD) (z : Int) s2) : Acc s (k + 1) (bits .or .i64 x (Go.RowKit.wrap64 ((z : Int) * 2 ^ (8 * k)))) s2 := by
  rcases h with ⟨h, rfl⟩ | ⟨l, ys, h, rfl, hb, rfl⟩
  · rcases hG with ⟨_, rfl⟩ | ⟨ys, e, _⟩
    · refine .inl ⟨?_, rfl⟩
      cases s with
      | none => rfl
      | some xs => exact takeD_more h
    · cases e
  · cases s with
    | none => cases h
    | some xs =>
      simp only [Option.bind_some] at h
      obtain ⟨_, hl⟩ := takeD_inv h
      match ys, hG with
      | [], hG =>
        rcases hG with ⟨_, rfl⟩ | ⟨ys, e, _⟩
        · exact .inl ⟨takeD_end h, rfl⟩
        · cases e
      | y :: r, hG =>
        rcases hG with ⟨e, _⟩ | ⟨ys, e, rfl⟩
        · cases e
        · simp only [Option.bind_some, byteD, Option.some.injEq, Prod.mk.injEq] at e
          obtain ⟨rfl, rfl⟩ := e
          refine .inr ⟨l ++ [(z : Int)], r, takeD_next h, rfl, ?_, ?_⟩
          · intro u hu
            rcases List.mem_append.1 hu with hu | hu
            · exact hb u hu
            · simp only [List.mem_cons, List.not_mem_nil, or_false] at hu
              omega
          · have h1 := sm_lt l hb
            rw [hl] at h1
            have hle := Nat.pow_le_pow_right (show 0 < 256 by omega) hk
            have e7 : 256 ^ 7 = 72057594037927936 := rfl
            rw [show IntKind.i64.wrap (sm l : Int) = (sm l : Int) by rw [wrap64, if_neg (by omega)]; omega, or_eight hk h1 hz, sm_snoc, hl, tn]
theorem acc_end {s s' : Option (List Int)} {x : Int} (h : Acc s 8 x s') : Got (s.bind eightD) x s' := by
  rcases h with ⟨h, rfl⟩ | ⟨l, ys, h, rfl, hb, rfl⟩
  · refine .inl ⟨?_, rfl⟩
    cases s with
    | none => rfl
    | some xs =>
      simp only [Option.bind_some, takeD, eightD] at h ⊢
      split at h
      · cases h
      · rename_i h8
        rw [if_neg h8]
  · refine .inr ⟨ys, ?_, rfl⟩
    cases s with
    | none => cases h
    | some xs =>
      simp only [Option.bind_some, takeD, eightD] at h ⊢
      split at h
      · rename_i h8
        simp only [Option.some.injEq, Prod.mk.injEq] at h
        rw [if_pos h8, h.1, h.2]
        rfl
      · cases h

theorem own_cell {w : World} {B R o n : Nat} {v u : Value} {us : List Value} (h : w.ownsRow B 5 1 v n us) (hR : R < B) : (w.setCell ⟨R, o, none⟩ u).ownsRow B 5 1 v n us :=
  own_far h (fun b e => Below.heap_setCell w ⟨R, o, none⟩ _ b (by have := (h.lt b e).1; show b ≠ R; omega))

set_option maxRecDepth 100000 in
set_option maxHeartbeats 1000000 in
theorem constant_any (w0 w : World) (a0 a1 : Addr) (g : Nat) (s : Option (List Int)) (hE : Er w0 a0 a1) (h : St w0 a0 a1 w g s) :
    Calls Tryd.prog 32 #[.pointer (some ⟨g, 0, none⟩)] w fun e w' => ∃ (t : Bool) (x : Int) (av : Option Addr) (m cv : Nat) (ys : List Int) (s' : Option (List Int)), e = .returned (.agg #[.bool t, .int .i64 x, .slice av m cv]) ∧ RwS w' (w.heap.size + 1) (.slice av m cv) ys ∧ Bts ys ∧ ys.length ≤ 1048576 ∧ Got (s.bind (constD num flagD)) ⟨t, x, ys⟩ s' ∧ St w0 a0 a1 w' g s' ∧ Fq g w w' := by
  have FG : Hid (∀ W s, St w0 a0 a1 W g s → Calls Tryd.prog 52 #[.pointer (some ⟨g, 0, none⟩)] W fun e w' => ∃ b s', e = .returned (.bool b) ∧ Got (s.bind flagD) b s' ∧ St w0 a0 a1 w' g s' ∧ Fq g W w') := fun W s h => flag_any w0 W a0 a1 g s hE h
  have NM : Hid (∀ W s, St w0 a0 a1 W g s → Calls Tryd.prog 51 #[.pointer (some ⟨g, 0, none⟩)] W fun e w' => ∃ (n : Nat) (s' : Option (List Int)), e = .returned (.int .i64 (n : Int)) ∧ n ≤ 9223372036854775807 ∧ Got (s.bind num) n s' ∧ St w0 a0 a1 w' g s' ∧ Fq g W w') := fun W s h => number_any w0 W a0 a1 g s hE h
  have NX : Hid (∀ W s, St w0 a0 a1 W g s → Calls Tryd.prog 54 #[.pointer (some ⟨g, 0, none⟩)] W fun e w' => ∃ z s', e = .returned (.int .u8 z) ∧ 0 ≤ z ∧ z ≤ 255 ∧ Got (s.bind byteD) z s' ∧ (s' = none → z = 0) ∧ St w0 a0 a1 w' g s' ∧ Fq g W w') := fun W s h => next_any w0 W a0 a1 g s hE h
  have TK : Hid (∀ W s (n : Nat), n ≤ 9223372036854775807 → St w0 a0 a1 W g s → Calls Tryd.prog 29 #[.pointer (some ⟨g, 0, none⟩), .int .i64 (n : Int)] W fun e w' => ∃ av m cv ys s', e = .returned (.slice av m cv) ∧ m = ys.length ∧ RdV w' (.slice av m cv) ys ∧ ys.length ≤ 1048576 ∧ (s' = none → av = none) ∧ Got (s.bind (takeD n)) ys s' ∧ St w0 a0 a1 w' g s' ∧ Fq g W w') := fun W s n hn h => take_any w0 W a0 a1 g n s hn hE h
  have hgl := h.lt
  have HS : Hid (St w0 a0 a1 (w.alloc (.cells #[.bool false, .int .i64 0, .slice none 0 0] 40)) g s) := h.keep ((Below.refl _ _).alloc (Nat.le_refl _) _)
  have L0 : Hid (Lone 40 3 (w.alloc (.cells #[.bool false, .int .i64 0, .slice none 0 0] 40)) w.heap.size [.bool false, .int .i64 0, .slice none 0 0]) := lone_new w rfl
  have F0 : Hid (Fq g w (w.alloc (.cells #[.bool false, .int .i64 0, .slice none 0 0] 40)) ∧ w.heap.size + 1 ≤ (w.alloc (.cells #[.bool false, .int .i64 0, .slice none 0 0] 40)).heap.size) := ⟨Fq.of (Nat.le_of_lt hgl) ((Below.refl _ _).alloc (Nat.le_refl _) _), by simp⟩
  clear h hE
  go_enter Tryd.func32, Tryd.ntmps32
  go_wp2_with fail
  generalize w.alloc (.cells #[.bool false, .int .i64 0, .slice none 0 0] 40) = W0 at HS L0 F0 ⊢
  refine (FG.out _ _ HS.out).mono ?_
  rintro e w1 ⟨b, s1, rfl, g1, h1, q1⟩
  have L1 : Hid (Lone 40 3 w1 w.heap.size [.bool false, .int .i64 0, .slice none 0 0]) := q1.lone L0.out (by omega)
  have HG1 : Hid (Got (s.bind flagD) b s1) := g1
  have HS1 : Hid (St w0 a0 a1 w1 g s1) := h1
  have F1 : Hid (Fq g w w1 ∧ w.heap.size + 1 ≤ w1.heap.size) := ⟨F0.out.1.trans q1, Nat.le_trans F0.out.2 q1.below.size⟩
  clear g1 h1 q1 HS L0 F0
  cases b with
  | true =>
    go_wp2_with fail
    refine (NM.out _ _ HS1.out).mono ?_
    rintro e w2 ⟨n, s2, rfl, hn, g2, h2, q2⟩
    have L2 : Hid (Lone 40 3 w2 w.heap.size [.bool false, .int .i64 0, .slice none 0 0]) := q2.lone L1.out (by omega)
    have HG2 : Hid (Got (s1.bind num) n s2) := g2
    have HS2 : Hid (St w0 a0 a1 w2 g s2) := h2
    have F2 : Hid (Fq g w w2 ∧ w.heap.size + 1 ≤ w2.heap.size) := ⟨F1.out.1.trans q2, Nat.le_trans F1.out.2 q2.below.size⟩
    clear g2 h2 q2 HS1 L1 F1
    go_wp2_with fail
    refine (TK.out _ _ n hn HS2.out).mono ?_
    rintro e w3 ⟨av, m, cv, ys, s3, rfl, hm, hr, hl, _, g3, h3, q3⟩
    have L3 : Hid (Lone 40 3 w3 w.heap.size [.bool false, .int .i64 0, .slice none 0 0]) := q3.lone L2.out (by omega)
    have g5 := got_then (e := fun (y : Nat) (zs : List Int) => (takeD y zs).map fun x : List Int × List Int => ((⟨true, 0, x.1⟩ : Cn), x.2)) HG2.out (got_map (fun t : List Int => (⟨true, 0, t⟩ : Cn)) g3)
    have g4 := got_then (e := fun (t : Bool) (zs : List Int) => if t then (num zs).bind fun y => (takeD y.1 y.2).map fun x : List Int × List Int => ((⟨true, 0, x.1⟩ : Cn), x.2) else (eightD zs).map fun y => ((⟨false, y.1, []⟩ : Cn), y.2)) HG1.out (by simpa using g5)
    have g6 : Got (s.bind (constD num flagD)) ⟨true, 0, ys⟩ s3 := g4
    have HG3 : Hid (Got (s.bind (constD num flagD)) ⟨true, 0, ys⟩ s3) := g6
    have HS3 : Hid (St w0 a0 a1 w3 g s3) := h3
    have F3 : Hid (Fq g w w3 ∧ w.heap.size + 1 ≤ w3.heap.size) := ⟨F2.out.1.trans q3, Nat.le_trans F2.out.2 q3.below.size⟩
    have CL : Hid (Calls Tryd.prog 53 #[.slice av m cv] w3 fun e w' => ∃ av cv, e = .returned (.slice av ys.length cv) ∧ w'.ownsRow w3.heap.size 5 1 (.slice av ys.length cv) ys.length (bcells ys) ∧ Below w3.heap.size w3 w') := cloneB_any _ ys w3 hr hl
    have HB : Hid (Bts ys ∧ ys.length ≤ 1048576) := by obtain ⟨_, _, _, _, _, hb⟩ := hr; exact ⟨hb, hl⟩
    clear g3 g4 g5 g6 h3 q3 HS2 L2 F2 HG1 HG2 hr hm hl
    go_wp2_with fail
    refine CL.out.mono ?_
    rintro e w4 ⟨av4, cv4, rfl, o4, b4⟩
    have hs4 := F3.out.2
    have L4 : Lone 40 3 w4 w.heap.size [.bool false, .int .i64 0, .slice none 0 0] := L3.out.below b4 (by omega)
    have F4 : Fq g w w4 := F3.out.1.grown (by omega) b4
    have S4 : St w0 a0 a1 w4 g s3 := HS3.out.keep b4
    obtain ⟨k, hk⟩ : ∃ k, k = ys.length := ⟨_, rfl⟩
    have o5 : w4.ownsRow (w.heap.size + 1) 5 1 (.slice av4 ys.length cv4) ys.length (bcells ys) := own_weaken o4 hs4
    rw [← hk] at o5 ⊢
    have HK : Hid (k = ys.length) := hk
    have f0 := L4.free 0
    have f1 := L4.free 1
    have f2 := L4.free 2
    have c0 := L4.at (j := 0) (by omega)
    have c1 := L4.at (j := 1) (by omega)
    have c2 := L4.at (j := 2) (by omega)
    simp only [List.getElem?_cons_zero, List.getElem?_cons_succ] at c0 c1 c2
    have P : Hid (RwS (((w4.setCell ⟨w.heap.size, 0, none⟩ (.bool true)).setCell ⟨w.heap.size, 1, none⟩ (.int .i64 0)).setCell ⟨w.heap.size, 2, none⟩ (.slice av4 k cv4)) (w.heap.size + 1) (.slice av4 k cv4) ys) := ⟨⟨_, _, by rw [hk]⟩, by rw [← hk]; exact own_cell (own_cell (own_cell o5 (by omega)) (by omega)) (by omega)⟩
    have P2 : Hid (St w0 a0 a1 (((w4.setCell ⟨w.heap.size, 0, none⟩ (.bool true)).setCell ⟨w.heap.size, 1, none⟩ (.int .i64 0)).setCell ⟨w.heap.size, 2, none⟩ (.slice av4 k cv4)) g s3 ∧ Fq g w (((w4.setCell ⟨w.heap.size, 0, none⟩ (.bool true)).setCell ⟨w.heap.size, 1, none⟩ (.int .i64 0)).setCell ⟨w.heap.size, 2, none⟩ (.slice av4 k cv4))) := ⟨((S4.far hgl).far hgl).far hgl, ((F4.far (Nat.le_refl _) hgl _).far (Nat.le_refl _) hgl _).far (Nat.le_refl _) hgl _⟩
    have HM : Hid (Lone 40 3 (((w4.setCell ⟨w.heap.size, 0, none⟩ (.bool true)).setCell ⟨w.heap.size, 1, none⟩ (.int .i64 0)).setCell ⟨w.heap.size, 2, none⟩ (.slice av4 k cv4)) w.heap.size [.bool true, .int .i64 0, .slice av4 k cv4]) := ((L4.set 0 _).set 1 _).set 2 _
    clear L4 S4 F4 o4 o5 b4 L3 HS3 F3 hs4 hk
    go_wp2
    refine bodyPost_ret (results_cell_row Tryd.results32 _ _ w.heap.size 40 _ _ _ rfl (Lone.back HM.out) Tryd.underlying40 rfl rfl) rfl ?_
    exact ⟨true, 0, av4, k, cv4, ys, s3, rfl, P.out, HB.out.1, HB.out.2, HG3.out, P2.out⟩
  | false =>
    go_wp2_with fail
    go_loopw [3, 13] (fun v x wr => ∃ (k : Nat) (y : Int) (s' : Option (List Int)), k ≤ 8 ∧ x = .int .i64 (k : Int) ∧ v = .int .i64 y ∧ Hid (Acc s1 k y s') ∧ Hid (Lone 40 3 wr w.heap.size [.bool false, .int .i64 0, .slice none 0 0]) ∧ Hid (St w0 a0 a1 wr g s') ∧ Hid (Fq g w wr)) (fun _ x _ => 8 - (intOf x).toNat)
    case atStart =>
      refine ⟨0, 0, s1, by omega, rfl, rfl, ?_, L1.out, HS1.out, F1.out.1⟩
      cases s1 with
      | none => exact .inl ⟨rfl, rfl⟩
      | some xs => exact .inr ⟨[], xs, by simp [takeD], rfl, fun z hz => (by cases hz), by rw [wrap64]; rfl⟩
    case round =>
      obtain ⟨k, y, s2, hk, rfl, rfl, HA, L2, HS2, F2⟩ := hrel
      by_cases hlt : k < 8
      · have hlt' : (k : Int) < 8 := by omega
        go_wp2_with fail
        refine (NX.out _ _ HS2.out).mono ?_
        rintro e w2 ⟨z, s3, rfl, z0, z1, g3, _, h3, q3⟩
        obtain ⟨zn, rfl⟩ : ∃ zn : Nat, z = (zn : Int) := ⟨z.toNat, by omega⟩
        have HA3 : Hid (Acc s1 (k + 1) (bits .or .i64 y (Go.RowKit.wrap64 ((zn : Int) * 2 ^ (8 * k)))) s3) := acc_next (by omega) HA.out (by omega) g3
        have L3 : Hid (Lone 40 3 w2 w.heap.size [.bool false, .int .i64 0, .slice none 0 0]) := q3.lone L2.out (by omega)
        have HS3 : Hid (St w0 a0 a1 w2 g s3) := h3
        have F3 : Hid (Fq g w w2) := F2.out.trans q3
        clear g3 h3 q3 HA L2 HS2 F2
        go_wp2
        exact ⟨⟨k + 1, _, s3, by omega, by go_num, rfl, HA3.out, L3.out, HS3.out, F3.out⟩, by simp [intOf]; omega⟩
      · obtain rfl : k = 8 := by omega
        have g4 := got_then (e := fun (t : Bool) (zs : List Int) => if t then (num zs).bind fun y => (takeD y.1 y.2).map fun x : List Int × List Int => ((⟨true, 0, x.1⟩ : Cn), x.2) else (eightD zs).map fun y => ((⟨false, y.1, []⟩ : Cn), y.2)) HG1.out (by simpa using got_map (fun n : Int => (⟨false, n, []⟩ : Cn)) (acc_end HA.out))
        have g6 : Got (s.bind (constD num flagD)) ⟨false, y, []⟩ s2 := g4
        have HG3 : Hid (Got (s.bind (constD num flagD)) ⟨false, y, []⟩ s2) := g6
        have L4 := L2.out
        have f0 := L4.free 0
        have f1 := L4.free 1
        have f2 := L4.free 2
        have c0 := L4.at (j := 0) (by omega)
        have c1 := L4.at (j := 1) (by omega)
        have c2 := L4.at (j := 2) (by omega)
        simp only [List.getElem?_cons_zero, List.getElem?_cons_succ] at c0 c1 c2
        have P2 : Hid (St w0 a0 a1 (((wr.setCell ⟨w.heap.size, 0, none⟩ (.bool false)).setCell ⟨w.heap.size, 1, none⟩ (.int .i64 y)).setCell ⟨w.heap.size, 2, none⟩ (.slice none 0 0)) g s2 ∧ Fq g w (((wr.setCell ⟨w.heap.size, 0, none⟩ (.bool false)).setCell ⟨w.heap.size, 1, none⟩ (.int .i64 y)).setCell ⟨w.heap.size, 2, none⟩ (.slice none 0 0))) := ⟨((HS2.out.far hgl).far hgl).far hgl, ((F2.out.far (Nat.le_refl _) hgl _).far (Nat.le_refl _) hgl _).far (Nat.le_refl _) hgl _⟩
        have HM : Hid (Lone 40 3 (((wr.setCell ⟨w.heap.size, 0, none⟩ (.bool false)).setCell ⟨w.heap.size, 1, none⟩ (.int .i64 y)).setCell ⟨w.heap.size, 2, none⟩ (.slice none 0 0)) w.heap.size [.bool false, .int .i64 y, .slice none 0 0]) := ((L4.set 0 _).set 1 _).set 2 _
        clear L4 g4 g6 L2 HS2 F2
        go_wp2
        refine bodyPost_ret (results_cell_row Tryd.results32 _ _ w.heap.size 40 _ _ _ rfl (Lone.back HM.out) Tryd.underlying40 rfl rfl) rfl ?_
        exact ⟨false, y, none, 0, 0, [], s2, rfl, ⟨⟨none, 0, rfl⟩, World.ownsRow_nil _ _ _ _⟩, fun i => by simp, by simp, HG3.out, P2.out⟩
end Go.Proofs.YteagakplhfiodaaDoor.ld
