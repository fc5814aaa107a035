import Derived.Test.YtccnjmnafkfjdaaGreatScanLists
namespace Go.Proofs.YtccnjmnafkfjdaaGreat.lit
open Go.RowKit Go.Proofs.YtccnjmnafkfjdaaGreat.bts Go.Proofs.YtccnjmnafkfjdaaGreat.scn

/-- The character at place i: its byte and its length. -/
def rc (zs : List Int) (i : Nat) : Option (Int × Nat) :=
  if zs.getD i 0 = 10 then none
  else if ¬ zs.getD i 0 = 92 then some (zs.getD i 0, 1)
  else if zs.length ≤ i + 1 then none
  else if zs.getD (i + 1) 0 = 120 then
    (if zs.length ≤ i + 3 then none else if hexv (zs.getD (i + 2) 0) < 0 ∨ hexv (zs.getD (i + 3) 0) < 0 then none
      else some (hexv (zs.getD (i + 2) 0) * 16 + hexv (zs.getD (i + 3) 0), 4))
  else if zs.getD (i + 1) 0 = 110 then some (10, 2)
  else if zs.getD (i + 1) 0 = 116 then some (9, 2)
  else if zs.getD (i + 1) 0 = 92 ∨ zs.getD (i + 1) 0 = 34 ∨ zs.getD (i + 1) 0 = 39 then some (zs.getD (i + 1) 0, 2)
  else none

/-- What is read from place i on, the text so far before it, in at most so many steps. -/
def rlF (q : Int) (zs : List Int) : Nat → Nat → List Int → Option (List Int × Nat)
  | 0, _, _ => none
  | f + 1, i, out => if i < zs.length then
      (if zs.getD i 0 = q then some (out, i + 1)
      else match rc zs i with
        | none => none
        | some (c, s) => if s = 0 then none else rlF q zs f (i + s) (out ++ [c]))
    else none
theorem rlF_any {q : Int} {zs : List Int} : ∀ {f f' i : Nat} {out : List Int}, zs.length - i < f → zs.length - i < f' → rlF q zs f i out = rlF q zs f' i out := by
  intro f
  induction f with
  | zero => intro f' i out h; omega
  | succ f ih =>
    intro f' i out h h'
    obtain ⟨f', rfl⟩ : ∃ g, f' = g + 1 := ⟨f' - 1, by omega⟩
    rw [rlF, rlF]
    by_cases hi : i < zs.length
    · rw [if_pos hi, if_pos hi]
      by_cases hq : zs.getD i 0 = q
      · rw [if_pos hq, if_pos hq]
      · rw [if_neg hq, if_neg hq]
        cases rc zs i with
        | none => rfl
        | some x =>
          obtain ⟨c, s⟩ := x
          simp only
          by_cases hs : s = 0
          · rw [if_pos hs, if_pos hs]
          · rw [if_neg hs, if_neg hs]
            exact ih (by omega) (by omega)
    · rw [if_neg hi, if_neg hi]
/-- What is read from place i on, the text so far before it: the text and the place behind the closing quote. -/
def rl (q : Int) (zs : List Int) (i : Nat) (out : List Int) : Option (List Int × Nat) := rlF q zs (zs.length + 1) i out
theorem rl_eq (q : Int) (zs : List Int) (i : Nat) (out : List Int) : rl q zs i out = if i < zs.length then
    (if zs.getD i 0 = q then some (out, i + 1)
    else match rc zs i with
      | none => none
      | some (c, s) => if s = 0 then none else rl q zs (i + s) (out ++ [c]))
  else none := by
  unfold rl
  rw [rlF]
  by_cases hi : i < zs.length
  · rw [if_pos hi, if_pos hi]
    by_cases hq : zs.getD i 0 = q
    · rw [if_pos hq, if_pos hq]
    · rw [if_neg hq, if_neg hq]
      cases rc zs i with
      | none => rfl
      | some x =>
        obtain ⟨c, s⟩ := x
        simp only
        by_cases hs : s = 0
        · rw [if_pos hs, if_pos hs]
        · rw [if_neg hs, if_neg hs]
          exact rlF_any (by omega) (by omega)
  · rw [if_neg hi, if_neg hi]

theorem rl_end {q : Int} {zs : List Int} {i : Nat} {out : List Int} (h : ¬ i < zs.length) : rl q zs i out = none := by rw [rl_eq, if_neg h]
theorem rl_close {q : Int} {zs : List Int} {i : Nat} {out : List Int} (h : i < zs.length) (hq : zs.getD i 0 = q) : rl q zs i out = some (out, i + 1) := by rw [rl_eq, if_pos h, if_pos hq]
theorem rl_bad {q : Int} {zs : List Int} {i : Nat} {out : List Int} (h : i < zs.length) (hq : ¬ zs.getD i 0 = q) (hc : rc zs i = none) : rl q zs i out = none := by rw [rl_eq, if_pos h, if_neg hq, hc]
theorem rl_step {q c : Int} {zs : List Int} {i s : Nat} {out : List Int} (h : i < zs.length) (hq : ¬ zs.getD i 0 = q) (hc : rc zs i = some (c, s)) (hs : ¬ s = 0) : rl q zs i out = rl q zs (i + s) (out ++ [c]) := by
  rw [rl_eq, if_pos h, if_neg hq, hc]; simp only; rw [if_neg hs]

theorem rc_lf {zs : List Int} {i : Nat} (h : zs.getD i 0 = 10) : rc zs i = none := by rw [rc, if_pos h]
theorem rc_self {zs : List Int} {i : Nat} {z : Int} (e : zs.getD i 0 = z) (h : ¬ z = 10) (h2 : ¬ z = 92) : rc zs i = some (z, 1) := by subst e; rw [rc, if_neg h, if_pos h2]
theorem rc_short {zs : List Int} {i : Nat} (h : zs.getD i 0 = 92) (h2 : zs.length ≤ i + 1) : rc zs i = none := by rw [rc, if_neg (by omega), if_neg (by omega), if_pos h2]
theorem rc_hshort {zs : List Int} {i : Nat} (h : zs.getD i 0 = 92) (h2 : ¬ zs.length ≤ i + 1) (h3 : zs.getD (i + 1) 0 = 120) (h4 : zs.length ≤ i + 3) : rc zs i = none := by
  rw [rc, if_neg (by omega), if_neg (by omega), if_neg h2, if_pos h3, if_pos h4]
theorem rc_hbad {zs : List Int} {i : Nat} (h : zs.getD i 0 = 92) (h2 : ¬ zs.length ≤ i + 1) (h3 : zs.getD (i + 1) 0 = 120) (h4 : ¬ zs.length ≤ i + 3) (h5 : hexv (zs.getD (i + 2) 0) < 0 ∨ hexv (zs.getD (i + 3) 0) < 0) : rc zs i = none := by
  rw [rc, if_neg (by omega), if_neg (by omega), if_neg h2, if_pos h3, if_neg h4, if_pos h5]
theorem rc_hex {zs : List Int} {i : Nat} {a b : Int} (h : zs.getD i 0 = 92) (h2 : ¬ zs.length ≤ i + 1) (h3 : zs.getD (i + 1) 0 = 120) (h4 : ¬ zs.length ≤ i + 3) (ea : zs.getD (i + 2) 0 = a) (eb : zs.getD (i + 3) 0 = b) (h5 : ¬ hexv a < 0) (h6 : ¬ hexv b < 0) :
    rc zs i = some (hexv a * 16 + hexv b, 4) := by
  subst ea; subst eb
  rw [rc, if_neg (by omega), if_neg (by omega), if_neg h2, if_pos h3, if_neg h4, if_neg (by omega)]
theorem rc_n {zs : List Int} {i : Nat} (h : zs.getD i 0 = 92) (h2 : ¬ zs.length ≤ i + 1) (h3 : zs.getD (i + 1) 0 = 110) : rc zs i = some (10, 2) := by
  rw [rc, if_neg (by omega), if_neg (by omega), if_neg h2, if_neg (by omega), if_pos h3]
theorem rc_t {zs : List Int} {i : Nat} (h : zs.getD i 0 = 92) (h2 : ¬ zs.length ≤ i + 1) (h3 : zs.getD (i + 1) 0 = 116) : rc zs i = some (9, 2) := by
  rw [rc, if_neg (by omega), if_neg (by omega), if_neg h2, if_neg (by omega), if_neg (by omega), if_pos h3]
theorem rc_esc {zs : List Int} {i : Nat} {e : Int} (h : zs.getD i 0 = 92) (h2 : ¬ zs.length ≤ i + 1) (he : zs.getD (i + 1) 0 = e) (h3 : e = 92 ∨ e = 34 ∨ e = 39) : rc zs i = some (e, 2) := by
  subst he
  rw [rc, if_neg (by omega), if_neg (by omega), if_neg h2, if_neg (by omega), if_neg (by omega), if_neg (by omega), if_pos h3]
theorem rc_none {zs : List Int} {i : Nat} {e : Int} (h : zs.getD i 0 = 92) (h2 : ¬ zs.length ≤ i + 1) (he : zs.getD (i + 1) 0 = e) (h3 : ¬ e = 120) (h4 : ¬ e = 110) (h5 : ¬ e = 116) (h6 : ¬ e = 92) (h7 : ¬ e = 34) (h8 : ¬ e = 39) : rc zs i = none := by
  subst he
  rw [rc, if_neg (by omega), if_neg (by omega), if_neg h2, if_neg (by omega), if_neg (by omega), if_neg (by omega), if_neg (by omega)]

/-- A character that is read is a byte, and lies inside. -/
theorem rc_fits {zs : List Int} (hb : Bts zs) {i s : Nat} {c : Int} (hi : i < zs.length) (h : rc zs i = some (c, s)) : 0 ≤ c ∧ c ≤ 255 ∧ 1 ≤ s ∧ i + s ≤ zs.length := by
  have b0 := hb i
  have b1 := hb (i + 1)
  have x2 := hexv_bd (zs.getD (i + 2) 0)
  have x3 := hexv_bd (zs.getD (i + 3) 0)
  unfold rc at h
  (repeat' split at h) <;> simp only [Option.some.injEq, Prod.mk.injEq, reduceCtorEq] at h <;> omega

/-- The literal at a place: the text and the place behind it. -/
def litAt (zs : List Int) (k : Nat) : Option (List Int × Nat) :=
  if k < zs.length ∧ (zs.getD k 0 = 34 ∨ zs.getD k 0 = 39) then rl (zs.getD k 0) zs (k + 1) [] else none
/-- The text that the whole list stands for. -/
def unq (zs : List Int) : Option (List Int) :=
  match litAt zs 0 with
  | none => none
  | some (t, n) => if n = zs.length then some t else none
def unqText (zs : List Int) : List Int := (unq zs).getD []
def unqCode (zs : List Int) : Int := if (unq zs).isSome then 0 else 2

theorem rl_fits {q : Int} {zs : List Int} (hb : Bts zs) : ∀ (k i : Nat) (out t : List Int) (n : Nat), zs.length - i ≤ k → rl q zs i out = some (t, n) → out.length ≤ i → t.length ≤ n ∧ n ≤ zs.length ∧ i < n := by
  intro k
  induction k with
  | zero =>
    intro i out t n hk h ho
    rw [rl_end (by omega)] at h; cases h
  | succ k ih =>
    intro i out t n hk h ho
    by_cases hi : i < zs.length
    · by_cases hq : zs.getD i 0 = q
      · rw [rl_close hi hq] at h
        simp only [Option.some.injEq, Prod.mk.injEq] at h
        obtain ⟨rfl, rfl⟩ := h
        omega
      · cases hc : rc zs i with
        | none => rw [rl_bad hi hq hc] at h; cases h
        | some p =>
          obtain ⟨c, s⟩ := p
          have f := rc_fits hb hi hc
          rw [rl_step hi hq hc (by omega)] at h
          have := ih (i + s) (out ++ [c]) t n (by omega) h (by simp; omega)
          omega
    · rw [rl_end hi] at h; cases h
end Go.Proofs.YtccnjmnafkfjdaaGreat.lit
