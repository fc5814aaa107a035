import Derived.Laws.BytesArg
import Derived.Test.YtepbddfpdlapbaaMBytesMore
namespace Go.Proofs.Ytepbddfpdlapbaa.scn
open Go.RowKit Go.Proofs.Ytepbddfpdlapbaa.bts
def hexv (c : Int) : Int := if 48 ≤ c ∧ c ≤ 57 then c - 48 else if 97 ≤ c ∧ c ≤ 102 then c - 97 + 10 else if 65 ≤ c ∧ c ≤ 70 then c - 65 + 10 else -1
theorem hexv_bd (c : Int) : -1 ≤ hexv c ∧ hexv c ≤ 15 := by unfold hexv; split <;> (try split) <;> (try split) <;> omega
def digv (c : Int) : Int := if hexv c < 0 then 16 else hexv c
theorem digv_bd (c : Int) : 0 ≤ digv c ∧ digv c ≤ 16 := by have := hexv_bd c; unfold digv; split <;> omega
def sc (base : Int) (v : Int) : List Int → Option Int
  | [] => some v
  | c :: cs => if hexv c < 0 ∨ base ≤ hexv c then none else sc base (wrap64 (wrap64 (v * base) + hexv c)) cs
def res (n : Nat) : Option Int → Int × Int
  | none => (0, 2)
  | some v => if 40 < n then (0, 4) else (v, 0)
def hx (zs : List Int) : Bool := decide (2 ≤ zs.length) && (zs.getD 0 0 == 48) && ((zs.getD 1 0 == 120) || (zs.getD 1 0 == 88))
def scan (zs : List Int) : Int × Int :=
  if hx zs then (if zs.length = 2 then (0, 2) else res zs.length (sc 16 0 (zs.drop 2)))
  else if zs.length = 0 then (0, 2) else res zs.length (sc 10 0 zs)
theorem sc_bad {base v : Int} {zs : List Int} {k : Nat} (hk : k < zs.length) (h : hexv (zs.getD k 0) < 0 ∨ base ≤ hexv (zs.getD k 0)) : sc base v (zs.drop k) = none := by
  rw [drop_cons hk, sc, if_pos h]
theorem sc_good {base v : Int} {zs : List Int} {k : Nat} (hk : k < zs.length) (h1 : ¬ hexv (zs.getD k 0) < 0) (h2 : ¬ base ≤ hexv (zs.getD k 0)) :
    sc base v (zs.drop k) = sc base (wrap64 (wrap64 (v * base) + hexv (zs.getD k 0))) (zs.drop (k + 1)) := by
  rw [drop_cons hk, sc, if_neg (by omega)]
theorem sc_end {base v : Int} {zs : List Int} {k : Nat} (hk : zs.length ≤ k) : sc base v (zs.drop k) = some v := by
  rw [List.drop_of_length_le hk]; rfl
theorem scan_hex {zs : List Int} (h : hx zs = true) (h2 : 2 < zs.length) : scan zs = res zs.length (sc 16 0 (zs.drop 2)) := by
  simp only [scan, h, if_true]; rw [if_neg (by omega)]
theorem scan_hex2 {zs : List Int} (h : hx zs = true) (h2 : zs.length = 2) : scan zs = (0, 2) := by
  simp only [scan, h, if_true]; rw [if_pos h2]
theorem scan_dec {zs : List Int} (h : hx zs = false) (h2 : 0 < zs.length) : scan zs = res zs.length (sc 10 0 zs) := by
  simp only [scan, h]; rw [if_neg (by decide), if_neg (by omega)]
theorem scan_nil {zs : List Int} (h2 : zs.length = 0) : scan zs = (0, 2) := by
  have : hx zs = false := by simp [hx, h2]
  simp only [scan, this]; rw [if_neg (by decide), if_pos h2]
theorem scan_hex2_dec {zs : List Int} (h : hx zs = true) (h2 : zs.length = 2) : res 2 (sc 10 0 zs) = (0, 2) := by
  have e : sc 10 0 (zs.drop 0) = none := by
    simp only [hx, Bool.and_eq_true, Bool.or_eq_true, beq_iff_eq] at h
    obtain ⟨⟨_, h0⟩, h1⟩ := h
    rw [drop_cons (by omega), h0, sc, if_neg (by simp [hexv])]
    refine sc_bad (by omega) (.inl ?_)
    rcases h1 with h1 | h1 <;> rw [show 0 + 1 = 1 from rfl, h1] <;> simp [hexv]
  rw [List.drop_zero] at e
  rw [e]; rfl
end Go.Proofs.Ytepbddfpdlapbaa.scn
namespace Go.Proofs.Ytepbddfpdlapbaa.lit
open Go.RowKit Go.Proofs.Ytepbddfpdlapbaa.bts Go.Proofs.Ytepbddfpdlapbaa.scn
def rc (zs : List Int) (i : Nat) : Option (Int × Nat) :=
  if zs.getD i 0 = 10 then none
  else if ¬ zs.getD i 0 = 92 then some (zs.getD i 0, 1)
  else if zs.length ≤ i + 1 then none
  else if zs.getD (i + 1) 0 = 120 then
    (if zs.length ≤ i + 3 then none else if hexv (zs.getD (i + 2) 0) < 0 ∨ hexv (zs.getD (i + 3) 0) < 0 then none
      else some (hexv (zs.getD (i + 2) 0) * 16 + hexv (zs.getD (i + 3) 0), 4))
  else if zs.getD (i + 1) 0 = 110 then some (10, 2)
  else if zs.getD (i + 1) 0 = 116 then some (9, 2)
  else if zs.getD (i + 1) 0 = 92 ∨ zs.getD (i + 1) 0 = 34 ∨ zs.getD (i + 1) 0 = 39 then some (zs.getD (i + 1) 0, 2)
  else none
def rlF (q : Int) (zs : List Int) : Nat → Nat → List Int → Option (List Int × Nat)
  | 0, _, _ => none
  | f + 1, i, out => if i < zs.length then
      (if zs.getD i 0 = q then some (out, i + 1)
      else match rc zs i with
        | none => none
        | some (c, s) => if s = 0 then none else rlF q zs f (i + s) (out ++ [c]))
    else none
theorem rlF_any {q : Int} {zs : List Int} : ∀ {f f' i : Nat} {out : List Int}, zs.length - i < f → zs.length - i < f' → rlF q zs f i out = rlF q zs f' i out := by
  intro f
  induction f with
  | zero => intro f' i out h; omega
  | succ f ih =>
    intro f' i out h h'
    obtain ⟨f', rfl⟩ : ∃ g, f' = g + 1 := ⟨f' - 1, by omega⟩
    rw [rlF, rlF]
    by_cases hi : i < zs.length
    · rw [if_pos hi, if_pos hi]
      by_cases hq : zs.getD i 0 = q
      · rw [if_pos hq, if_pos hq]
      · rw [if_neg hq, if_neg hq]
        cases rc zs i with
        | none => rfl
        | some x =>
          obtain ⟨c, s⟩ := x
          simp only
          by_cases hs : s = 0
          · rw [if_pos hs, if_pos hs]
          · rw [if_neg hs, if_neg hs]
            exact ih (by omega) (by omega)
    · rw [if_neg hi, if_neg hi]
def rl (q : Int) (zs : List Int) (i : Nat) (out : List Int) : Option (List Int × Nat) := rlF q zs (zs.length + 1) i out
theorem rl_eq (q : Int) (zs : List Int) (i : Nat) (out : List Int) : rl q zs i out = if i < zs.length then
    (if zs.getD i 0 = q then some (out, i + 1)
    else match rc zs i with
      | none => none
      | some (c, s) => if s = 0 then none else rl q zs (i + s) (out ++ [c]))
  else none := by
  unfold rl
  rw [rlF]
  by_cases hi : i < zs.length
  · rw [if_pos hi, if_pos hi]
    by_cases hq : zs.getD i 0 = q
    · rw [if_pos hq, if_pos hq]
    · rw [if_neg hq, if_neg hq]
      cases rc zs i with
      | none => rfl
      | some x =>
        obtain ⟨c, s⟩ := x
        simp only
        by_cases hs : s = 0
        · rw [if_pos hs, if_pos hs]
        · rw [if_neg hs, if_neg hs]
          exact rlF_any (by omega) (by omega)
  · rw [if_neg hi, if_neg hi]
theorem rl_end {q : Int} {zs : List Int} {i : Nat} {out : List Int} (h : ¬ i < zs.length) : rl q zs i out = none := by rw [rl_eq, if_neg h]
theorem rl_close {q : Int} {zs : List Int} {i : Nat} {out : List Int} (h : i < zs.length) (hq : zs.getD i 0 = q) : rl q zs i out = some (out, i + 1) := by rw [rl_eq, if_pos h, if_pos hq]
theorem rl_bad {q : Int} {zs : List Int} {i : Nat} {out : List Int} (h : i < zs.length) (hq : ¬ zs.getD i 0 = q) (hc : rc zs i = none) : rl q zs i out = none := by rw [rl_eq, if_pos h, if_neg hq, hc]
theorem rl_step {q c : Int} {zs : List Int} {i s : Nat} {out : List Int} (h : i < zs.length) (hq : ¬ zs.getD i 0 = q) (hc : rc zs i = some (c, s)) (hs : ¬ s = 0) : rl q zs i out = rl q zs (i + s) (out ++ [c]) := by
  rw [rl_eq, if_pos h, if_neg hq, hc]; simp only; rw [if_neg hs]
theorem rc_lf {zs : List Int} {i : Nat} (h : zs.getD i 0 = 10) : rc zs i = none := by rw [rc, if_pos h]
theorem rc_self {zs : List Int} {i : Nat} {z : Int} (e : zs.getD i 0 = z) (h : ¬ z = 10) (h2 : ¬ z = 92) : rc zs i = some (z, 1) := by subst e; rw [rc, if_neg h, if_pos h2]
theorem rc_short {zs : List Int} {i : Nat} (h : zs.getD i 0 = 92) (h2 : zs.length ≤ i + 1) : rc zs i = none := by rw [rc, if_neg (by omega), if_neg (by omega), if_pos h2]
theorem rc_hshort {zs : List Int} {i : Nat} (h : zs.getD i 0 = 92) (h2 : ¬ zs.length ≤ i + 1) (h3 : zs.getD (i + 1) 0 = 120) (h4 : zs.length ≤ i + 3) : rc zs i = none := by
  rw [rc, if_neg (by omega), if_neg (by omega), if_neg h2, if_pos h3, if_pos h4]
theorem rc_hbad {zs : List Int} {i : Nat} (h : zs.getD i 0 = 92) (h2 : ¬ zs.length ≤ i + 1) (h3 : zs.getD (i + 1) 0 = 120) (h4 : ¬ zs.length ≤ i + 3) (h5 : hexv (zs.getD (i + 2) 0) < 0 ∨ hexv (zs.getD (i + 3) 0) < 0) : rc zs i = none := by
  rw [rc, if_neg (by omega), if_neg (by omega), if_neg h2, if_pos h3, if_neg h4, if_pos h5]
theorem rc_hex {zs : List Int} {i : Nat} {a b : Int} (h : zs.getD i 0 = 92) (h2 : ¬ zs.length ≤ i + 1) (h3 : zs.getD (i + 1) 0 = 120) (h4 : ¬ zs.length ≤ i + 3) (ea : zs.getD (i + 2) 0 = a) (eb : zs.getD (i + 3) 0 = b) (h5 : ¬ hexv a < 0) (h6 : ¬ hexv b < 0) :
    rc zs i = some (hexv a * 16 + hexv b, 4) := by
  subst ea; subst eb
  rw [rc, if_neg (by omega), if_neg (by omega), if_neg h2, if_pos h3, if_neg h4, if_neg (by omega)]
theorem rc_n {zs : List Int} {i : Nat} (h : zs.getD i 0 = 92) (h2 : ¬ zs.length ≤ i + 1) (h3 : zs.getD (i + 1) 0 = 110) : rc zs i = some (10, 2) := by
  rw [rc, if_neg (by omega), if_neg (by omega), if_neg h2, if_neg (by omega), if_pos h3]
theorem rc_t {zs : List Int} {i : Nat} (h : zs.getD i 0 = 92) (h2 : ¬ zs.length ≤ i + 1) (h3 : zs.getD (i + 1) 0 = 116) : rc zs i = some (9, 2) := by
  rw [rc, if_neg (by omega), if_neg (by omega), if_neg h2, if_neg (by omega), if_neg (by omega), if_pos h3]
theorem rc_esc {zs : List Int} {i : Nat} {e : Int} (h : zs.getD i 0 = 92) (h2 : ¬ zs.length ≤ i + 1) (he : zs.getD (i + 1) 0 = e) (h3 : e = 92 ∨ e = 34 ∨ e = 39) : rc zs i = some (e, 2) := by
  subst he
  rw [rc, if_neg (by omega), if_neg (by omega), if_neg h2, if_neg (by omega), if_neg (by omega), if_neg (by omega), if_pos h3]
theorem rc_none {zs : List Int} {i : Nat} {e : Int} (h : zs.getD i 0 = 92) (h2 : ¬ zs.length ≤ i + 1) (he : zs.getD (i + 1) 0 = e) (h3 : ¬ e = 120) (h4 : ¬ e = 110) (h5 : ¬ e = 116) (h6 : ¬ e = 92) (h7 : ¬ e = 34) (h8 : ¬ e = 39) : rc zs i = none := by
  subst he
  rw [rc, if_neg (by omega), if_neg (by omega), if_neg h2, if_neg (by omega), if_neg (by omega), if_neg (by omega), if_neg (by omega)]
theorem rc_fits {zs : List Int} (hb : Bts zs) {i s : Nat} {c : Int} (hi : i < zs.length) (h : rc zs i = some (c, s)) : 0 ≤ c ∧ c ≤ 255 ∧ 1 ≤ s ∧ i + s ≤ zs.length := by
  have b0 := hb i
  have b1 := hb (i + 1)
  have x2 := hexv_bd (zs.getD (i + 2) 0)
  have x3 := hexv_bd (zs.getD (i + 3) 0)
  unfold rc at h
  (repeat' split at h) <;> simp only [Option.some.injEq, Prod.mk.injEq, reduceCtorEq] at h <;> omega
def litAt (zs : List Int) (k : Nat) : Option (List Int × Nat) :=
  if k < zs.length ∧ (zs.getD k 0 = 34 ∨ zs.getD k 0 = 39) then rl (zs.getD k 0) zs (k + 1) [] else none
theorem rl_fits {q : Int} {zs : List Int} (hb : Bts zs) : ∀ (k i : Nat) (out t : List Int) (n : Nat), zs.length - i ≤ k → rl q zs i out = some (t, n) → out.length ≤ i → t.length ≤ n ∧ n ≤ zs.length ∧ i < n := by
  intro k
  induction k with
  | zero =>
    intro i out t n hk h ho
    rw [rl_end (by omega)] at h; cases h
  | succ k ih =>
    intro i out t n hk h ho
    by_cases hi : i < zs.length
    · by_cases hq : zs.getD i 0 = q
      · rw [rl_close hi hq] at h
        simp only [Option.some.injEq, Prod.mk.injEq] at h
        obtain ⟨rfl, rfl⟩ := h
        omega
      · cases hc : rc zs i with
        | none => rw [rl_bad hi hq hc] at h; cases h
        | some p =>
          obtain ⟨c, s⟩ := p
          have f := rc_fits hb hi hc
          rw [rl_step hi hq hc (by omega)] at h
          have := ih (i + s) (out ++ [c]) t n (by omega) h (by simp; omega)
          omega
    · rw [rl_end hi] at h; cases h
end Go.Proofs.Ytepbddfpdlapbaa.lit
namespace Go.Proofs.Ytepbddfpdlapbaa.lex
open Go.RowKit Go.Proofs.Ytepbddfpdlapbaa.bts Go.Proofs.Ytepbddfpdlapbaa.scn Go.Proofs.Ytepbddfpdlapbaa.lit
def letter (c : Int) : Bool := (decide (97 ≤ c) && decide (c ≤ 122)) || (decide (65 ≤ c) && decide (c ≤ 90)) || (c == 95)
def digit (c : Int) : Bool := decide (48 ≤ c) && decide (c ≤ 57)
def alnum (c : Int) : Bool := letter c || digit c
def span (p : Int → Bool) (zs : List Int) (k : Nat) : Nat := ((zs.drop k).takeWhile p).length
theorem span_step {p : Int → Bool} {zs : List Int} {k : Nat} (h : k < zs.length) (hp : p (zs.getD k 0) = true) : span p zs k = span p zs (k + 1) + 1 := by
  unfold span; rw [drop_cons h, List.takeWhile_cons, if_pos hp, List.length_cons]
theorem span_stop {p : Int → Bool} {zs : List Int} {k : Nat} (hp : p (zs.getD k 0) = false) : span p zs k = 0 := by
  by_cases h : k < zs.length
  · unfold span; rw [drop_cons h, List.takeWhile_cons, if_neg (by rw [hp]; decide)]; rfl
  · unfold span; rw [List.drop_of_length_le (by omega)]; rfl
theorem span_end {p : Int → Bool} {zs : List Int} {k : Nat} (h : zs.length ≤ k) : span p zs k = 0 := by
  unfold span; rw [List.drop_of_length_le h]; rfl
theorem span_le (p : Int → Bool) (zs : List Int) (k : Nat) : span p zs k ≤ zs.length - k := by
  unfold span
  have := (List.takeWhile_sublist p (l := zs.drop k)).length_le
  rwa [List.length_drop] at this
def words : List ByteArray := [{ data := #[97, 110, 100] }, { data := #[98, 114, 101, 97, 107] }, { data := #[100, 111] }, { data := #[101, 108, 115, 101] }, { data := #[101, 108, 115, 101, 105, 102] }, { data := #[101, 110, 100] }, { data := #[102, 97, 108, 115, 101] }, { data := #[102, 111, 114] }, { data := #[102, 117, 110, 99, 116, 105, 111, 110] }, { data := #[105, 102] }, { data := #[108, 111, 99, 97, 108] }, { data := #[110, 105, 108] }, { data := #[110, 111, 116] }, { data := #[111, 114] }, { data := #[114, 101, 112, 101, 97, 116] }, { data := #[114, 101, 116, 117, 114, 110] }, { data := #[116, 104, 101, 110] }, { data := #[116, 114, 117, 101] }, { data := #[117, 110, 116, 105, 108] }, { data := #[119, 104, 105, 108, 101] }]
def signs : List ByteArray := [{ data := #[61, 61] }, { data := #[126, 61] }, { data := #[60, 61] }, { data := #[62, 61] }, { data := #[47, 47] }, { data := #[46, 46] }, { data := #[43] }, { data := #[45] }, { data := #[42] }, { data := #[37] }, { data := #[60] }, { data := #[62] }, { data := #[61] }, { data := #[40] }, { data := #[41] }, { data := #[123] }, { data := #[125] }, { data := #[91] }, { data := #[93] }, { data := #[59] }, { data := #[44] }, { data := #[46] }]
def isIn (l : List ByteArray) (s : ByteArray) : Bool := l.any fun x => x.toList == s.toList
theorem isIn_step {l : List ByteArray} {s : ByteArray} {k : Nat} (h : k < l.length) (hne : ((l.getD k ByteArray.empty).toList == s.toList) = false) : isIn (l.drop k) s = isIn (l.drop (k + 1)) s := by
  rw [List.drop_eq_getElem_cons h]
  have e : l.getD k ByteArray.empty = l[k] := by simp [List.getD_eq_getElem?_getD, List.getElem?_eq_getElem h]
  rw [e] at hne
  simp only [isIn, List.any_cons, hne, Bool.false_or]
theorem isIn_hit {l : List ByteArray} {s : ByteArray} {k : Nat} (h : k < l.length) (he : ((l.getD k ByteArray.empty).toList == s.toList) = true) : isIn (l.drop k) s = true := by
  rw [List.drop_eq_getElem_cons h]
  have e : l.getD k ByteArray.empty = l[k] := by simp [List.getD_eq_getElem?_getD, List.getElem?_eq_getElem h]
  rw [e] at he
  simp only [isIn, List.any_cons, he, Bool.true_or]
def part (zs : List Int) (k n : Nat) : List Int := (zs.drop k).take n
theorem part_len {zs : List Int} {k n : Nat} (h : k + n ≤ zs.length) : (part zs k n).length = n := by unfold part; rw [List.length_take, List.length_drop]; omega
theorem part_getD {zs : List Int} {k n i : Nat} (hi : i < n) : (part zs k n).getD i 0 = zs.getD (k + i) 0 := by
  simp [part, List.getD_eq_getElem?_getD, List.getElem?_drop, hi]
theorem part_bts {zs : List Int} (hb : Bts zs) (k n : Nat) : Bts (part zs k n) := by
  intro i
  by_cases hi : i < n
  · rw [part_getD hi]; exact hb _
  · have : (part zs k n).getD i 0 = 0 := by
      rw [List.getD_eq_getElem?_getD, List.getElem?_eq_none (by unfold part; rw [List.length_take]; omega)]; rfl
    rw [this]; omega
def stands (zs : List Int) (k : Nat) (s : ByteArray) : Bool := decide (k + s.size ≤ zs.length) && ((strOfNums (part zs k s.size)).toList == s.toList)
def signLen (zs : List Int) (k : Nat) : List ByteArray → Option Nat
  | [] => none
  | s :: r => if stands zs k s then some s.size else signLen zs k r
def ofLit (k : Nat) : Option (List Int × Nat) → Int × Nat × Int
  | none => (0, 0, 2)
  | some (_, e) => (3, e - k, 0)
def ofSign : Option Nat → Int × Nat × Int
  | none => (0, 0, 2)
  | some n => (5, n, 0)
def tokK (zs : List Int) (k : Nat) : Int × Nat × Int :=
  if letter (zs.getD k 0) then (if isIn words (strOfNums (part zs k (span alnum zs k))) then (4, span alnum zs k, 0) else (1, span alnum zs k, 0))
  else if digit (zs.getD k 0) then (2, span alnum zs k, (scan (part zs k (span alnum zs k))).2)
  else if zs.getD k 0 = 34 ∨ zs.getD k 0 = 39 then ofLit k (litAt zs k)
  else ofSign (signLen zs k signs)
def blank (c : Int) : Bool := (c == 32) || (c == 9) || (c == 13) || (c == 10)
def notLf (c : Int) : Bool := c != 10
def lxF (zs : List Int) : Nat → Nat → List (Int × Nat × Nat) → List (Int × Nat × Nat) × Int × Int
  | 0, _, out => (out, 0, 0)
  | f + 1, k, out => if k < zs.length then
      (if blank (zs.getD k 0) then lxF zs f (k + 1) out
      else if zs.getD k 0 = 45 ∧ k + 1 < zs.length ∧ zs.getD (k + 1) 0 = 45 then
        (if 0 < span notLf zs k then lxF zs f (k + span notLf zs k) out else (out, 0, 0))
      else if (tokK zs k).2.2 = 0 then
        (if 0 < (tokK zs k).2.1 then lxF zs f (k + (tokK zs k).2.1) (out ++ [((tokK zs k).1, k, (tokK zs k).2.1)]) else (out, 0, 0))
      else ([], (tokK zs k).2.2, (k : Int)))
    else (out, 0, 0)
theorem lxF_any {zs : List Int} : ∀ {f f' k : Nat} {out : List (Int × Nat × Nat)}, zs.length - k < f → zs.length - k < f' → lxF zs f k out = lxF zs f' k out := by
  intro f
  induction f with
  | zero => intro f' k out h; omega
  | succ f ih =>
    intro f' k out h h'
    obtain ⟨f', rfl⟩ : ∃ g, f' = g + 1 := ⟨f' - 1, by omega⟩
    rw [lxF, lxF]
    by_cases hi : k < zs.length
    · rw [if_pos hi, if_pos hi, ih (f' := f') (k := k + 1) (by omega) (by omega)]
      by_cases h1 : 0 < span notLf zs k
      · rw [if_pos h1, if_pos h1, ih (f' := f') (k := k + span notLf zs k) (by omega) (by omega)]
        by_cases h2 : 0 < (tokK zs k).2.1
        · rw [if_pos h2, if_pos h2, ih (f' := f') (k := k + (tokK zs k).2.1) (by omega) (by omega)]
        · rw [if_neg h2, if_neg h2]
      · rw [if_neg h1, if_neg h1]
        by_cases h2 : 0 < (tokK zs k).2.1
        · rw [if_pos h2, if_pos h2, ih (f' := f') (k := k + (tokK zs k).2.1) (by omega) (by omega)]
        · rw [if_neg h2, if_neg h2]
    · rw [if_neg hi, if_neg hi]
def lx (zs : List Int) (k : Nat) (out : List (Int × Nat × Nat)) : List (Int × Nat × Nat) × Int × Int := lxF zs (zs.length + 1) k out
theorem lx_eq (zs : List Int) (k : Nat) (out : List (Int × Nat × Nat)) : lx zs k out = if k < zs.length then
    (if blank (zs.getD k 0) then lx zs (k + 1) out
    else if zs.getD k 0 = 45 ∧ k + 1 < zs.length ∧ zs.getD (k + 1) 0 = 45 then
      (if 0 < span notLf zs k then lx zs (k + span notLf zs k) out else (out, 0, 0))
    else if (tokK zs k).2.2 = 0 then
      (if 0 < (tokK zs k).2.1 then lx zs (k + (tokK zs k).2.1) (out ++ [((tokK zs k).1, k, (tokK zs k).2.1)]) else (out, 0, 0))
    else ([], (tokK zs k).2.2, (k : Int)))
  else (out, 0, 0) := by
  unfold lx
  rw [lxF]
  by_cases hi : k < zs.length
  · rw [if_pos hi, if_pos hi, lxF_any (f := zs.length) (f' := zs.length + 1) (k := k + 1) (by omega) (by omega)]
    by_cases h1 : 0 < span notLf zs k
    · rw [if_pos h1, if_pos h1, lxF_any (f := zs.length) (f' := zs.length + 1) (k := k + span notLf zs k) (by omega) (by omega)]
      by_cases h2 : 0 < (tokK zs k).2.1
      · rw [if_pos h2, if_pos h2, lxF_any (f := zs.length) (f' := zs.length + 1) (k := k + (tokK zs k).2.1) (by omega) (by omega)]
      · rw [if_neg h2, if_neg h2]
    · rw [if_neg h1, if_neg h1]
      by_cases h2 : 0 < (tokK zs k).2.1
      · rw [if_pos h2, if_pos h2, lxF_any (f := zs.length) (f' := zs.length + 1) (k := k + (tokK zs k).2.1) (by omega) (by omega)]
      · rw [if_neg h2, if_neg h2]
  · rw [if_neg hi, if_neg hi]
def lexR (zs : List Int) : List (Int × Nat × Nat) × Int × Int := if 6000 < zs.length then ([], 4, 6000) else lx zs 0 []
end Go.Proofs.Ytepbddfpdlapbaa.lex
