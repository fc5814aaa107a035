import Derived.Test.YtccnjmnafkfjdaaGreatBytesLists
namespace Go.Proofs.YtccnjmnafkfjdaaGreat.scn
open Go.RowKit Go.Proofs.YtccnjmnafkfjdaaGreat.bts

/-- The value of a digit of either case, -1 for no digit. -/
def hexv (c : Int) : Int := if 48 ≤ c ∧ c ≤ 57 then c - 48 else if 97 ≤ c ∧ c ≤ 102 then c - 97 + 10 else if 65 ≤ c ∧ c ≤ 70 then c - 65 + 10 else -1
theorem hexv_bd (c : Int) : -1 ≤ hexv c ∧ hexv c ≤ 15 := by unfold hexv; split <;> (try split) <;> (try split) <;> omega
/-- The same, 16 for no digit. -/
def digv (c : Int) : Int := if hexv c < 0 then 16 else hexv c
theorem digv_bd (c : Int) : 0 ≤ digv c ∧ digv c ≤ 16 := by have := hexv_bd c; unfold digv; split <;> omega

/-- What the loop over the digits makes. -/
def sc (base : Int) (v : Int) : List Int → Option Int
  | [] => some v
  | c :: cs => if hexv c < 0 ∨ base ≤ hexv c then none else sc base (wrap64 (wrap64 (v * base) + hexv c)) cs

def res (n : Nat) : Option Int → Int × Int
  | none => (0, 2)
  | some v => if 40 < n then (0, 4) else (v, 0)

/-- The digits and the base. -/
def hx (zs : List Int) : Bool := decide (2 ≤ zs.length) && (zs.getD 0 0 == 48) && ((zs.getD 1 0 == 120) || (zs.getD 1 0 == 88))
def scan (zs : List Int) : Int × Int :=
  if hx zs then (if zs.length = 2 then (0, 2) else res zs.length (sc 16 0 (zs.drop 2)))
  else if zs.length = 0 then (0, 2) else res zs.length (sc 10 0 zs)

theorem sc_bad {base v : Int} {zs : List Int} {k : Nat} (hk : k < zs.length) (h : hexv (zs.getD k 0) < 0 ∨ base ≤ hexv (zs.getD k 0)) : sc base v (zs.drop k) = none := by
  rw [drop_cons hk, sc, if_pos h]
theorem sc_good {base v : Int} {zs : List Int} {k : Nat} (hk : k < zs.length) (h1 : ¬ hexv (zs.getD k 0) < 0) (h2 : ¬ base ≤ hexv (zs.getD k 0)) :
    sc base v (zs.drop k) = sc base (wrap64 (wrap64 (v * base) + hexv (zs.getD k 0))) (zs.drop (k + 1)) := by
  rw [drop_cons hk, sc, if_neg (by omega)]
theorem sc_end {base v : Int} {zs : List Int} {k : Nat} (hk : zs.length ≤ k) : sc base v (zs.drop k) = some v := by
  rw [List.drop_of_length_le hk]; rfl
theorem scan_hex {zs : List Int} (h : hx zs = true) (h2 : 2 < zs.length) : scan zs = res zs.length (sc 16 0 (zs.drop 2)) := by
  simp only [scan, h, if_true]; rw [if_neg (by omega)]
theorem scan_hex2 {zs : List Int} (h : hx zs = true) (h2 : zs.length = 2) : scan zs = (0, 2) := by
  simp only [scan, h, if_true]; rw [if_pos h2]
theorem scan_dec {zs : List Int} (h : hx zs = false) (h2 : 0 < zs.length) : scan zs = res zs.length (sc 10 0 zs) := by
  simp only [scan, h]; rw [if_neg (by decide), if_neg (by omega)]
theorem scan_nil {zs : List Int} (h2 : zs.length = 0) : scan zs = (0, 2) := by
  have : hx zs = false := by simp [hx, h2]
  simp only [scan, this]; rw [if_neg (by decide), if_pos h2]
/-- The two bytes '0x' read as decimal digits answer the same. -/
theorem scan_hex2_dec {zs : List Int} (h : hx zs = true) (h2 : zs.length = 2) : res 2 (sc 10 0 zs) = (0, 2) := by
  have e : sc 10 0 (zs.drop 0) = none := by
    simp only [hx, Bool.and_eq_true, Bool.or_eq_true, beq_iff_eq] at h
    obtain ⟨⟨_, h0⟩, h1⟩ := h
    rw [drop_cons (by omega), h0, sc, if_neg (by simp [hexv])]
    refine sc_bad (by omega) (.inl ?_)
    rcases h1 with h1 | h1 <;> rw [show 0 + 1 = 1 from rfl, h1] <;> simp [hexv]
  rw [List.drop_zero] at e
  rw [e]; rfl
end Go.Proofs.YtccnjmnafkfjdaaGreat.scn
