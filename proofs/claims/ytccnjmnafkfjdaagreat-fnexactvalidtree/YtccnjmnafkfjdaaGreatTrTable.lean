import Derived.Test.YtccnjmnafkfjdaaGreatTrLists
namespace Go.Proofs.YtccnjmnafkfjdaaGreat.vt
open Go.RowKit Go.Proofs.YtccnjmnafkfjdaaGreat.bts Go.Proofs.YtccnjmnafkfjdaaGreat.nod Go.Proofs.YtccnjmnafkfjdaaGreat.lex

/-- What the given table asks of a node and the kinds of its children. -/
def TableOk (kd nn : Int) (tx : List Int) (nms : List (List Int)) (ks : List Int) : Prop :=
  fieldsB kd nn tx nms = true ∧ (((shape kd nn (ks.length : Int)).size : Int) = (ks.length : Int) ∧ ((shape kd nn (ks.length : Int)).toList == [63]) = false ∧ ∀ k, k < ks.length → fits (letAt (shape kd nn (ks.length : Int)) k) (ks.getD k 0) = true) ∧ (kd = 0 → ∀ k, k + 1 < ks.length → ¬ (ks.getD k 0 = 9 ∨ ks.getD k 0 = 8))
theorem bad63 {ks : List Int} : ¬ (((({ data := #[63] } : ByteArray).size : Int) = (ks.length : Int)) ∧ (({ data := #[63] } : ByteArray).toList == [63]) = false ∧ ∀ k, k < ks.length → fits (letAt ({ data := #[63] } : ByteArray) k) (ks.getD k 0) = true) := by
  rintro ⟨_, h, _⟩
  rw [toList_eq] at h
  cases h
theorem tblFix {kd nn : Int} {tx : List Int} {nms : List (List Int)} {ks : List Int} {lo hi : Nat} {rs : List Nat} (S : ByteArray) (hsh : shape kd nn (ks.length : Int) = S) (h0 : ¬ kd = 0) (h1 : least kd = lo) (h2 : most kd = hi) (h3 : ¬ kd = 15) (h4 : ¬ kd = 21) (h5 : ¬ kd = 2) (h6 : ¬ kd = 14)
    (hS : S.size = rs.length) (hq : 0 < S.size → ¬ letAt S 0 = 63) (hp : ∀ k, k < rs.length → ∀ x, fits (letAt S k) x = takes (rs.getD k 0) x) :
    (named nn tx nms lo hi && holds rs ks) = true ↔ TableOk kd nn tx nms ks := by
  rw [Bool.and_eq_true, named_iff h1 h2 h3 h4 h5 h6, fixed hS (no63 hq) hp]
  unfold TableOk
  rw [hsh]
  exact ⟨fun h => ⟨h.1, h.2, fun e => absurd e h0⟩, fun h => ⟨h.1, h.2.1⟩⟩
theorem two {P : Nat → Prop} (h0 : P 0) (h1 : P 1) : ∀ k, k < 2 → P k := by
  intro k hk
  have : k = 0 ∨ k = 1 := by omega
  rcases this with rfl | rfl
  · exact h0
  · exact h1
theorem one {P : Nat → Prop} (h0 : P 0) : ∀ k, k < 1 → P k := by
  intro k hk
  have : k = 0 := by omega
  subst this
  exact h0
theorem zero {P : Nat → Prop} : ∀ k, k < 0 → P k := fun k hk => absurd hk (by omega)
theorem three {P : Nat → Prop} (h0 : P 0) (h1 : P 1) (h2 : P 2) : ∀ k, k < 3 → P k := by
  intro k hk
  have : k = 0 ∨ k = 1 ∨ k = 2 := by omega
  rcases this with rfl | rfl | rfl
  · exact h0
  · exact h1
  · exact h2
theorem four {P : Nat → Prop} (h0 : P 0) (h1 : P 1) (h2 : P 2) (h3 : P 3) : ∀ k, k < 4 → P k := by
  intro k hk
  have : k = 0 ∨ k = 1 ∨ k = 2 ∨ k = 3 := by omega
  rcases this with rfl | rfl | rfl | rfl
  · exact h0
  · exact h1
  · exact h2
  · exact h3
theorem tblMany {kd nn : Int} {tx : List Int} {nms : List (List Int)} {ks : List Int} {lo hi a b r : Nat} {c : UInt8} (h0 : ¬ kd = 0) (h1 : least kd = lo) (h2 : most kd = hi) (h3 : ¬ kd = 15) (h4 : ¬ kd = 21) (h5 : ¬ kd = 2) (h6 : ¬ kd = 14)
    (hsh : shape kd nn (ks.length : Int) = if a ≤ ks.length ∧ ks.length ≤ b then rep { data := #[c] } (ks.length : Int).toNat else { data := #[63] }) (hc : ¬ c = 63) (hp : ∀ x, fits c.toNat x = takes r x) :
    (named nn tx nms lo hi && takesAll r ks a b) = true ↔ TableOk kd nn tx nms ks := by
  rw [Bool.and_eq_true, named_iff h1 h2 h3 h4 h5 h6]
  unfold TableOk takesAll
  rw [hsh, Bool.and_eq_true, Bool.and_eq_true, decide_eq_true_eq, decide_eq_true_eq, repeated hc hp]
  by_cases h : a ≤ ks.length ∧ ks.length ≤ b
  · rw [if_pos h]
    exact ⟨fun x => ⟨x.1, x.2.2.2, fun e => absurd e h0⟩, fun x => ⟨x.1, h.1, h.2, x.2.1⟩⟩
  · rw [if_neg h]
    exact ⟨fun x => absurd ⟨x.2.1, x.2.2.1⟩ h, fun x => absurd x.2.1 bad63⟩
theorem tbl3 {nn : Int} {tx : List Int} {nms : List (List Int)} {ks : List Int} : fitsI 3 nn tx nms ks = true ↔ TableOk 3 nn tx nms ks :=
  tblFix (rs := [0]) { data := #[98] } rfl (by decide) rfl rfl (by decide) (by decide) (by decide) (by decide) rfl (fun _ => by decide) (one (fun _ => rfl))
theorem tbl4 {nn : Int} {tx : List Int} {nms : List (List Int)} {ks : List Int} : fitsI 4 nn tx nms ks = true ↔ TableOk 4 nn tx nms ks :=
  tblFix (rs := [2, 0]) { data := #[101, 98] } rfl (by decide) rfl rfl (by decide) (by decide) (by decide) (by decide) rfl (fun _ => by decide) (two (fun _ => rfl) (fun _ => rfl))
theorem tbl5 {nn : Int} {tx : List Int} {nms : List (List Int)} {ks : List Int} : fitsI 5 nn tx nms ks = true ↔ TableOk 5 nn tx nms ks :=
  tblFix (rs := [0, 2]) { data := #[98, 101] } rfl (by decide) rfl rfl (by decide) (by decide) (by decide) (by decide) rfl (fun _ => by decide) (two (fun _ => rfl) (fun _ => rfl))
theorem tbl8 {nn : Int} {tx : List Int} {nms : List (List Int)} {ks : List Int} : fitsI 8 nn tx nms ks = true ↔ TableOk 8 nn tx nms ks :=
  tblFix (rs := []) { data := #[] } rfl (by decide) rfl rfl (by decide) (by decide) (by decide) (by decide) rfl (fun h => absurd h (by decide)) zero
theorem tbl10 {nn : Int} {tx : List Int} {nms : List (List Int)} {ks : List Int} : fitsI 10 nn tx nms ks = true ↔ TableOk 10 nn tx nms ks :=
  tblFix (rs := [4]) { data := #[99] } rfl (by decide) rfl rfl (by decide) (by decide) (by decide) (by decide) rfl (fun _ => by decide) (one (fun _ => rfl))
theorem tbl11 {nn : Int} {tx : List Int} {nms : List (List Int)} {ks : List Int} : fitsI 11 nn tx nms ks = true ↔ TableOk 11 nn tx nms ks :=
  tblFix (rs := []) { data := #[] } rfl (by decide) rfl rfl (by decide) (by decide) (by decide) (by decide) rfl (fun h => absurd h (by decide)) zero
theorem tbl12 {nn : Int} {tx : List Int} {nms : List (List Int)} {ks : List Int} : fitsI 12 nn tx nms ks = true ↔ TableOk 12 nn tx nms ks :=
  tblFix (rs := []) { data := #[] } rfl (by decide) rfl rfl (by decide) (by decide) (by decide) (by decide) rfl (fun h => absurd h (by decide)) zero
theorem tbl13 {nn : Int} {tx : List Int} {nms : List (List Int)} {ks : List Int} : fitsI 13 nn tx nms ks = true ↔ TableOk 13 nn tx nms ks :=
  tblFix (rs := []) { data := #[] } rfl (by decide) rfl rfl (by decide) (by decide) (by decide) (by decide) rfl (fun h => absurd h (by decide)) zero
theorem tbl16 {nn : Int} {tx : List Int} {nms : List (List Int)} {ks : List Int} : fitsI 16 nn tx nms ks = true ↔ TableOk 16 nn tx nms ks :=
  tblFix (rs := []) { data := #[] } rfl (by decide) rfl rfl (by decide) (by decide) (by decide) (by decide) rfl (fun h => absurd h (by decide)) zero
theorem tbl17 {nn : Int} {tx : List Int} {nms : List (List Int)} {ks : List Int} : fitsI 17 nn tx nms ks = true ↔ TableOk 17 nn tx nms ks :=
  tblFix (rs := [2, 2]) { data := #[101, 101] } rfl (by decide) rfl rfl (by decide) (by decide) (by decide) (by decide) rfl (fun _ => by decide) (two (fun _ => rfl) (fun _ => rfl))
theorem tbl19 {nn : Int} {tx : List Int} {nms : List (List Int)} {ks : List Int} : fitsI 19 nn tx nms ks = true ↔ TableOk 19 nn tx nms ks :=
  tblFix (rs := [0]) { data := #[98] } rfl (by decide) rfl rfl (by decide) (by decide) (by decide) (by decide) rfl (fun _ => by decide) (one (fun _ => rfl))
theorem tbl24 {nn : Int} {tx : List Int} {nms : List (List Int)} {ks : List Int} : fitsI 24 nn tx nms ks = true ↔ TableOk 24 nn tx nms ks :=
  tblFix (rs := [2]) { data := #[101] } rfl (by decide) rfl rfl (by decide) (by decide) (by decide) (by decide) rfl (fun _ => by decide) (one (fun _ => rfl))
theorem tbl25 {nn : Int} {tx : List Int} {nms : List (List Int)} {ks : List Int} : fitsI 25 nn tx nms ks = true ↔ TableOk 25 nn tx nms ks :=
  tblFix (rs := [2]) { data := #[101] } rfl (by decide) rfl rfl (by decide) (by decide) (by decide) (by decide) rfl (fun _ => by decide) (one (fun _ => rfl))
theorem tbl26 {nn : Int} {tx : List Int} {nms : List (List Int)} {ks : List Int} : fitsI 26 nn tx nms ks = true ↔ TableOk 26 nn tx nms ks :=
  tblFix (rs := [5]) { data := #[102] } rfl (by decide) rfl rfl (by decide) (by decide) (by decide) (by decide) rfl (fun _ => by decide) (one (fun _ => rfl))
theorem tbl1 {nn : Int} {tx : List Int} {nms : List (List Int)} {ks : List Int} : fitsI 1 nn tx nms ks = true ↔ TableOk 1 nn tx nms ks := by
  refine tblMany (by decide) rfl rfl (by decide) (by decide) (by decide) (by decide) ?_ (c := 101) (by decide) (fun _ => rfl)
  show (if 50 < (ks.length : Int) then _ else _) = _
  by_cases h : ks.length ≤ 50
  · rw [if_neg (by omega), if_pos ⟨by omega, h⟩]
  · rw [if_pos (by omega), if_neg (by omega)]
theorem tbl9 {nn : Int} {tx : List Int} {nms : List (List Int)} {ks : List Int} : fitsI 9 nn tx nms ks = true ↔ TableOk 9 nn tx nms ks := by
  refine tblMany (by decide) rfl rfl (by decide) (by decide) (by decide) (by decide) ?_ (c := 101) (by decide) (fun _ => rfl)
  show (if 50 < (ks.length : Int) then _ else _) = _
  by_cases h : ks.length ≤ 50
  · rw [if_neg (by omega), if_pos ⟨by omega, h⟩]
  · rw [if_pos (by omega), if_neg (by omega)]
theorem tbl18 {nn : Int} {tx : List Int} {nms : List (List Int)} {ks : List Int} : fitsI 18 nn tx nms ks = true ↔ TableOk 18 nn tx nms ks := by
  refine tblMany (by decide) rfl rfl (by decide) (by decide) (by decide) (by decide) ?_ (c := 101) (by decide) (fun _ => rfl)
  show (if (ks.length : Int) < 1 ∨ 51 < (ks.length : Int) then _ else _) = _
  by_cases h : 1 ≤ ks.length ∧ ks.length ≤ 51
  · rw [if_neg (by omega), if_pos h]
  · rw [if_pos (by omega), if_neg h]
theorem tbl0 {nn : Int} {tx : List Int} {nms : List (List Int)} {ks : List Int} (hk : ks.length ≤ 6000) : fitsI 0 nn tx nms ks = true ↔ TableOk 0 nn tx nms ks := by
  show (lastOnly ks && (named nn tx nms 0 0 && takesAll 1 ks 0 6000)) = true ↔ _
  rw [Bool.and_eq_true, Bool.and_eq_true, named_iff (lo := 0) (hi := 0) (kd := 0) rfl rfl (by decide) (by decide) (by decide) (by decide)]
  unfold TableOk takesAll
  rw [show shape 0 nn (ks.length : Int) = rep { data := #[115] } (ks.length : Int).toNat from rfl, Bool.and_eq_true, Bool.and_eq_true, decide_eq_true_eq, decide_eq_true_eq, repeated (c := 115) (by decide) (fun _ => rfl), lastOnly_iff]
  exact ⟨fun x => ⟨x.2.1, x.2.2.2.2, fun _ => x.1⟩, fun x => ⟨x.2.2 rfl, x.1, by omega, by omega, x.2.1⟩⟩
theorem tbl20 {nn : Int} {tx : List Int} {nms : List (List Int)} {ks : List Int} (hk : ks.length ≤ 6000) : fitsI 20 nn tx nms ks = true ↔ TableOk 20 nn tx nms ks := by
  show (named nn tx nms 0 0 && (decide (ks.length % 2 = 0) && takesAll 2 ks 0 6000)) = true ↔ _
  rw [Bool.and_eq_true, Bool.and_eq_true, named_iff (lo := 0) (hi := 0) (kd := 20) rfl rfl (by decide) (by decide) (by decide) (by decide)]
  unfold TableOk takesAll
  rw [show shape 20 nn (ks.length : Int) = (if ¬ (ks.length : Int) % 2 = 0 then { data := #[63] } else rep { data := #[101] } (ks.length : Int).toNat) from rfl, Bool.and_eq_true, Bool.and_eq_true, decide_eq_true_eq, decide_eq_true_eq, decide_eq_true_eq, repeated (c := 101) (by decide) (fun _ => rfl)]
  by_cases h : ks.length % 2 = 0
  · rw [if_neg (by omega)]
    exact ⟨fun x => ⟨x.1, x.2.2.2.2, fun e => absurd e (by decide)⟩, fun x => ⟨x.1, h, by omega, by omega, x.2.1⟩⟩
  · rw [if_pos (by omega)]
    exact ⟨fun x => absurd x.2.1 h, fun x => absurd x.2.1 bad63⟩
theorem tbl7 {nn : Int} {tx : List Int} {nms : List (List Int)} {ks : List Int} : fitsI 7 nn tx nms ks = true ↔ TableOk 7 nn tx nms ks := by
  show (named nn tx nms 1 1 && (holds [2, 2, 0] ks || holds [2, 2, 2, 0] ks)) = true ↔ _
  by_cases h : ks.length = 4
  · have e : holds [2, 2, 0] ks = false := by
      rw [Bool.eq_false_iff]; intro hc; have := (holds_iff.1 hc).1; simp at this; omega
    rw [e, Bool.false_or]
    refine tblFix (rs := [2, 2, 2, 0]) { data := #[101, 101, 101, 98] } ?_ (by decide) rfl rfl (by decide) (by decide) (by decide) (by decide) rfl (fun _ => by decide) (four (fun _ => rfl) (fun _ => rfl) (fun _ => rfl) (fun _ => rfl))
    rw [h]; rfl
  · have e : holds [2, 2, 2, 0] ks = false := by
      rw [Bool.eq_false_iff]; intro hc; have := (holds_iff.1 hc).1; simp at this; omega
    rw [e, Bool.or_false]
    refine tblFix (rs := [2, 2, 0]) { data := #[101, 101, 98] } ?_ (by decide) rfl rfl (by decide) (by decide) (by decide) (by decide) rfl (fun _ => by decide) (three (fun _ => rfl) (fun _ => rfl) (fun _ => rfl))
    show (if (ks.length : Int) = 4 then _ else _) = _
    rw [if_neg (by omega)]
theorem fields_pair {kd nn : Int} {tx : List Int} {nms : List (List Int)} (h : kd = 22 ∨ kd = 23) : numbered nn tx nms 0 0 = fieldsB kd nn tx nms := by
  rw [← named_iff (lo := 0) (hi := 0) (kd := kd) (by unfold least; rw [if_neg (by omega)]) (by unfold most; rw [if_neg (by omega), if_neg (by omega), if_neg (by omega)]) (by omega) (by omega) (by omega) (by omega)]
  rw [Bool.eq_iff_iff]
  unfold numbered named
  simp only [Bool.and_eq_true, decide_eq_true_eq, beq_iff_eq]
  constructor
  · rintro ⟨a, b, c, d⟩
    have : nms = [] := List.length_eq_zero_iff.1 d
    subst this
    exact ⟨by omega, c, by simp, by simp, rfl⟩
  · rintro ⟨a, b, c, d, _⟩
    exact ⟨by omega, by omega, b, by omega⟩
theorem fields21 {nn : Int} {tx : List Int} {nms : List (List Int)} : numbered nn tx nms 0 11 = fieldsB 21 nn tx nms := by
  rw [Bool.eq_iff_iff]
  unfold numbered fieldsB textOk numOk
  rw [show least 21 = 0 from rfl, show most 21 = 0 from rfl]
  simp only [Bool.and_eq_true, Bool.or_eq_true, decide_eq_true_eq, if_true]
  constructor
  · rintro ⟨a, b, c, d⟩
    have : nms = [] := List.length_eq_zero_iff.1 d
    subst this
    exact ⟨by simp, by simp, rfl, ⟨.inr c, by omega⟩, a, b⟩
  · rintro ⟨a, b, c, ⟨d | d, _⟩, e, f⟩
    · exact absurd d (by decide)
    · exact ⟨e, f, d, by omega⟩
theorem tblPair {kd nn : Int} {tx : List Int} {nms : List (List Int)} {ks : List Int} {hi : Int} (h : kd = 21 ∨ kd = 22 ∨ kd = 23) (hf : numbered nn tx nms 0 hi = fieldsB kd nn tx nms) : (numbered nn tx nms 0 hi && holds [2, 2] ks) = true ↔ TableOk kd nn tx nms ks := by
  have hsh : shape kd nn (ks.length : Int) = { data := #[101, 101] } := by rcases h with rfl | rfl | rfl <;> rfl
  rw [Bool.and_eq_true, hf, fixed (S := { data := #[101, 101] }) (rs := [2, 2]) rfl (no63 (fun _ => by decide)) (two (fun _ => rfl) (fun _ => rfl))]
  unfold TableOk
  rw [hsh]
  exact ⟨fun x => ⟨x.1, x.2, fun e => absurd e (by omega)⟩, fun x => ⟨x.1, x.2.1⟩⟩
theorem tbl21 {nn : Int} {tx : List Int} {nms : List (List Int)} {ks : List Int} : fitsI 21 nn tx nms ks = true ↔ TableOk 21 nn tx nms ks := tblPair (.inl rfl) fields21
theorem tbl22 {nn : Int} {tx : List Int} {nms : List (List Int)} {ks : List Int} : fitsI 22 nn tx nms ks = true ↔ TableOk 22 nn tx nms ks := tblPair (.inr (.inl rfl)) (fields_pair (.inl rfl))
theorem tbl23 {nn : Int} {tx : List Int} {nms : List (List Int)} {ks : List Int} : fitsI 23 nn tx nms ks = true ↔ TableOk 23 nn tx nms ks := tblPair (.inr (.inr rfl)) (fields_pair (.inr rfl))
theorem tblLeaf {kd nn : Int} {tx : List Int} {nms : List (List Int)} {ks : List Int} {b : Bool} (h : kd = 14 ∨ kd = 15) (hf : b = fieldsB kd nn tx nms) : (b && holds [] ks) = true ↔ TableOk kd nn tx nms ks := by
  have hsh : shape kd nn (ks.length : Int) = { data := #[] } := by rcases h with rfl | rfl <;> rfl
  rw [Bool.and_eq_true, hf, fixed (S := { data := #[] }) (rs := []) rfl (no63 (fun h => absurd h (by decide))) zero]
  unfold TableOk
  rw [hsh]
  exact ⟨fun x => ⟨x.1, x.2, fun e => absurd e (by omega)⟩, fun x => ⟨x.1, x.2.1⟩⟩
theorem tbl14 {nn : Int} {tx : List Int} {nms : List (List Int)} {ks : List Int} : fitsI 14 nn tx nms ks = true ↔ TableOk 14 nn tx nms ks := by
  show (decide (tx.length = 0) && (decide (nms.length = 0) && holds [] ks)) = true ↔ _
  rw [← Bool.and_assoc]
  refine tblLeaf (.inl rfl) ?_
  rw [Bool.eq_iff_iff]
  unfold fieldsB textOk numOk
  rw [show least 14 = 0 from rfl, show most 14 = 0 from rfl]
  simp only [Bool.and_eq_true, Bool.or_eq_true, decide_eq_true_eq]
  constructor
  · rintro ⟨c, d⟩
    have : nms = [] := List.length_eq_zero_iff.1 d
    subst this
    exact ⟨by simp, by simp, rfl, ⟨.inr c, by omega⟩, rfl⟩
  · rintro ⟨a, b, c, ⟨d | d, _⟩, e⟩
    · exact absurd d (by decide)
    · exact ⟨d, by omega⟩
theorem tbl15 {nn : Int} {tx : List Int} {nms : List (List Int)} {ks : List Int} : fitsI 15 nn tx nms ks = true ↔ TableOk 15 nn tx nms ks := by
  show ((nn == 0) && (decide (tx.length ≤ 5000) && (decide (nms.length = 0) && holds [] ks))) = true ↔ _
  rw [← Bool.and_assoc, ← Bool.and_assoc]
  refine tblLeaf (.inr rfl) ?_
  rw [Bool.eq_iff_iff]
  unfold fieldsB textOk numOk
  rw [show least 15 = 0 from rfl, show most 15 = 0 from rfl, if_neg (by decide)]
  simp only [Bool.and_eq_true, Bool.or_eq_true, decide_eq_true_eq, beq_iff_eq]
  constructor
  · rintro ⟨⟨b, c⟩, d⟩
    have : nms = [] := List.length_eq_zero_iff.1 d
    subst this
    exact ⟨by simp, by simp, rfl, ⟨.inl trivial, c⟩, .inr (.inr b)⟩
  · rintro ⟨a, b, c, ⟨_, d⟩, e | e | e⟩
    · exact absurd e (by decide)
    · exact absurd e (by decide)
    · exact ⟨⟨e, d⟩, by omega⟩
theorem tbl2 {nn : Int} {tx : List Int} {nms : List (List Int)} {ks : List Int} : fitsI 2 nn tx nms ks = true ↔ TableOk 2 nn tx nms ks := by
  show (numbered nn tx nms 1 50 && (decide (nn ≤ ks.length) && (takesAll 3 (ks.take nn.toNat) 1 50 && takesAll 2 (ks.drop nn.toNat) 1 50))) = true ↔ _
  unfold TableOk
  rw [show shape 2 nn (ks.length : Int) = (if nn < 1 ∨ 50 < nn ∨ (ks.length : Int) ≤ nn ∨ nn + 50 < (ks.length : Int) then { data := #[63] } else rep { data := #[116] } nn.toNat ++ rep { data := #[101] } ((ks.length : Int) - nn).toNat) from rfl]
  by_cases h : nn < 1 ∨ 50 < nn ∨ (ks.length : Int) ≤ nn ∨ nn + 50 < (ks.length : Int)
  · rw [if_pos h]
    constructor
    · intro x
      unfold numbered takesAll at x
      simp only [Bool.and_eq_true, decide_eq_true_eq, List.length_take, List.length_drop] at x
      omega
    · exact fun x => absurd x.2.1 bad63
  · rw [if_neg h]
    obtain ⟨a, rfl⟩ : ∃ a : Nat, nn = (a : Int) := ⟨nn.toNat, by omega⟩
    have ha : 1 ≤ a ∧ a ≤ 50 ∧ a < ks.length ∧ ks.length ≤ a + 50 := by omega
    rw [Int.toNat_natCast, show ((ks.length : Int) - (a : Int)).toNat = ks.length - a by omega]
    have s1 : (rep { data := #[116] } a).size = a := by rw [rep_size]; show a * 1 = a; omega
    have s2 : (rep { data := #[101] } (ks.length - a)).size = ks.length - a := by rw [rep_size]; show (ks.length - a) * 1 = _; omega
    have hlet : ∀ k, k < ks.length → letAt (rep { data := #[116] } a ++ rep { data := #[101] } (ks.length - a)) k = if k < a then 116 else 101 := by
      intro k hk
      by_cases hka : k < a
      · rw [letAt_app_l (by omega), letAt_rep1 hka, if_pos hka]; rfl
      · rw [letAt_app_r (by omega) (by omega), letAt_rep1 (by omega), if_neg hka]; rfl
    have h63 : ((rep { data := #[116] } a ++ rep { data := #[101] } (ks.length - a)).toList == [63]) = false := no63 (fun _ => by rw [hlet 0 (by omega), if_pos (by omega)]; decide)
    have hkids : (takesAll 3 (ks.take a) 1 50 && takesAll 2 (ks.drop a) 1 50) = true ↔ ∀ k, k < ks.length → fits (letAt (rep { data := #[116] } a ++ rep { data := #[101] } (ks.length - a)) k) (ks.getD k 0) = true := by
      unfold takesAll
      rw [Bool.and_eq_true, Bool.and_eq_true, Bool.and_eq_true, Bool.and_eq_true, Bool.and_eq_true, all_iff, all_iff]
      simp only [decide_eq_true_eq, List.length_take, List.length_drop]
      constructor
      · rintro ⟨⟨_, _, p⟩, _, _, q⟩ k hk
        rw [hlet k hk]
        by_cases hka : k < a
        · rw [if_pos hka]
          have := p k (by omega)
          rw [show (ks.take a).getD k 0 = ks.getD k 0 by simp [List.getD_eq_getElem?_getD, hka]] at this
          exact this
        · rw [if_neg hka]
          have := q (k - a) (by omega)
          rw [show (ks.drop a).getD (k - a) 0 = ks.getD k 0 by simp [List.getD_eq_getElem?_getD, show a + (k - a) = k by omega]] at this
          exact this
      · intro g
        refine ⟨⟨by omega, by omega, fun k hk => ?_⟩, by omega, by omega, fun k hk => ?_⟩
        · have := g k (by omega)
          rw [hlet k (by omega), if_pos (by omega)] at this
          rw [show (ks.take a).getD k 0 = ks.getD k 0 by simp [List.getD_eq_getElem?_getD, show k < a by omega]]
          exact this
        · have := g (a + k) (by omega)
          rw [hlet _ (by omega), if_neg (by omega)] at this
          rw [show (ks.drop a).getD k 0 = ks.getD (a + k) 0 by simp [List.getD_eq_getElem?_getD]]
          exact this
    have hf : numbered (a : Int) tx nms 1 50 = true ↔ fieldsB 2 (a : Int) tx nms = true := by
      unfold numbered fieldsB textOk numOk
      rw [show least 2 = 0 from rfl, show most 2 = 0 from rfl, if_neg (by decide)]
      simp only [Bool.and_eq_true, Bool.or_eq_true, decide_eq_true_eq, beq_self_eq_true, true_or, and_true]
      constructor
      · rintro ⟨_, _, c, d⟩
        have : nms = [] := List.length_eq_zero_iff.1 d
        subst this
        exact ⟨by simp, by simp, rfl, .inr c, by omega⟩
      · rintro ⟨_, b, _, d | d, _⟩
        · exact absurd d (by decide)
        · exact ⟨by omega, by omega, d, by omega⟩
    rw [Bool.and_eq_true, Bool.and_eq_true, hf, hkids, decide_eq_true_eq]
    constructor
    · rintro ⟨p, _, q⟩
      exact ⟨p, ⟨by rw [ByteArray.size_append]; omega, h63, q⟩, fun e => absurd e (by decide)⟩
    · rintro ⟨p, ⟨_, _, q⟩, _⟩
      exact ⟨p, by omega, q⟩
theorem tbl6 {nn : Int} {tx : List Int} {nms : List (List Int)} {ks : List Int} : fitsI 6 nn tx nms ks = true ↔ TableOk 6 nn tx nms ks := by
  show (ifParts ks.length 0 ks && (named nn tx nms 0 0 && decide (2 ≤ ks.length))) = true ↔ _
  rw [Bool.and_eq_true, Bool.and_eq_true, named_iff (lo := 0) (hi := 0) (kd := 6) rfl rfl (by decide) (by decide) (by decide) (by decide), decide_eq_true_eq, ifParts_iff]
  unfold TableOk
  rw [show shape 6 nn (ks.length : Int) = (if (ks.length : Int) < 2 then { data := #[63] } else rep { data := #[101, 98] } ((ks.length : Int) / 2).toNat ++ rep { data := #[98] } ((ks.length : Int) % 2).toNat) from rfl]
  by_cases h : ks.length < 2
  · rw [if_pos (by omega)]
    exact ⟨fun x => absurd x.2.2 (by omega), fun x => absurd x.2.1 bad63⟩
  · rw [if_neg (by omega), show ((ks.length : Int) / 2).toNat = ks.length / 2 by omega, show ((ks.length : Int) % 2).toNat = ks.length % 2 by omega]
    have s1 : (rep { data := #[101, 98] } (ks.length / 2)).size = ks.length / 2 * 2 := by rw [rep_size]; rfl
    have s2 : (rep { data := #[98] } (ks.length % 2)).size = ks.length % 2 := by rw [rep_size]; show _ * 1 = _; omega
    have hlet : ∀ k, k < ks.length → letAt (rep { data := #[101, 98] } (ks.length / 2) ++ rep { data := #[98] } (ks.length % 2)) k = if k % 2 = 1 ∨ k + 1 = ks.length then 98 else 101 := by
      intro k hk
      by_cases hka : k < ks.length / 2 * 2
      · rw [letAt_app_l (by omega), letAt_rep2 hka]
        by_cases h1 : k % 2 = 1
        · rw [if_pos h1, if_pos (.inl h1)]
        · rw [if_neg h1, if_neg (by omega)]
      · rw [letAt_app_r (by omega) (by omega), letAt_rep1 (by omega), if_pos (by omega)]; rfl
    have h63 : ((rep { data := #[101, 98] } (ks.length / 2) ++ rep { data := #[98] } (ks.length % 2)).toList == [63]) = false := no63 (fun _ => by rw [hlet 0 (by omega), if_neg (by omega)]; decide)
    have hpt : ∀ k, k < ks.length → fits (letAt (rep { data := #[101, 98] } (ks.length / 2) ++ rep { data := #[98] } (ks.length % 2)) k) (ks.getD k 0) = takes (if (0 + k) % 2 = 1 ∨ 0 + k + 1 = ks.length then 0 else 2) (ks.getD k 0) := by
      intro k hk
      rw [hlet k hk, Nat.zero_add]
      by_cases h1 : k % 2 = 1 ∨ k + 1 = ks.length
      · rw [if_pos h1, if_pos h1]; rfl
      · rw [if_neg h1, if_neg h1]; rfl
    constructor
    · rintro ⟨p, q, _⟩
      exact ⟨q, ⟨by rw [ByteArray.size_append]; omega, h63, fun k hk => by rw [hpt k hk]; exact p k hk⟩, fun e => absurd e (by decide)⟩
    · rintro ⟨q, ⟨_, _, p⟩, _⟩
      exact ⟨fun k hk => by rw [← hpt k hk]; exact p k hk, q, by omega⟩
theorem tbl_any {kd nn : Int} {tx : List Int} {nms : List (List Int)} {ks : List Int} (h0 : 0 ≤ kd) (h26 : kd ≤ 26) (hk : ks.length ≤ 6000) : fitsI kd nn tx nms ks = true ↔ TableOk kd nn tx nms ks := by
  have : kd = 0 ∨ kd = 1 ∨ kd = 2 ∨ kd = 3 ∨ kd = 4 ∨ kd = 5 ∨ kd = 6 ∨ kd = 7 ∨ kd = 8 ∨ kd = 9 ∨ kd = 10 ∨ kd = 11 ∨ kd = 12 ∨ kd = 13 ∨ kd = 14 ∨ kd = 15 ∨ kd = 16 ∨ kd = 17 ∨ kd = 18 ∨ kd = 19 ∨ kd = 20 ∨ kd = 21 ∨ kd = 22 ∨ kd = 23 ∨ kd = 24 ∨ kd = 25 ∨ kd = 26 := by omega
  rcases this with rfl | rfl | rfl | rfl | rfl | rfl | rfl | rfl | rfl | rfl | rfl | rfl | rfl | rfl | rfl | rfl | rfl | rfl | rfl | rfl | rfl | rfl | rfl | rfl | rfl | rfl | rfl
  · exact tbl0 hk
  · exact tbl1
  · exact tbl2
  · exact tbl3
  · exact tbl4
  · exact tbl5
  · exact tbl6
  · exact tbl7
  · exact tbl8
  · exact tbl9
  · exact tbl10
  · exact tbl11
  · exact tbl12
  · exact tbl13
  · exact tbl14
  · exact tbl15
  · exact tbl16
  · exact tbl17
  · exact tbl18
  · exact tbl19
  · exact tbl20 hk
  · exact tbl21
  · exact tbl22
  · exact tbl23
  · exact tbl24
  · exact tbl25
  · exact tbl26
end Go.Proofs.YtccnjmnafkfjdaaGreat.vt
