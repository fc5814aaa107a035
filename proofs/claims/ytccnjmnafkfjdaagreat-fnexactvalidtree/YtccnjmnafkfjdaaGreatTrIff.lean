import Derived.Test.YtccnjmnafkfjdaaGreatTrBase
namespace Go.Proofs.YtccnjmnafkfjdaaGreat.vt
open Go.RowKit Go.Proofs.YtccnjmnafkfjdaaGreat.bts Go.Proofs.YtccnjmnafkfjdaaGreat.nod Go.Proofs.YtccnjmnafkfjdaaGreat.lex

theorem holds_iff : ∀ {rs : List Nat} {ks : List Int}, holds rs ks = true ↔ rs.length = ks.length ∧ ∀ k, k < ks.length → takes (rs.getD k 0) (ks.getD k 0) = true
  | [], [] => by simp [holds]
  | [], k :: ks => by simp [holds]
  | r :: rs, [] => by simp [holds]
  | r :: rs, k :: ks => by
    rw [holds, Bool.and_eq_true, holds_iff (rs := rs) (ks := ks)]
    constructor
    · rintro ⟨h1, h2, h3⟩
      refine ⟨by simp [h2], fun j hj => ?_⟩
      cases j with
      | zero => exact h1
      | succ j => exact h3 j (by simpa using hj)
    · rintro ⟨h1, h2⟩
      refine ⟨h2 0 (by simp), by simpa using h1, fun j hj => ?_⟩
      exact h2 (j + 1) (by simpa using hj)
theorem all_iff {p : Int → Bool} {ks : List Int} : ks.all p = true ↔ ∀ k, k < ks.length → p (ks.getD k 0) = true := by
  rw [List.all_eq_true]
  constructor
  · intro h k hk
    have e : ks.getD k 0 = ks[k] := by simp [List.getD_eq_getElem?_getD, List.getElem?_eq_getElem hk]
    rw [e]; exact h _ (List.getElem_mem hk)
  · intro h x hx
    obtain ⟨k, hk, rfl⟩ := List.getElem_of_mem hx
    have := h k hk
    have e : ks.getD k 0 = ks[k] := by simp [List.getD_eq_getElem?_getD, List.getElem?_eq_getElem hk]
    rwa [e] at this
theorem lastOnly_iff : ∀ {ks : List Int}, lastOnly ks = true ↔ ∀ k, k + 1 < ks.length → ¬ (ks.getD k 0 = 9 ∨ ks.getD k 0 = 8)
  | [] => by simp [lastOnly]
  | [a] => by simp [lastOnly]
  | a :: b :: r => by
    rw [lastOnly, Bool.and_eq_true, lastOnly_iff (ks := b :: r)]
    · constructor
      · rintro ⟨h1, h2⟩ k hk
        cases k with
        | zero => simpa using h1
        | succ k => exact h2 k (by simpa using hk)
      · intro h
        refine ⟨by simpa using h 0 (by simp), fun k hk => h (k + 1) (by simpa using hk)⟩
    · intro x; cases x
theorem ifParts_iff {n : Nat} : ∀ {ks : List Int} {i : Nat}, ifParts n i ks = true ↔ ∀ k, k < ks.length → takes (if (i + k) % 2 = 1 ∨ i + k + 1 = n then 0 else 2) (ks.getD k 0) = true
  | [], i => by simp [ifParts]
  | a :: r, i => by
    rw [ifParts, Bool.and_eq_true, ifParts_iff (ks := r)]
    constructor
    · rintro ⟨h1, h2⟩ k hk
      cases k with
      | zero => exact h1
      | succ k =>
        have := h2 k (by simpa using hk)
        rw [show i + 1 + k = i + (k + 1) by omega] at this
        exact this
    · intro h
      refine ⟨h 0 (by simp), fun k hk => ?_⟩
      have := h (k + 1) (by simpa using hk)
      rw [show i + (k + 1) = i + 1 + k by omega] at this
      exact this

end Go.Proofs.YtccnjmnafkfjdaaGreat.vt
