import Derived.Test.YtccnjmnafkfjdaaGreatVtValid
import Derived.Test.YtccnjmnafkfjdaaGreatTrIff
namespace Go.Proofs.YtccnjmnafkfjdaaGreat.vt
open Go.RowKit Go.Proofs.YtccnjmnafkfjdaaGreat.bts Go.Proofs.YtccnjmnafkfjdaaGreat.nod Go.Proofs.YtccnjmnafkfjdaaGreat.lex

/-- Letters of a shape and roles. -/
theorem fits_takes (k : Int) : fits 98 k = takes 0 k ∧ fits 115 k = takes 1 k ∧ fits 101 k = takes 2 k ∧ fits 116 k = takes 3 k ∧ fits 99 k = takes 4 k ∧ fits 102 k = takes 5 k := ⟨rfl, rfl, rfl, rfl, rfl, rfl⟩
theorem letAt_app_l {a b : ByteArray} {k : Nat} (h : k < a.size) : letAt (a ++ b) k = letAt a k := by
  rw [letAt_in h, letAt_in (by rw [ByteArray.size_append]; omega), ByteArray.getElem_append_left h]
theorem letAt_app_r {a b : ByteArray} {k : Nat} (h : a.size ≤ k) (h2 : k < a.size + b.size) : letAt (a ++ b) k = letAt b (k - a.size) := by
  rw [letAt_in (show k - a.size < b.size by omega), letAt_in (by rw [ByteArray.size_append]; omega), ByteArray.getElem_append_right h]
theorem letAt_rep1 {c : UInt8} {n : Nat} : ∀ {k : Nat}, k < n → letAt (rep { data := #[c] } n) k = c.toNat := by
  induction n with
  | zero => intro k h; omega
  | succ n ih =>
    intro k h
    have hs : (rep { data := #[c] } n).size = n := by rw [rep_size]; show n * 1 = n; omega
    rw [rep]
    by_cases hk : k < n
    · rw [letAt_app_l (by omega)]; exact ih hk
    · have : k = n := by omega
      subst this
      rw [letAt_app_r (by omega) (by rw [hs]; show k < k + 1; omega), hs, Nat.sub_self]
      rfl
theorem letAt_rep2 {n : Nat} : ∀ {k : Nat}, k < n * 2 → letAt (rep { data := #[101, 98] } n) k = if k % 2 = 1 then 98 else 101 := by
  induction n with
  | zero => intro k h; omega
  | succ n ih =>
    intro k h
    have hs : (rep { data := #[101, 98] } n).size = n * 2 := by rw [rep_size]; rfl
    rw [rep]
    by_cases hk : k < n * 2
    · rw [letAt_app_l (by omega)]; exact ih hk
    · rw [letAt_app_r (by omega) (by rw [hs]; show k < n * 2 + 2; omega), hs]
      have : k = n * 2 ∨ k = n * 2 + 1 := by omega
      rcases this with rfl | rfl
      · rw [Nat.sub_self, if_neg (by omega)]; rfl
      · rw [show n * 2 + 1 - n * 2 = 1 by omega, if_pos (by omega)]; rfl
theorem loop_eq (bs : ByteArray) : ∀ (n i : Nat) (r : List UInt8), bs.size - i = n → ByteArray.toList.loop bs i r = r.reverse ++ bs.data.toList.drop i := by
  intro n
  induction n with
  | zero =>
    intro i r h
    rw [ByteArray.toList.loop, if_neg (by omega), List.drop_eq_nil_of_le (by show bs.size ≤ i; omega), List.append_nil]
  | succ n ih =>
    intro i r h
    have hi : i < bs.data.toList.length := by show i < bs.size; omega
    rw [ByteArray.toList.loop, if_pos (by omega), ih _ _ (by omega), List.drop_eq_getElem_cons hi]
    simp only [List.reverse_cons, List.append_assoc, List.singleton_append, List.append_cancel_left_eq, List.cons.injEq, and_true]
    have hi2 : i < bs.data.size := hi
    simp only [ByteArray.get!]
    simpa using getElem!_pos bs.data i hi2
theorem toList_eq (bs : ByteArray) : bs.toList = bs.data.toList := by
  rw [ByteArray.toList, loop_eq bs _ 0 [] rfl]; simp
theorem is63 {s : ByteArray} (h : (s.toList == [63]) = true) : s.size = 1 ∧ letAt s 0 = 63 := by
  rw [toList_eq, beq_iff_eq] at h
  obtain ⟨a⟩ := s
  obtain ⟨l⟩ := a
  simp only at h
  subst h
  exact ⟨rfl, rfl⟩
theorem no63 {s : ByteArray} (h : 0 < s.size → ¬ letAt s 0 = 63) : (s.toList == [63]) = false := by
  rw [Bool.eq_false_iff]
  intro hc
  obtain ⟨a, b⟩ := is63 hc
  exact h (by omega) b
theorem fixed {S : ByteArray} {rs : List Nat} (hS : S.size = rs.length) (hq : (S.toList == [63]) = false) (hp : ∀ k, k < rs.length → ∀ x, fits (letAt S k) x = takes (rs.getD k 0) x) (ks : List Int) :
    holds rs ks = true ↔ ((S.size : Int) = (ks.length : Int) ∧ (S.toList == [63]) = false ∧ ∀ k, k < ks.length → fits (letAt S k) (ks.getD k 0) = true) := by
  rw [holds_iff, hS]
  constructor
  · rintro ⟨h1, h2⟩
    exact ⟨by omega, hq, fun k hk => by rw [hp k (by omega)]; exact h2 k hk⟩
  · rintro ⟨h1, _, h2⟩
    exact ⟨by omega, fun k hk => by rw [← hp k (by omega)]; exact h2 k hk⟩
/-- A row of one letter. -/
theorem repeated {c : UInt8} {r : Nat} (hc : ¬ c = 63) (hp : ∀ x, fits c.toNat x = takes r x) (ks : List Int) :
    ks.all (takes r) = true ↔ (((rep { data := #[c] } (ks.length : Int).toNat).size : Int) = (ks.length : Int) ∧ ((rep { data := #[c] } (ks.length : Int).toNat).toList == [63]) = false ∧ ∀ k, k < ks.length → fits (letAt (rep { data := #[c] } (ks.length : Int).toNat) k) (ks.getD k 0) = true) := by
  rw [Int.toNat_natCast, all_iff]
  have hs : (rep { data := #[c] } ks.length).size = ks.length := by rw [rep_size]; show ks.length * 1 = ks.length; omega
  have h63 : ((rep { data := #[c] } ks.length).toList == [63]) = false := no63 (fun h => by
    rw [letAt_rep1 (by omega)]
    intro e
    apply hc
    apply UInt8.toNat_inj.1
    show c.toNat = 63
    omega)
  constructor
  · intro h
    exact ⟨by omega, h63, fun k hk => by rw [letAt_rep1 hk, hp]; exact h k hk⟩
  · rintro ⟨_, _, h⟩ k hk
    have := h k hk
    rwa [letAt_rep1 hk, hp] at this
theorem named_iff {kd nn : Int} {tx : List Int} {nms : List (List Int)} {lo hi : Nat} (h1 : least kd = lo) (h2 : most kd = hi) (h3 : ¬ kd = 15) (h4 : ¬ kd = 21) (h5 : ¬ kd = 2) (h6 : ¬ kd = 14) : named nn tx nms lo hi = fieldsB kd nn tx nms := by
  unfold named fieldsB textOk numOk
  rw [h1, h2, if_neg h4, decide_eq_false h3]
  have e5 : (kd == 2) = false := by simp; exact h5
  have e6 : (kd == 14) = false := by simp; exact h6
  rw [e5, e6, Bool.false_or, Bool.false_or, Bool.false_or]
  by_cases ht : tx.length = 0
  · rw [decide_eq_true ht, decide_eq_true (show tx.length ≤ 5000 by omega)]
    cases nn == 0 <;> cases decide (lo ≤ nms.length) <;> cases decide (nms.length ≤ hi) <;> cases nms.all isName <;> rfl
  · rw [decide_eq_false ht]; simp
end Go.Proofs.YtccnjmnafkfjdaaGreat.vt
