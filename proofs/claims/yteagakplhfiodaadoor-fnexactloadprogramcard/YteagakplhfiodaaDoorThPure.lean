import Derived.Test.YteagakplhfiodaaDoorChkPure
namespace Go.Proofs.YteagakplhfiodaaDoor.th
open Go.RowKit Go.Proofs.YteagakplhfiodaaDoor.bts Go.Proofs.YteagakplhfiodaaDoor.pg Go.Proofs.YteagakplhfiodaaDoor.chk

/-- Where the instruction at a place jumps to; whether it is a jump; the place k jumps on. -/
def stp (code : List In) (a : Nat) : Nat := (code.getD a in0).a.toNat
def jmp (code : List In) (a : Nat) : Prop := (code.getD a in0).op = 18
def it (code : List In) : Nat → Nat → Nat
  | 0, a => a
  | k + 1, a => it code k (stp code a)
theorem it_succ (code : List In) : ∀ (k a : Nat), it code (k + 1) a = stp code (it code k a)
  | 0, _ => rfl
  | k + 1, a => by rw [it, it_succ code k (stp code a)]; rfl
theorem it_add (code : List In) : ∀ (j k a : Nat), it code (k + j) a = it code j (it code k a)
  | 0, _, _ => rfl
  | j + 1, k, a => by rw [← Nat.add_assoc, it_succ, it_add code j k a, ← it_succ]

def Ends (code : List In) (a e : Nat) : Prop := ∃ k, it code k a = e ∧ ¬ jmp code e ∧ ∀ j, j < k → jmp code (it code j a)
def Never (code : List In) (a : Nat) : Prop := ∀ k, jmp code (it code k a)
/-- What is said of the end of the chain from a place. -/
def EndOf (code : List In) (a : Nat) (z : Int) : Prop := (∃ e : Nat, z = (e : Int) ∧ Ends code a e) ∨ (z = -2 ∧ Never code a)

theorem endOf_stop {code : List In} {a : Nat} (h : ¬ jmp code a) : EndOf code a (a : Int) := .inl ⟨a, rfl, 0, rfl, h, fun _ hj => absurd hj (by omega)⟩
theorem endOf_back {code : List In} {a : Nat} {z : Int} (h : jmp code a) (he : EndOf code (stp code a) z) : EndOf code a z := by
  rcases he with ⟨e, rfl, k, h1, h2, h3⟩ | ⟨rfl, hn⟩
  · refine .inl ⟨e, rfl, k + 1, h1, h2, fun j hj => ?_⟩
    cases j with
    | zero => exact h
    | succ j => exact h3 j (by omega)
  · refine .inr ⟨rfl, fun k => ?_⟩
    cases k with
    | zero => exact h
    | succ k => exact hn k
theorem endOf_chain {code : List In} {s : Nat} {z : Int} : ∀ (m : Nat), (∀ j, j < m → jmp code (it code j s)) → EndOf code (it code m s) z → ∀ j, j < m → EndOf code (it code j s) z
  | 0, _, _, j, hj => absurd hj (by omega)
  | m + 1, hc, he, j, hj => by
    have h1 : EndOf code (it code m s) z := endOf_back (hc m (by omega)) (by rw [← it_succ]; exact he)
    by_cases e : j = m
    · rw [e]; exact h1
    · exact endOf_chain m (fun i hi => hc i (by omega)) h1 j (by omega)
theorem loop_stays {code : List In} {s i m : Nat} (hi : i < m) (e : it code m s = it code i s) : ∀ k, ∃ j, j < m ∧ it code k s = it code j s
  | 0 => ⟨0, by omega, rfl⟩
  | k + 1 => by
    obtain ⟨j, hj, ej⟩ := loop_stays hi e k
    by_cases h : j + 1 < m
    · exact ⟨j + 1, h, by rw [it_succ, ej, ← it_succ]⟩
    · have : j + 1 = m := by omega
      exact ⟨i, hi, by rw [it_succ, ej, ← it_succ, this, e]⟩
theorem never_loop {code : List In} {s i m : Nat} (hi : i < m) (e : it code m s = it code i s) (hc : ∀ j, j < m → jmp code (it code j s)) : Never code (it code m s) := by
  intro k
  rw [← it_add]
  obtain ⟨j, hj, ej⟩ := loop_stays hi e (m + k)
  rw [ej]
  exact hc j hj

/-- Among n + 1 numbers below n two are alike. -/
theorem pigeon : ∀ (n : Nat) (f : Nat → Nat), (∀ i, i ≤ n → f i < n) → ∃ i j, i < j ∧ j ≤ n ∧ f i = f j
  | 0, f, h => absurd (h 0 (by omega)) (by omega)
  | n + 1, f, h => by
    by_cases hx : ∃ i, i < n + 1 ∧ f i = f (n + 1)
    · obtain ⟨i, hi, e⟩ := hx
      exact ⟨i, n + 1, hi, by omega, e⟩
    · have hne : ∀ i, i ≤ n → f i ≠ f (n + 1) := fun i hi e => hx ⟨i, by omega, e⟩
      obtain ⟨i, j, hij, hj, e⟩ := pigeon n (fun i => if f i < f (n + 1) then f i else f i - 1) (fun i hi => by
        have h1 := h i (by omega)
        have h2 := h (n + 1) (by omega)
        have h3 := hne i hi
        show (if f i < f (n + 1) then f i else f i - 1) < n
        split <;> omega)
      refine ⟨i, j, hij, by omega, ?_⟩
      have h1 := hne i (by omega)
      have h2 := hne j hj
      split at e <;> split at e <;> omega

/-- Where a target leads: more jumps than there are instructions are a circle. -/
def lst (code : List In) : Nat → Nat → Nat → Nat
  | 0, _, t => t
  | f + 1, a, t => if (code.getD a in0).op = 18 then lst code f (stp code a) t else a
def lastF (code : List In) (t : Nat) : Nat := lst code (code.length + 1) t t

theorem lst_never {code : List In} {t : Nat} : ∀ (f a : Nat), Never code a → lst code f a t = t
  | 0, _, _ => rfl
  | f + 1, a, h => by
    rw [lst, if_pos (show (code.getD a in0).op = 18 from h 0)]
    exact lst_never f _ (fun k => h (k + 1))
theorem lst_ends {code : List In} {t e : Nat} : ∀ (k f a : Nat), k < f → it code k a = e → ¬ jmp code e → (∀ j, j < k → jmp code (it code j a)) → lst code f a t = e
  | _, 0, _, h, _, _, _ => absurd h (by omega)
  | 0, f + 1, a, _, e1, h2, _ => by
    have : a = e := e1
    subst this
    rw [lst, if_neg (show ¬ (code.getD a in0).op = 18 from h2)]
  | k + 1, f + 1, a, h, e1, h2, h3 => by
    rw [lst, if_pos (show (code.getD a in0).op = 18 from h3 0 (by omega))]
    exact lst_ends k f (stp code a) (by omega) e1 h2 (fun j hj => h3 (j + 1) (by omega))

/-- All jumps stay within. -/
def In0 (code : List In) : Prop := ∀ a, a < code.length → jmp code a → stp code a < code.length
theorem it_in {code : List In} (h : In0 code) {t : Nat} (ht : t < code.length) : ∀ k, (∀ j, j < k → jmp code (it code j t)) → it code k t < code.length
  | 0, _ => ht
  | k + 1, hj => by
    rw [it_succ]
    exact h _ (it_in h ht k (fun j hj' => hj j (by omega))) (hj k (by omega))

theorem lastF_of {code : List In} (h : In0 code) {t : Nat} (ht : t < code.length) {z : Int} (he : EndOf code t z) : (lastF code t : Int) = if z = -2 then (t : Int) else z := by
  rcases he with ⟨e, rfl, k, h1, h2, h3⟩ | ⟨rfl, hn⟩
  · rw [if_neg (by omega)]
    have hk : k < code.length + 1 := by
      by_cases hk : k < code.length + 1
      · exact hk
      · obtain ⟨i, j, hij, hj, e'⟩ := pigeon code.length (fun i => it code i t) (fun i hi => it_in h ht i (fun j hj => h3 j (by omega)))
        have hn := never_loop hij e'.symm (fun i hi => h3 i (by omega))
        exact absurd (hn (k - j)) (by rw [← it_add, show j + (k - j) = k by omega, h1]; exact h2)
    unfold lastF
    rw [lst_ends k _ t hk h1 h2 h3]
  · rw [if_pos rfl]
    unfold lastF
    rw [lst_never _ _ hn]

/-- An instruction, a function, a program with threaded jumps. -/
def thI (code : List In) (x : In) : In :=
  if 18 ≤ x.op ∧ x.op ≤ 21 then ⟨x.op, (lastF code x.a.toNat : Int), x.b⟩ else if 26 ≤ x.op then ⟨x.op, x.a, (lastF code x.b.toNat : Int)⟩ else x
def thP (f : Pr) : Pr := ⟨f.params, f.slots, f.caps, f.code.map (thI f.code)⟩
def thread (p : Pg) : Pg := ⟨p.consts, p.protos.map thP⟩
def pg0 : Pg := ⟨[], []⟩
def thAns (b : Bool) (p : Pg) : Pg := if b then thread p else pg0

/-- The table of ends while chains are followed: known, or not yet come to. -/
def Tab (code : List In) (E : List Int) : Prop := E.length = code.length ∧ ∀ a, a < code.length → E.getD a (-1) = -1 ∨ EndOf code a (E.getD a (-1))
/-- The places passed from s on, m of them. -/
def psd (code : List In) (s m : Nat) : List Nat := (List.range m).map fun j => it code j s
/-- The table while they are passed. -/
structure Pas (code : List In) (E0 E : List Int) (s m : Nat) : Prop where
  len : E.length = code.length
  jmps : ∀ j, j < m → jmp code (it code j s)
  inn : ∀ j, j ≤ m → it code j s < code.length
  here : ∀ j, j < m → E.getD (it code j s) (-1) = -2
  else_ : ∀ a, a < code.length → (∀ j, j < m → it code j s ≠ a) → E.getD a (-1) = E0.getD a (-1)
def free (E : List Int) : Nat := (E.filter (· == -1)).length

theorem getD_set_at {E : List Int} {a : Nat} {z : Int} (h : a < E.length) : (E.set a z).getD a (-1) = z := by
  simp [List.getD_eq_getElem?_getD, List.getElem?_set_self h]
theorem getD_set_off {E : List Int} {a b : Nat} {z : Int} (h : a ≠ b) : (E.set a z).getD b (-1) = E.getD b (-1) := by
  simp [List.getD_eq_getElem?_getD, List.getElem?_set_ne h]
theorem free_set : ∀ (E : List Int) (a : Nat) (z : Int), a < E.length → E.getD a (-1) = -1 → z ≠ -1 → free (E.set a z) + 1 = free E
  | [], a, z, h, _, _ => absurd h (by simp)
  | x :: E, 0, z, _, hx, hz => by
    have : x = -1 := by simpa using hx
    subst this
    have : (z == -1) = false := by simpa using hz
    simp [free, this]
  | x :: E, a + 1, z, h, hx, hz => by
    have ih := free_set E a z (by simpa using h) (by simpa using hx) hz
    unfold free at *
    simp only [List.set_cons_succ, List.filter_cons]
    split <;> first | omega | (simp only [List.length_cons]; omega)

theorem pas_start {code : List In} {E : List Int} {s : Nat} (h : Tab code E) (hs : s < code.length) : Pas code E E s 0 :=
  ⟨h.1, fun j hj => absurd hj (by omega), fun j hj => by have : j = 0 := by omega
                                                         subst this; exact hs, fun j hj => absurd hj (by omega), fun _ _ _ => rfl⟩
theorem pas_step {code : List In} {E0 E : List Int} {s m : Nat} (h : Pas code E0 E s m) (h0 : In0 code) (hE : E.getD (it code m s) (-1) = -1) (hj : jmp code (it code m s)) : Pas code E0 (E.set (it code m s) (-2)) s (m + 1) := by
  have hat := h.inn m (Nat.le_refl _)
  have hne : ∀ j, j < m → it code j s ≠ it code m s := fun j hj e => by
    have := h.here j hj
    rw [e, hE] at this
    omega
  refine ⟨by rw [List.length_set]; exact h.len, fun j hj' => ?_, fun j hj' => ?_, fun j hj' => ?_, fun a ha hx => ?_⟩
  · by_cases e : j = m
    · rw [e]; exact hj
    · exact h.jmps j (by omega)
  · by_cases e : j = m + 1
    · rw [e, it_succ]; exact h0 _ hat hj
    · exact h.inn j (by omega)
  · by_cases e : j = m
    · rw [e, getD_set_at (by rw [h.len]; exact hat)]
    · rw [getD_set_off (hne j (by omega)).symm]; exact h.here j (by omega)
  · rw [getD_set_off (hx m (by omega))]
    exact h.else_ a ha (fun j hj => hx j (by omega))

theorem endOf_ne {code : List In} {a : Nat} {z : Int} (h : EndOf code a z) : z ≠ -1 := by
  rcases h with ⟨e, rfl, _⟩ | ⟨rfl, _⟩ <;> omega
/-- Where the passing ends at a jump whose end is known. -/
theorem pas_known {code : List In} {E0 E : List Int} {s m : Nat} (h : Pas code E0 E s m) (ht : Tab code E0) (hE : E.getD (it code m s) (-1) ≠ -1) : EndOf code (it code m s) (E.getD (it code m s) (-1)) := by
  by_cases hx : ∃ i, i < m ∧ it code i s = it code m s
  · obtain ⟨i, hi, e⟩ := hx
    rw [← e, h.here i hi, e]
    exact .inr ⟨rfl, never_loop hi e.symm h.jmps⟩
  · have e := h.else_ _ (h.inn m (Nat.le_refl _)) (fun j hj e => hx ⟨j, hj, e⟩)
    rw [e] at hE ⊢
    rcases ht.2 _ (h.inn m (Nat.le_refl _)) with h' | h'
    · exact absurd h' hE
    · exact h'
/-- The table when the ends of all that was passed are laid. -/
theorem pas_end {code : List In} {E0 E E2 : List Int} {s m : Nat} {z : Int} (h : Pas code E0 E s m) (ht : Tab code E0) (he : EndOf code (it code m s) z) (hl : E2.length = code.length)
    (h1 : ∀ j, j < m → E2.getD (it code j s) (-1) = z) (h2 : ∀ a, a < code.length → (∀ j, j < m → it code j s ≠ a) → E2.getD a (-1) = E0.getD a (-1) ∨ (a = it code m s ∧ E2.getD a (-1) = z)) (h3 : E2.getD (it code m s) (-1) = z) :
    Tab code E2 ∧ (∀ a, a < code.length → E0.getD a (-1) ≠ -1 → E2.getD a (-1) ≠ -1) ∧ E2.getD s (-1) ≠ -1 := by
  have key : ∀ a, a < code.length → (∃ j, j < m ∧ it code j s = a) ∨ ∀ j, j < m → it code j s ≠ a := fun a _ => by
    by_cases hx : ∃ j, j < m ∧ it code j s = a
    · exact .inl hx
    · exact .inr (fun j hj e => hx ⟨j, hj, e⟩)
  refine ⟨⟨hl, fun a ha => ?_⟩, fun a ha hn => ?_, ?_⟩
  · rcases key a ha with ⟨j, hj, rfl⟩ | hx
    · right; rw [h1 j hj]; exact endOf_chain m h.jmps he j hj
    · rcases h2 a ha hx with e | ⟨e, e'⟩
      · rw [e]; exact ht.2 a ha
      · right; rw [e', e]; exact he
  · rcases key a ha with ⟨j, hj, rfl⟩ | hx
    · rw [h1 j hj]; exact endOf_ne he
    · rcases h2 a ha hx with e | ⟨_, e'⟩
      · rw [e]; exact hn
      · rw [e']; exact endOf_ne he
  · cases m with
    | zero => rw [show s = it code 0 s from rfl, h3]; exact endOf_ne he
    | succ m => rw [show s = it code 0 s from rfl, h1 0 (by omega)]; exact endOf_ne he

/-- The table while the ends are laid, for the first k of those passed. -/
structure Lay (code : List In) (E1 E : List Int) (s m k : Nat) (z : Int) : Prop where
  len : E.length = code.length
  here : ∀ j, j < k → E.getD (it code j s) (-1) = z
  else_ : ∀ a, a < code.length → (∀ j, j < k → it code j s ≠ a) → E.getD a (-1) = E1.getD a (-1)
theorem lay_start {code : List In} {E : List Int} {s m : Nat} {z : Int} (h : E.length = code.length) : Lay code E E s m 0 z := ⟨h, fun j hj => absurd hj (by omega), fun _ _ _ => rfl⟩
theorem lay_step {code : List In} {E1 E : List Int} {s m k : Nat} {z : Int} (h : Lay code E1 E s m k z) (hin : it code k s < code.length) : Lay code E1 (E.set (it code k s) z) s m (k + 1) z := by
  refine ⟨by rw [List.length_set]; exact h.len, fun j hj => ?_, fun a ha hx => ?_⟩
  · by_cases e : it code k s = it code j s
    · rw [← e, getD_set_at (by rw [h.len]; exact hin)]
    · rw [getD_set_off e]
      exact h.here j (by
        by_cases e' : j = k
        · subst e'; exact absurd rfl e
        · omega)
  · rw [getD_set_off (hx k (by omega))]
    exact h.else_ a ha (fun j hj => hx j (by omega))
theorem lay_at {code : List In} {E1 E : List Int} {s m k : Nat} {z : Int} (h : Lay code E1 E s m k z) (hin : it code m s < code.length) (h1 : E1.getD (it code m s) (-1) = z) : E.getD (it code m s) (-1) = z := by
  by_cases hx : ∃ j, j < k ∧ it code j s = it code m s
  · obtain ⟨j, hj, e⟩ := hx
    rw [← e]; exact h.here j hj
  · rw [h.else_ _ hin (fun j hj e => hx ⟨j, hj, e⟩), h1]
end Go.Proofs.YteagakplhfiodaaDoor.th
