import Derived.Test.YteagakplhfiodaaDoorPgLists
namespace Go.Proofs.YteagakplhfiodaaDoor.chk
open Go.Proofs.YteagakplhfiodaaDoor.pg

/-- A place gets a number of operands: none where another one is there, or no place. -/
def reach (hs : List Int) (t : List Nat) (a : Nat) (n : Int) : Option (List Int × List Nat) :=
  if a < hs.length then (if hs.getD a (-1) < 0 then some (hs.set a n, t ++ [a]) else if hs.getD a (-1) = n then some (hs, t) else none) else none

/-- The ways on from a place, one after the other. -/
def reachAll : List Int → List Nat → List (Nat × Int) → Option (List Int × List Nat)
  | hs, t, [] => some (hs, t)
  | hs, t, e :: es => match reach hs t e.1 e.2 with
    | none => none
    | some (hs', t') => reachAll hs' t' es

/-- The numbers are such that all ways agree. -/
def IsGood (su : Nat → Int → Option (List (Nat × Int))) (N : Nat) (H : List Int) : Prop :=
  H.length = N ∧ H.getD 0 (-1) = 0 ∧ ∀ a, a < N → 0 ≤ H.getD a (-1) → ∃ es, su a (H.getD a (-1)) = some es ∧ ∀ e ∈ es, e.1 < N ∧ H.getD e.1 (-1) = e.2

def Good (su : Nat → Int → Option (List (Nat × Int))) (N : Nat) : Prop := ∃ H, IsGood su N H

/-- What holds between two rounds. -/
structure Inv (su : Nat → Int → Option (List (Nat × Int))) (N : Nat) (hs : List Int) (t : List Nat) : Prop where
  len : hs.length = N
  zero : hs.getD 0 (-1) = 0
  todo : ∀ x ∈ t, x < N ∧ 0 ≤ hs.getD x (-1)
  shut : ∀ a, a < N → 0 ≤ hs.getD a (-1) → a ∈ t ∨ ∃ es, su a (hs.getD a (-1)) = some es ∧ ∀ e ∈ es, e.1 < N ∧ hs.getD e.1 (-1) = e.2
  all : ∀ H, IsGood su N H → ∀ a, a < N → 0 ≤ hs.getD a (-1) → H.getD a (-1) = hs.getD a (-1)
  top : ∀ a, -1 ≤ hs.getD a (-1) ∧ hs.getD a (-1) ≤ 300

theorem getD_set_self {l : List Int} {i : Nat} {v : Int} (h : i < l.length) : (l.set i v).getD i (-1) = v := by
  simp [List.getD_eq_getElem?_getD, h]
theorem getD_set_ne {l : List Int} {i j : Nat} {v : Int} (h : i ≠ j) : (l.set i v).getD j (-1) = l.getD j (-1) := by
  simp [List.getD_eq_getElem?_getD, List.getElem?_set_ne h]

/-- The numbers grew from one state to the other. -/
structure Ext (N : Nat) (hs : List Int) (t : List Nat) (es : List (Nat × Int)) (hs' : List Int) (t' : List Nat) : Prop where
  len : hs'.length = hs.length
  old : ∀ i, 0 ≤ hs.getD i (-1) → hs'.getD i (-1) = hs.getD i (-1)
  sub : ∀ x ∈ t, x ∈ t'
  new : ∀ i, 0 ≤ hs'.getD i (-1) → 0 ≤ hs.getD i (-1) ∨ (i ∈ t' ∧ ∃ e ∈ es, e.1 = i ∧ e.2 = hs'.getD i (-1))
  back : ∀ x ∈ t', x ∈ t ∨ (x < N ∧ 0 ≤ hs'.getD x (-1))
  met : ∀ e ∈ es, e.1 < N ∧ hs'.getD e.1 (-1) = e.2
  top : (∀ a, -1 ≤ hs.getD a (-1) ∧ hs.getD a (-1) ≤ 300) → ∀ a, -1 ≤ hs'.getD a (-1) ∧ hs'.getD a (-1) ≤ 300

theorem reach_ext {N : Nat} {hs hs' : List Int} {t t' : List Nat} {a : Nat} {n : Int} (hl : hs.length = N) (h0 : 0 ≤ n) (h1 : n ≤ 300) (h : reach hs t a n = some (hs', t')) : Ext N hs t [(a, n)] hs' t' := by
  unfold reach at h
  by_cases ha : a < hs.length
  · rw [if_pos ha] at h
    by_cases hn : hs.getD a (-1) < 0
    · rw [if_pos hn] at h
      simp only [Option.some.injEq, Prod.mk.injEq] at h
      obtain ⟨rfl, rfl⟩ := h
      refine ⟨by simp, fun i hi => ?_, fun x hx => by simp [hx], fun i hi => ?_, fun x hx => ?_, fun e he => ?_, fun ht i => ?_⟩
      · rw [getD_set_ne]; intro e; subst e; omega
      · by_cases e : a = i
        · subst e; right; rw [getD_set_self ha]; simp
        · rw [getD_set_ne e] at hi; exact .inl hi
      · rcases List.mem_append.1 hx with h | h
        · exact .inl h
        · simp only [List.mem_singleton] at h; subst h; right; rw [getD_set_self ha]; omega
      · simp only [List.mem_singleton] at he; subst he; exact ⟨by omega, getD_set_self ha⟩
      · by_cases e : a = i
        · subst e; rw [getD_set_self ha]; omega
        · rw [getD_set_ne e]; exact ht i
    · rw [if_neg hn] at h
      by_cases he : hs.getD a (-1) = n
      · rw [if_pos he] at h
        simp only [Option.some.injEq, Prod.mk.injEq] at h
        obtain ⟨rfl, rfl⟩ := h
        refine ⟨rfl, fun i _ => rfl, fun x hx => hx, fun i hi => .inl hi, fun x hx => .inl hx, fun e h => ?_, fun ht => ht⟩
        simp only [List.mem_singleton] at h; subst h; exact ⟨by omega, he⟩
      · rw [if_neg he] at h; cases h
  · rw [if_neg ha] at h; cases h

theorem Ext.trans {N : Nat} {hs hs' hs'' : List Int} {t t' t'' : List Nat} {es fs : List (Nat × Int)} (h : Ext N hs t es hs' t') (k : Ext N hs' t' fs hs'' t'') (h0 : ∀ e ∈ es, 0 ≤ e.2) : Ext N hs t (es ++ fs) hs'' t'' := by
  refine ⟨k.len.trans h.len, fun i hi => ?_, fun x hx => k.sub _ (h.sub _ hx), fun i hi => ?_, fun x hx => ?_, fun e he => ?_, fun ht => k.top (h.top ht)⟩
  · rw [k.old i (by rw [h.old i hi]; exact hi), h.old i hi]
  · rcases k.new i hi with h1 | ⟨h1, e, he, e1, e2⟩
    · rcases h.new i h1 with h2 | ⟨h2, e, he, e1, e2⟩
      · exact .inl h2
      · exact .inr ⟨k.sub _ h2, e, by simp [he], e1, by rw [e2, k.old i h1]⟩
    · exact .inr ⟨h1, e, by simp [he], e1, e2⟩
  · rcases k.back x hx with h1 | h1
    · rcases h.back x h1 with h2 | ⟨h2, h3⟩
      · exact .inl h2
      · exact .inr ⟨h2, by rw [k.old x h3]; exact h3⟩
    · exact .inr h1
  · rcases List.mem_append.1 he with h1 | h1
    · obtain ⟨h2, h3⟩ := h.met e h1
      refine ⟨h2, ?_⟩
      rw [k.old e.1 (by rw [h3]; exact h0 e h1), h3]
    · exact k.met e h1

theorem Ext.refl (N : Nat) (hs : List Int) (t : List Nat) : Ext N hs t [] hs t :=
  ⟨rfl, fun _ _ => rfl, fun _ h => h, fun _ h => .inl h, fun _ h => .inl h, fun e h => (by simp at h), fun h => h⟩

/-- A round that goes through. -/
theorem inv_step {su : Nat → Int → Option (List (Nat × Int))} {N : Nat} {hs hs' : List Int} {t t' : List Nat} {a : Nat} {es : List (Nat × Int)} (pos : ∀ a h es, 0 ≤ h → h ≤ 300 → su a h = some es → ∀ e ∈ es, 0 ≤ e.2 ∧ e.2 ≤ 300) (I : Inv su N hs (t ++ [a]))
    (hsu : su a (hs.getD a (-1)) = some es) (hx : Ext N hs t es hs' t') : Inv su N hs' t' := by
  have hat := I.todo a (by simp)
  refine ⟨hx.len.trans I.len, ?_, fun x h => ?_, fun x hxN h => ?_, fun H hH x hxN h => ?_, hx.top I.top⟩
  · rw [hx.old 0 (by rw [I.zero]; omega), I.zero]
  · rcases hx.back x h with h1 | h1
    · have := I.todo x (by simp [h1])
      exact ⟨this.1, by rw [hx.old x this.2]; exact this.2⟩
    · exact h1
  · rcases hx.new x h with h1 | ⟨h1, _⟩
    · rcases I.shut x hxN h1 with h2 | ⟨fs, h2, h3⟩
      · rcases List.mem_append.1 h2 with h4 | h4
        · exact .inl (hx.sub _ h4)
        · simp only [List.mem_singleton] at h4
          subst h4
          refine .inr ⟨es, ?_, hx.met⟩
          rw [hx.old x h1]; exact hsu
      · refine .inr ⟨fs, by rw [hx.old x h1]; exact h2, fun e he => ?_⟩
        obtain ⟨h4, h5⟩ := h3 e he
        refine ⟨h4, ?_⟩
        by_cases hn : 0 ≤ hs.getD e.1 (-1)
        · rw [hx.old _ hn, h5]
        · exact absurd (h5 ▸ (pos _ _ _ h1 (I.top x).2 h2 e he).1) hn
    · exact .inl h1
  · rcases hx.new x h with h1 | ⟨_, e, he, e1, e2⟩
    · rw [hx.old x h1]; exact I.all H hH x hxN h1
    · obtain ⟨_, _, h3⟩ := hH
      have e4 := I.all H ⟨by assumption, by assumption, h3⟩ a hat.1 hat.2
      obtain ⟨fs, h5, h6⟩ := h3 a hat.1 (by rw [e4]; exact hat.2)
      rw [e4, hsu] at h5
      simp only [Option.some.injEq] at h5
      subst h5
      rw [← e1, (h6 e he).2, e2, e1]

/-- How much is still to be done. -/
def left (hs : List Int) (t : List Nat) : Nat := 2 * (hs.filter (· < 0)).length + t.length

theorem filter_set : ∀ (hs : List Int) (a : Nat) (n : Int), a < hs.length → hs.getD a (-1) < 0 → 0 ≤ n → (hs.set a n |>.filter (· < 0)).length + 1 = (hs.filter (· < 0)).length
  | [], a, n, h, _, _ => by simp at h
  | x :: xs, 0, n, _, hx, hn => by
    have hx' : x < 0 := by simpa using hx
    simp [List.set, hx', show ¬ n < 0 by omega]
  | x :: xs, a + 1, n, h, hx, hn => by
    have := filter_set xs a n (by simpa using h) (by simpa using hx) hn
    simp only [List.set, List.filter_cons]
    split
    · simp only [List.length_cons]; omega
    · exact this

theorem reach_left {hs hs' : List Int} {t t' : List Nat} {a : Nat} {n : Int} (h0 : 0 ≤ n) (h : reach hs t a n = some (hs', t')) : left hs' t' ≤ left hs t := by
  unfold reach at h
  by_cases ha : a < hs.length
  · rw [if_pos ha] at h
    by_cases hn : hs.getD a (-1) < 0
    · rw [if_pos hn] at h
      simp only [Option.some.injEq, Prod.mk.injEq] at h
      obtain ⟨rfl, rfl⟩ := h
      have := filter_set hs a n ha hn h0
      unfold left
      simp only [List.length_append, List.length_singleton]
      omega
    · rw [if_neg hn] at h
      by_cases he : hs.getD a (-1) = n
      · rw [if_pos he] at h
        simp only [Option.some.injEq, Prod.mk.injEq] at h
        obtain ⟨rfl, rfl⟩ := h
        exact Nat.le_refl _
      · rw [if_neg he] at h; cases h
  · rw [if_neg ha] at h; cases h

theorem reach_size {hs hs' : List Int} {t t' : List Nat} {a : Nat} {n : Int} (h : reach hs t a n = some (hs', t')) : hs'.length = hs.length := by
  unfold reach at h
  split at h
  · split at h
    · simp only [Option.some.injEq, Prod.mk.injEq] at h; obtain ⟨rfl, rfl⟩ := h; simp
    · split at h
      · simp only [Option.some.injEq, Prod.mk.injEq] at h; obtain ⟨rfl, rfl⟩ := h; rfl
      · cases h
  · cases h

theorem left_pop (hs : List Int) (t : List Nat) (a : Nat) : left hs (t ++ [a]) = left hs t + 1 := by
  unfold left; simp only [List.length_append, List.length_singleton]; omega

/-- All edges, one after the other. -/
theorem all_ext {N : Nat} : ∀ (es : List (Nat × Int)) {hs hs' : List Int} {t t' : List Nat}, hs.length = N → (∀ e ∈ es, 0 ≤ e.2 ∧ e.2 ≤ 300) → reachAll hs t es = some (hs', t') → Ext N hs t es hs' t' ∧ left hs' t' ≤ left hs t
  | [], hs, hs', t, t', _, _, h => by
    simp only [reachAll, Option.some.injEq, Prod.mk.injEq] at h
    obtain ⟨rfl, rfl⟩ := h
    exact ⟨Ext.refl _ _ _, Nat.le_refl _⟩
  | e :: es, hs, hs', t, t', hl, hb, h => by
    simp only [reachAll] at h
    split at h
    · cases h
    · rename_i h1 t1 hr
      have b := hb e (by simp)
      have x1 := reach_ext hl b.1 b.2 hr
      have l1 := reach_left b.1 hr
      have x2 := all_ext es (x1.len.trans hl) (fun e he => hb e (by simp [he])) h
      exact ⟨x1.trans x2.1 (fun e he => by simp only [List.mem_singleton] at he; subst he; exact b.1), Nat.le_trans x2.2 l1⟩

theorem inv_next {su : Nat → Int → Option (List (Nat × Int))} {N : Nat} {hs hs' : List Int} {t t' : List Nat} {a : Nat} {es : List (Nat × Int)}
    (pos : ∀ a h es, 0 ≤ h → h ≤ 300 → su a h = some es → ∀ e ∈ es, 0 ≤ e.2 ∧ e.2 ≤ 300) (I : Inv su N hs (t ++ [a]))
    (hsu : su a (hs.getD a (-1)) = some es) (hr : reachAll hs t es = some (hs', t')) : Inv su N hs' t' ∧ left hs' t' < left hs (t ++ [a]) := by
  have hat := I.todo a (by simp)
  have hx := all_ext es I.len (pos a _ es hat.2 (I.top a).2 hsu) hr
  refine ⟨inv_step pos I hsu hx.1, ?_⟩
  rw [left_pop]; omega

/-- A good numbering of all stands against no edge. -/
theorem reach_good {N : Nat} {H hs : List Int} {t : List Nat} {a : Nat} {n : Int} (hl : hs.length = N) (ha : a < N) (hH : H.getD a (-1) = n)
    (agree : ∀ x, x < N → 0 ≤ hs.getD x (-1) → H.getD x (-1) = hs.getD x (-1)) : ∃ hs' t', reach hs t a n = some (hs', t') ∧ ∀ x, x < N → 0 ≤ hs'.getD x (-1) → H.getD x (-1) = hs'.getD x (-1) := by
  unfold reach
  rw [if_pos (by omega)]
  by_cases hn : hs.getD a (-1) < 0
  · rw [if_pos hn]
    refine ⟨_, _, rfl, fun x hx h => ?_⟩
    by_cases e : a = x
    · subst e; rw [getD_set_self (by omega), hH]
    · rw [getD_set_ne e] at h ⊢; exact agree x hx h
  · rw [if_neg hn, if_pos (by rw [← agree a ha (by omega), hH])]
    exact ⟨_, _, rfl, agree⟩

theorem all_good {N : Nat} {H : List Int} : ∀ (es : List (Nat × Int)) {hs : List Int} {t : List Nat}, hs.length = N → (∀ e ∈ es, e.1 < N ∧ H.getD e.1 (-1) = e.2) →
    (∀ x, x < N → 0 ≤ hs.getD x (-1) → H.getD x (-1) = hs.getD x (-1)) → reachAll hs t es ≠ none
  | [], hs, t, _, _, _ => by simp [reachAll]
  | e :: es, hs, t, hl, he, ha => by
    obtain ⟨h1, t1, hr, ha1⟩ := reach_good (t := t) hl (he e (by simp)).1 (he e (by simp)).2 ha
    simp only [reachAll, hr]
    exact all_good es (reach_size hr |>.trans hl) (fun e h => he e (by simp [h])) ha1

/-- A round that doesn't go through. -/
theorem inv_bad {su : Nat → Int → Option (List (Nat × Int))} {N : Nat} {hs : List Int} {t : List Nat} {a : Nat} (I : Inv su N hs (t ++ [a]))
    (h : ∀ es, su a (hs.getD a (-1)) = some es → reachAll hs t es = none) : ¬ Good su N := by
  rintro ⟨H, hH⟩
  have hat := I.todo a (by simp)
  have e := I.all H hH a hat.1 hat.2
  obtain ⟨es, h1, h2⟩ := hH.2.2 a hat.1 (by rw [e]; exact hat.2)
  rw [e] at h1
  exact all_good es I.len h2 (fun x hx h0 => I.all H hH x hx h0) (h es h1)

theorem inv_end {su : Nat → Int → Option (List (Nat × Int))} {N : Nat} {hs : List Int} (I : Inv su N hs []) : Good su N :=
  ⟨hs, I.len, I.zero, fun a ha h => (I.shut a ha h).resolve_left (by simp)⟩

theorem inv_start {su : Nat → Int → Option (List (Nat × Int))} {N : Nat} (hN : 0 < N) : Inv su N ((List.replicate N (-1)).set 0 0) [0] := by
  have g : ∀ i, 0 ≤ ((List.replicate N (-1 : Int)).set 0 0).getD i (-1) → i = 0 := by
    intro i h
    by_cases e : 0 = i
    · exact e.symm
    · rw [getD_set_ne e] at h
      simp only [List.getD_eq_getElem?_getD, List.getElem?_replicate] at h
      split at h <;> simp at h
  refine ⟨by simp, getD_set_self (by simpa using hN), fun x hx => ?_, fun a _ h => ?_, fun H hH a _ h => ?_, fun a => ?_⟩
  · simp only [List.mem_singleton] at hx; subst hx; rw [getD_set_self (by simpa using hN)]; omega
  · rw [g a h]; simp
  · rw [g a h, getD_set_self (by simpa using hN)]; exact hH.2.1
  · by_cases e : 0 = a
    · subst e; rw [getD_set_self (by simpa using hN)]; omega
    · rw [getD_set_ne e]
      simp only [List.getD_eq_getElem?_getD, List.getElem?_replicate]
      split <;> simp

/-- The table of instructions: what A and B are, how many operands are taken and left. -/
def shA (op : Nat) : Nat := [1, 0, 0, 0, 2, 3, 3, 3, 5, 5, 6, 0, 0, 0, 0, 7, 0, 0, 9, 9, 9, 9, 8, 8, 8, 0, 4, 4].getD op 0
def shB (op : Nat) : Nat := [0, 0, 0, 0, 0, 0, 0, 0, 0, 0, 0, 0, 0, 0, 0, 0, 0, 0, 0, 0, 0, 0, 8, 0, 0, 0, 9, 9].getD op 0
def tk (op : Nat) : Int := [0, 0, 0, 0, 0, 0, 1, 1, 0, 1, 0, 0, 3, 2, 3, 2, 1, 1, 0, 1, 1, 1, 1, 1, 0, 1, 0, 0].getD op 0
def lv (op : Nat) : Int := [1, 1, 1, 1, 1, 1, 0, 0, 1, 0, 1, 1, 1, 1, 0, 1, 1, 1, 0, 0, 0, 0, 0, 0, 0, 0, 0, 0].getD op 0

/-- One behind the greatest number that stands for something of this make. -/
def top (nk np : Nat) (slots : Int) (nc nd : Nat) (u : Nat) : Int :=
  if u = 0 then 1 else if u = 1 then (nk : Int) else if u = 2 then 10 else if u = 3 then slots else if u = 4 then slots - 2 else if u = 5 then (nc : Int) else if u = 6 then (np : Int) else if u = 7 then 12 else if u = 8 then 51 else (nd : Int)
def low (u : Nat) : Int := if u = 6 then 1 else 0
def kn (nk np : Nat) (slots : Int) (nc nd : Nat) (u : Nat) (v : Int) : Bool := decide (low u ≤ v) && decide (v < top nk np slots nc nd u)
/-- The same of a function in a program. -/
def knows (p : Pg) (f : Pr) (u : Nat) (v : Int) : Bool := kn p.consts.length p.protos.length f.slots f.caps.length f.code.length u v

def capOK (f : Pr) (c : Cp) : Bool := if c.up then decide (c.index < (f.caps.length : Int)) else decide (c.index < f.slots)
def insOK (p : Pg) (f : Pr) (x : In) : Bool :=
  decide (0 ≤ x.op) && (decide (x.op ≤ 27) && (knows p f (shA x.op.toNat) x.a && (knows p f (shB x.op.toNat) x.b && (if x.op = 10 then (p.protos.getD x.a.toNat pr0).caps.all (capOK f) else true))))

/-- What an instruction takes, and leaves where it goes on. -/
def tkI (x : In) : Int := if x.op = 22 ∨ x.op = 23 ∨ x.op = 24 then tk x.op.toNat + x.a else tk x.op.toNat
def lvI (x : In) : Int := if x.op = 22 then x.b else lv x.op.toNat

def nxt (x : In) (at_ : Nat) (n : Int) : List (Nat × Int) := if x.op = 18 ∨ x.op = 23 ∨ x.op = 24 then [] else [(at_ + 1, n + lvI x)]
def tgt (x : In) (n : Int) : List (Nat × Int) :=
  if x.op = 18 ∨ x.op = 19 then [(x.a.toNat, n)] else if x.op = 20 ∨ x.op = 21 then [(x.a.toNat, n + 1)] else if x.op = 26 ∨ x.op = 27 then [(x.b.toNat, n)] else []
/-- The ways on, the next instruction first, and the target first. -/
def suN (code : List In) (at_ : Nat) (h : Int) : Option (List (Nat × Int)) :=
  if h - tkI (code.getD at_ in0) < 0 ∨ 300 < h - tkI (code.getD at_ in0) + lvI (code.getD at_ in0) then none
  else some (nxt (code.getD at_ in0) at_ (h - tkI (code.getD at_ in0)) ++ tgt (code.getD at_ in0) (h - tkI (code.getD at_ in0)))
def suT (code : List In) (at_ : Nat) (h : Int) : Option (List (Nat × Int)) :=
  if h - tkI (code.getD at_ in0) < 0 ∨ 300 < h - tkI (code.getD at_ in0) + lvI (code.getD at_ in0) then none
  else some (tgt (code.getD at_ in0) (h - tkI (code.getD at_ in0)) ++ nxt (code.getD at_ in0) at_ (h - tkI (code.getD at_ in0)))

theorem good_same (code : List In) (N : Nat) : Good (suT code) N ↔ Good (suN code) N := by
  unfold Good IsGood suT suN
  constructor
  all_goals
    rintro ⟨H, h1, h2, h3⟩
    refine ⟨H, h1, h2, fun a ha h0 => ?_⟩
    obtain ⟨es, he, hx⟩ := h3 a ha h0
    by_cases hc : H.getD a (-1) - tkI (code.getD a in0) < 0 ∨ 300 < H.getD a (-1) - tkI (code.getD a in0) + lvI (code.getD a in0)
    · rw [if_pos hc] at he; cases he
    · rw [if_neg hc] at he ⊢
      simp only [Option.some.injEq] at he
      subst he
      refine ⟨_, rfl, fun e he => hx e ?_⟩
      simp only [List.mem_append] at he ⊢
      exact he.symm

/-- What is known of an instruction that is all right. -/
structure XOk (N : Nat) (x : In) : Prop where
  lo : 0 ≤ x.op
  hi : x.op ≤ 27
  jmp : 18 ≤ x.op → x.op ≤ 21 → 0 ≤ x.a ∧ x.a < (N : Int)
  cnt : 22 ≤ x.op → x.op ≤ 24 → 0 ≤ x.a ∧ x.a ≤ 50
  res : x.op = 22 → 0 ≤ x.b ∧ x.b ≤ 50
  loop : 26 ≤ x.op → 0 ≤ x.b ∧ x.b < (N : Int)

theorem knows_at {p : Pg} {f : Pr} {u : Nat} {v : Int} (h : knows p f u v = true) : low u ≤ v ∧ v < top p.consts.length p.protos.length f.slots f.caps.length f.code.length u := by
  unfold knows kn at h
  simpa using h

theorem op_cases {z : Int} (h0 : 0 ≤ z) (h1 : z ≤ 27) : ∃ n : Nat, n < 28 ∧ z = (n : Int) := ⟨z.toNat, by omega, by omega⟩

theorem insOK_ok {p : Pg} {f : Pr} {x : In} (h : insOK p f x = true) : XOk f.code.length x := by
  unfold insOK at h
  simp only [Bool.and_eq_true, decide_eq_true_eq] at h
  obtain ⟨h0, h1, hA, hB, _⟩ := h
  replace hA := knows_at hA
  replace hB := knows_at hB
  refine ⟨h0, h1, fun a b => ?_, fun a b => ?_, fun a => ?_, fun a => ?_⟩
  · have e : x.op = 18 ∨ x.op = 19 ∨ x.op = 20 ∨ x.op = 21 := by omega
    rcases e with e | e | e | e <;> (rw [e] at hA; exact ⟨hA.1, hA.2⟩)
  · have e : x.op = 22 ∨ x.op = 23 ∨ x.op = 24 := by omega
    rcases e with e | e | e <;> (rw [e] at hA; exact ⟨hA.1, Int.lt_add_one_iff.1 hA.2⟩)
  · rw [a] at hB; exact ⟨hB.1, Int.lt_add_one_iff.1 hB.2⟩
  · have e : x.op = 26 ∨ x.op = 27 := by omega
    rcases e with e | e <;> (rw [e] at hB; exact ⟨hB.1, hB.2⟩)

theorem xok0 (N : Nat) : XOk N in0 := ⟨by decide, by decide, by simp [in0], by simp [in0], by simp [in0], by simp [in0]⟩
theorem getD_ge {α : Type} {l : List α} {i : Nat} {d : α} (h : ¬ i < l.length) : l.getD i d = d := by
  rw [List.getD_eq_getElem?_getD, List.getElem?_eq_none (by omega)]; rfl
theorem tk_ge (n : Nat) (h : n < 28) : 0 ≤ tk n ∧ tk n ≤ 3 ∧ 0 ≤ lv n ∧ lv n ≤ 1 := by
  have : n ∈ List.range 28 := List.mem_range.2 h
  revert n
  decide
theorem tk_and {n : Nat} (h : n = 20 ∨ n = 21) : tk n = 1 := by rcases h with rfl | rfl <;> rfl
theorem XOk.takes {N : Nat} {x : In} (h : XOk N x) : 0 ≤ tkI x ∧ tkI x ≤ 53 ∧ 0 ≤ lvI x ∧ lvI x ≤ 50 := by
  have t := tk_ge x.op.toNat (by have := h.lo; have := h.hi; omega)
  unfold tkI lvI
  have := h.cnt
  have := h.res
  split <;> split <;> omega

theorem xok_any {code : List In} {N : Nat} (hok : ∀ i, i < code.length → XOk N (code.getD i in0)) (i : Nat) : XOk N (code.getD i in0) := by
  by_cases h : i < code.length
  · exact hok i h
  · rw [getD_ge h]; exact xok0 N

theorem su_pos {code : List In} {N : Nat} (hok : ∀ i, i < code.length → XOk N (code.getD i in0)) :
    ∀ a h es, 0 ≤ h → h ≤ 300 → suN code a h = some es → ∀ e ∈ es, 0 ≤ e.2 ∧ e.2 ≤ 300 := by
  intro a h es h0 h1 hs e he
  have x := xok_any hok a
  unfold suN at hs
  generalize code.getD a in0 = d at hs x
  have t := x.takes
  split at hs
  · cases hs
  · rename_i hn
    simp only [Option.some.injEq] at hs
    subst hs
    rcases List.mem_append.1 he with h | h
    · unfold nxt at h
      split at h
      · simp at h
      · simp only [List.mem_singleton] at h; subst h; simp only; omega
    · unfold tgt at h
      split at h
      · simp only [List.mem_singleton] at h; subst h; simp only; omega
      · split at h
        · rename_i _ ho
          simp only [List.mem_singleton] at h; subst h; simp only
          have e1 : tkI d = 1 := by
            unfold tkI
            rw [if_neg (by omega)]
            exact tk_and (by omega)
          omega
        · split at h
          · simp only [List.mem_singleton] at h; subst h; simp only; omega
          · simp at h

theorem suT_pos {code : List In} {N : Nat} (hok : ∀ i, i < code.length → XOk N (code.getD i in0)) :
    ∀ a h es, 0 ≤ h → h ≤ 300 → suT code a h = some es → ∀ e ∈ es, 0 ≤ e.2 ∧ e.2 ≤ 300 := by
  intro a h es h0 h1 hs e he
  unfold suT at hs
  split at hs
  · cases hs
  · rename_i hn
    simp only [Option.some.injEq] at hs
    subst hs
    refine su_pos hok a h _ h0 h1 (by unfold suN; rw [if_neg hn]) e ?_
    simp only [List.mem_append] at he ⊢
    exact he.symm

/-- What the bounds of a program, its code aside, ask. -/
def FitsK (c : Cn) : Prop := c.text.length ≤ 5000 ∧ (c.isText = true → c.n = 0) ∧ (c.isText = false → c.text.length = 0)
def FitsP (f : Pr) : Prop := 0 ≤ f.params ∧ f.params ≤ f.slots ∧ f.slots ≤ 200 ∧ f.caps.length ≤ 100 ∧ 0 < f.code.length ∧ ∀ i, i < f.caps.length → 0 ≤ (f.caps.getD i cp0).index ∧ (f.caps.getD i cp0).index < 200
def codes (l : List Pr) (k : Nat) : Nat := ((l.take k).map fun f => f.code.length).sum
def Fits (p : Pg) : Prop :=
  (1 ≤ p.protos.length ∧ p.protos.length ≤ 500 ∧ p.consts.length ≤ 20000) ∧ (∀ i, i < p.consts.length → FitsK (p.consts.getD i cn0)) ∧ (∀ i, i < p.protos.length → FitsP (p.protos.getD i pr0)) ∧
  codes p.protos p.protos.length ≤ 20000 ∧ (p.protos.getD 0 pr0).params = 0 ∧ (p.protos.getD 0 pr0).caps.length = 0
def FnOk (p : Pg) (f : Pr) : Prop := (∀ i, i < f.code.length → insOK p f (f.code.getD i in0) = true) ∧ Good (suN f.code) f.code.length
/-- A sound program. -/
def Sound (p : Pg) : Prop := Fits p ∧ ∀ i, i < p.protos.length → FnOk p (p.protos.getD i pr0)
end Go.Proofs.YteagakplhfiodaaDoor.chk
