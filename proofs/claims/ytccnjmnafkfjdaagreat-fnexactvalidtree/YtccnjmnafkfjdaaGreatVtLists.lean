import Derived.Test.YtccnjmnafkfjdaaGreatNodeLists
namespace Go.Proofs.YtccnjmnafkfjdaaGreat.vt
open Go.RowKit Go.Proofs.YtccnjmnafkfjdaaGreat.bts Go.Proofs.YtccnjmnafkfjdaaGreat.nod

def cnt (l : List Nd) (i : Nat) : Int := (l.getD i nd0).count
/-- f done c times, one behind the other. -/
def loopN (f : Nat → Option Nat) : Nat → Nat → Option Nat
  | 0, p => some p
  | c + 1, p => match f p with
    | none => none
    | some m => loopN f c m
/-- The place behind the node at i with all that is below it. -/
def endAt (l : List Nd) : Nat → Nat → Option Nat
  | 0, _ => none
  | d + 1, i => if i < l.length ∧ 0 ≤ cnt l i ∧ cnt l i ≤ (l.length : Int) then loopN (endAt l d) (cnt l i).toNat (i + 1) else none

theorem loopN_none {f : Nat → Option Nat} {c p : Nat} (h : f p = none) : loopN f (c + 1) p = none := by rw [loopN, h]
theorem loopN_some {f : Nat → Option Nat} {c p m : Nat} (h : f p = some m) : loopN f (c + 1) p = loopN f c m := by rw [loopN, h]
theorem loopN_mono {f g : Nat → Option Nat} (h : ∀ i e, f i = some e → g i = some e) : ∀ {c p e : Nat}, loopN f c p = some e → loopN g c p = some e := by
  intro c
  induction c with
  | zero => intro p e h1; exact h1
  | succ c ih =>
    intro p e h1
    cases hf : f p with
    | none => rw [loopN_none hf] at h1; cases h1
    | some m => rw [loopN_some hf] at h1; rw [loopN_some (h _ _ hf)]; exact ih h1
theorem endAt_step {l : List Nd} {d i e : Nat} (h : endAt l (d + 1) i = some e) : (i < l.length ∧ 0 ≤ cnt l i ∧ cnt l i ≤ (l.length : Int)) ∧ loopN (endAt l d) (cnt l i).toNat (i + 1) = some e := by
  rw [endAt] at h
  split at h
  · rename_i hc; exact ⟨hc, h⟩
  · cases h
theorem endAt_pos {l : List Nd} {d i e : Nat} (h : endAt l d i = some e) : ∃ d', d = d' + 1 := by
  cases d with
  | zero => cases h
  | succ d => exact ⟨d, rfl⟩
theorem endAt_mono1 (l : List Nd) : ∀ (d i e : Nat), endAt l d i = some e → endAt l (d + 1) i = some e := by
  intro d
  induction d with
  | zero => intro i e h; cases h
  | succ d ih =>
    intro i e h
    obtain ⟨hc, hl⟩ := endAt_step h
    rw [endAt, if_pos hc]
    exact loopN_mono ih hl
theorem endAt_mono {l : List Nd} {d i e : Nat} (h : endAt l d i = some e) : ∀ k, endAt l (d + k) i = some e
  | 0 => h
  | k + 1 => endAt_mono1 l (d + k) i e (endAt_mono h k)
theorem endAt_le {l : List Nd} {d d' i e : Nat} (h : endAt l d i = some e) (hd : d ≤ d') : endAt l d' i = some e := by
  have := endAt_mono h (d' - d)
  rwa [show d + (d' - d) = d' by omega] at this
theorem loopN_bd {l : List Nd} {f : Nat → Option Nat} (h : ∀ i e, f i = some e → i < e ∧ e ≤ l.length) : ∀ {c p e : Nat}, p ≤ l.length → loopN f c p = some e → p + c ≤ e ∧ e ≤ l.length := by
  intro c
  induction c with
  | zero => intro p e hp h1; rw [loopN] at h1; simp only [Option.some.injEq] at h1; omega
  | succ c ih =>
    intro p e hp h1
    cases hf : f p with
    | none => rw [loopN_none hf] at h1; cases h1
    | some m =>
      rw [loopN_some hf] at h1
      have a := h _ _ hf
      have b := ih a.2 h1
      omega
theorem endAt_bd {l : List Nd} : ∀ {d i e : Nat}, endAt l d i = some e → i < e ∧ e ≤ l.length := by
  intro d
  induction d with
  | zero => intro i e h; cases h
  | succ d ih =>
    intro i e h
    obtain ⟨hc, hl⟩ := endAt_step h
    have := loopN_bd (fun i e h => ih h) (by omega) hl
    omega
theorem loopN_add {f : Nat → Option Nat} : ∀ {a b p m e : Nat}, loopN f a p = some m → loopN f b m = some e → loopN f (a + b) p = some e := by
  intro a
  induction a with
  | zero => intro b p m e h1 h2; rw [loopN] at h1; simp only [Option.some.injEq] at h1; subst h1; rw [Nat.zero_add]; exact h2
  | succ a ih =>
    intro b p m e h1 h2
    cases hf : f p with
    | none => rw [loopN_none hf] at h1; cases h1
    | some m' =>
      rw [loopN_some hf] at h1
      rw [show a + 1 + b = (a + b) + 1 by omega, loopN_some hf]
      exact ih h1 h2
/-- One node of a row of trees is opened. -/
theorem open_one {l : List Nd} {D o p e : Nat} (h : loopN (endAt l D) (o + 1) p = some e) : p < l.length ∧ 0 ≤ cnt l p ∧ cnt l p ≤ (l.length : Int) ∧ loopN (endAt l D) ((cnt l p).toNat + o) (p + 1) = some e := by
  cases hf : endAt l D p with
  | none => rw [loopN_none hf] at h; cases h
  | some m =>
    rw [loopN_some hf] at h
    obtain ⟨d, rfl⟩ := endAt_pos hf
    obtain ⟨hc, hl⟩ := endAt_step hf
    exact ⟨hc.1, hc.2.1, hc.2.2, loopN_add (loopN_mono (endAt_mono1 l d) hl) h⟩
def endI : Option Nat → Int
  | none => -1
  | some m => (m : Int)

/-- The place behind a node. -/
def nx (l : List Nd) (i : Nat) : Nat := (endAt l 200 i).getD 0
/-- The places of c nodes one behind the other. -/
def kidsL (l : List Nd) : Nat → Nat → List Nat
  | 0, _ => []
  | c + 1, p => p :: kidsL l c (nx l p)
theorem kidsL_len (l : List Nd) : ∀ (c p : Nat), (kidsL l c p).length = c
  | 0, _ => rfl
  | c + 1, p => by rw [kidsL, List.length_cons, kidsL_len l c]
end Go.Proofs.YtccnjmnafkfjdaaGreat.vt
