import Derived.Test.YteagakplhfiodaaDoorChkImplA
namespace Go.Proofs.YteagakplhfiodaaDoor.chk
open Go.RowKit Go.Proofs.YteagakplhfiodaaDoor.bts Go.Proofs.YteagakplhfiodaaDoor.pg

/-- An instruction in a block. -/
def InB (w : World) (g : Nat) (x : In) : Prop := w.cell? ⟨g, 0, none⟩ = some (.int .i64 x.op) ∧ w.cell? ⟨g, 1, none⟩ = some (.int .i64 x.a) ∧ w.cell? ⟨g, 2, none⟩ = some (.int .i64 x.b)
def tptr (g : Nat) (x : In) : Value := if 18 ≤ x.op ∧ x.op ≤ 21 then .pointer (some ⟨g, 1, none⟩) else if 26 ≤ x.op then .pointer (some ⟨g, 2, none⟩) else .pointer none

theorem sh9 (n : Nat) (h : n < 28) : (shA n = 9 ↔ 18 ≤ n ∧ n ≤ 21) ∧ (shB n = 9 ↔ 26 ≤ n) := by
  revert n; decide

set_option maxRecDepth 100000 in
set_option maxHeartbeats 2000000 in
theorem moves_any (g N : Nat) (x : In) (hx : XOk N x) (w : World) (hS : Shp w) (hI : InB w g x) :
    Calls Tryd.prog 72 #[.pointer (some ⟨g, 0, none⟩)] w fun e w' => e = .returned (.tuple #[.int .i64 (tkI x), .int .i64 (lvI x)]) ∧ Below w.heap.size w w' := by
  obtain ⟨op, hop, eop⟩ := op_cases hx.lo hx.hi
  obtain ⟨s0, s1, s2, s3⟩ := hS op hop
  obtain ⟨c0, c1, c2⟩ := hI
  have hcnt := hx.cnt
  have hres := hx.res
  have ht := tk_ge op hop
  have hT : tkI x = if x.op = 22 ∨ x.op = 23 ∨ x.op = 24 then tk op + x.a else tk op := by unfold tkI; rw [eop]; rfl
  have hL : lvI x = if x.op = 22 then x.b else lv op := by unfold lvI; rw [eop]; rfl
  have hlv : (x.op = 23 ∨ x.op = 24) → lv op = 0 := by
    intro h
    have : op = 23 ∨ op = 24 := by omega
    rcases this with rfl | rfl <;> rfl
  rw [hT, hL]
  generalize tk op = t at *
  generalize lv op = l at *
  generalize ((shA op : Nat) : Int) = sa at s0
  generalize ((shB op : Nat) : Int) = sb at s1
  obtain ⟨xo, xa, xb⟩ := x
  simp only at *
  clear hT hL hx
  subst eop
  have ho' : (op : Int) < 28 := by omega
  have hz := World.block_lt_of_cell? _ _ s0
  have hg := World.block_lt_of_cell? _ _ c0
  have k0 := cellOld (o := .cells #[.int .i64 sa, .int .i64 sb, .int .i64 t, .int .i64 l] 115) c0
  have k1 := cellOld (o := .cells #[.int .i64 sa, .int .i64 sb, .int .i64 t, .int .i64 l] 115) c1
  have k2 := cellOld (o := .cells #[.int .i64 sa, .int .i64 sb, .int .i64 t, .int .i64 l] 115) c2
  by_cases h22 : (op : Int) = 22
  · rw [if_pos (.inl h22), if_pos h22]
    have := hcnt (by omega) (by omega)
    have := hres h22
    have o22 : ((op : Int) == 22) = true := by simpa using h22
    clear hcnt hres hlv h22
    go_enter Tryd.func72, Tryd.ntmps72
    go_wp2
    first
      | (go_returns
         exact ⟨rfl, by go_grown⟩)
      | (go_quiet (fail)
         go_wp2
         go_returns
         exact ⟨rfl, bel_drewN (by go_grown) _⟩)
  have o22 : ((op : Int) == 22) = false := by simp; omega
  by_cases h23 : (op : Int) = 23 ∨ (op : Int) = 24
  · rw [if_pos (.inr h23), if_neg h22]
    have := hcnt (by omega) (by omega)
    have hl0 := hlv h23
    have HL0 : Hid (l = 0) := hl0
    have o23 : ((op : Int) == 23) = true ∨ ((op : Int) == 23) = false ∧ ((op : Int) == 24) = true := by
      rcases h23 with h | h
      · left; simpa using h
      · right; rw [h]; decide
    clear hcnt hres hlv h22 h23 hl0
    rcases o23 with o23 | ⟨o23, o24⟩
    all_goals
      go_enter Tryd.func72, Tryd.ntmps72
      go_wp2
      first
        | (go_returns
           exact ⟨by rw [HL0.out]; rfl, by go_grown⟩)
        | (go_quiet (fail)
           go_wp2
           go_returns
           exact ⟨by rw [HL0.out]; rfl, bel_drewN (by go_grown) _⟩)
  have o23 : ((op : Int) == 23) = false := by simp; omega
  have o24 : ((op : Int) == 24) = false := by simp; omega
  rw [if_neg (by omega), if_neg h22]
  clear hcnt hres hlv h22 h23
  go_enter Tryd.func72, Tryd.ntmps72
  go_wp2
  first
    | (go_returns
       exact ⟨rfl, by go_grown⟩)
    | (go_quiet (fail)
       go_wp2
       go_returns
       exact ⟨rfl, bel_drewN (by go_grown) _⟩)

set_option maxRecDepth 100000 in
set_option maxHeartbeats 2000000 in
theorem target_any (g N : Nat) (x : In) (hx : XOk N x) (w : World) (hS : Shp w) (hI : InB w g x) :
    Calls Tryd.prog 73 #[.pointer (some ⟨g, 0, none⟩)] w fun e w' => e = .returned (tptr g x) ∧ Below w.heap.size w w' := by
  obtain ⟨op, hop, eop⟩ := op_cases hx.lo hx.hi
  obtain ⟨s0, s1, s2, s3⟩ := hS op hop
  obtain ⟨c0, c1, c2⟩ := hI
  have h9 := sh9 op hop
  have ho' : (op : Int) < 28 := by omega
  obtain ⟨xo, xa, xb⟩ := x
  simp only at *
  subst eop
  unfold tptr
  simp only
  by_cases hA : 18 ≤ (op : Int) ∧ (op : Int) ≤ 21
  · rw [if_pos hA]
    have e9 : shA op = 9 := h9.1.2 (by omega)
    rw [e9] at s0
    generalize ((shB op : Nat) : Int) = sb at s1
    generalize tk op = t at s2
    generalize lv op = l at s3
    have k0 := cellOld (o := .cells #[.int .i64 9, .int .i64 sb, .int .i64 t, .int .i64 l] 115) c0
    clear h9 hA hx e9
    go_enter Tryd.func73, Tryd.ntmps73
    go_wp2
    go_returns
    exact ⟨rfl, by go_grown⟩
  rw [if_neg hA]
  have n9 : ¬ shA op = 9 := fun e => hA (by have := h9.1.1 e; omega)
  have o9 : (((shA op : Nat) : Int) == 9) = false := by simp; omega
  by_cases hB : 26 ≤ (op : Int)
  · rw [if_pos hB]
    have e9 : shB op = 9 := h9.2.2 (by omega)
    rw [e9] at s1
    generalize ((shA op : Nat) : Int) = sa at s0 o9
    generalize tk op = t at s2
    generalize lv op = l at s3
    have k0 := cellOld (o := .cells #[.int .i64 sa, .int .i64 9, .int .i64 t, .int .i64 l] 115) c0
    clear h9 hA hx e9 n9
    go_enter Tryd.func73, Tryd.ntmps73
    go_wp2
    go_returns
    exact ⟨rfl, by go_grown⟩
  rw [if_neg hB]
  have n8 : ¬ shB op = 9 := fun e => hB (by have := h9.2.1 e; omega)
  have o8 : (((shB op : Nat) : Int) == 9) = false := by simp; omega
  generalize ((shA op : Nat) : Int) = sa at s0 o9
  generalize ((shB op : Nat) : Int) = sb at s1 o8
  generalize tk op = t at s2
  generalize lv op = l at s3
  have k0 := cellOld (o := .cells #[.int .i64 sa, .int .i64 sb, .int .i64 t, .int .i64 l] 115) c0
  clear h9 hA hx n9 n8
  go_enter Tryd.func73, Tryd.ntmps73
  go_wp2
  go_returns
  exact ⟨rfl, by go_grown⟩
end Go.Proofs.YteagakplhfiodaaDoor.chk
