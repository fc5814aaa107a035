import Derived.Test.YteagakplhfiodaaDoorChkSpecA
namespace Go.Proofs.YteagakplhfiodaaDoor.chk
open Go.RowKit Go.Proofs.YteagakplhfiodaaDoor.bts Go.Proofs.YteagakplhfiodaaDoor.pg

theorem shA_lt (op : Nat) (h : op < 28) : shA op < 10 ∧ shB op < 10 := by
  revert op; decide

set_option maxRecDepth 100000 in
set_option maxHeartbeats 4000000 in
theorem l4takes_any (x : In) (N : Nat) (hx : XOk N x) (w : World) :
    Calls Tryd.prog 50 #[.agg #[.int .i64 x.op, .int .i64 x.a, .int .i64 x.b]] w fun e w' => e = .returned (.tuple #[.int .i64 (tkI x), .int .i64 (lvI x)]) ∧ Below w.heap.size w w' := by
  obtain ⟨op, hop, e⟩ := op_cases hx.lo hx.hi
  have hcnt := hx.cnt
  have hres := hx.res
  obtain ⟨xo, a, b⟩ := x
  simp only at e hcnt hres
  subst e
  have C : Hid (∀ W, Below w.heap.size w W → Calls Tryd.prog 47 #[.int .i64 op] W fun e w' => e = .returned (.tuple #[.string { data := #[chU (shA op), chU (shB op)] }, .int .i64 (tk op), .int .i64 (lvS op)]) ∧ Below W.heap.size W w') := fun W _ => l4row_any op hop W
  have ht := tk_ge op hop
  have hT : tkI ⟨(op : Int), a, b⟩ = if (op : Int) = 22 ∨ (op : Int) = 23 ∨ (op : Int) = 24 then tk op + a else tk op := rfl
  have hL : lvI ⟨(op : Int), a, b⟩ = if (op : Int) = 22 then b else lv op := rfl
  have hS : ¬ ((op : Int) = 20 ∨ (op : Int) = 21) → lvS op = lv op := by intro h; unfold lvS; rw [if_neg (by omega)]
  have hlv : ((op : Int) = 23 ∨ (op : Int) = 24 ∨ (op : Int) = 20 ∨ (op : Int) = 21) → lv op = 0 := by
    intro h
    have : op = 23 ∨ op = 24 ∨ op = 20 ∨ op = 21 := by omega
    rcases this with rfl | rfl | rfl | rfl <;> rfl
  have htk : ((op : Int) = 20 ∨ (op : Int) = 21) → tk op = 1 := fun h => tk_and (by omega)
  rw [hT, hL]
  generalize tk op = t at *
  generalize lvS op = ls at *
  generalize lv op = l at *
  generalize hcs : ({ data := #[chU (shA op), chU (shB op)] } : ByteArray) = cs at C
  clear hcs hT hL hx
  by_cases h22 : (op : Int) = 22
  · rw [if_pos (.inl h22), if_pos h22]
    have := hcnt (by omega) (by omega)
    have := hres h22
    rw [h22] at C ⊢
    clear hcnt hres hlv htk hS
    go_enter Tryd.func50, Tryd.ntmps50
    go_wp2_with fail
    refine (C.out _ (by go_grown)).mono ?_
    rintro e w1 ⟨rfl, hb1⟩
    have HB : Hid (Below w.heap.size w w1) := Below.trans (by go_grown) (hb1.mono (by simp))
    have c0 := cellB (cellNew (w := w) (cs := #[.int .i64 22, .int .i64 a, .int .i64 b]) (t := 50) (j := 0) rfl) hb1
    have c1 := cellB (cellNew (w := w) (cs := #[.int .i64 22, .int .i64 a, .int .i64 b]) (t := 50) (j := 1) rfl) hb1
    have c2 := cellB (cellNew (w := w) (cs := #[.int .i64 22, .int .i64 a, .int .i64 b]) (t := 50) (j := 2) rfl) hb1
    clear hb1
    go_wp2
    go_quiet (fail)
    go_wp2
    go_returns
    exact ⟨rfl, bel_drewN HB.out _⟩
  rw [if_neg h22]
  have o22 : ((op : Int) == 22) = false := by simp; omega
  by_cases h23 : (op : Int) = 23 ∨ (op : Int) = 24
  · rw [if_pos (.inr h23), hlv (by omega)]
    have := hcnt (by omega) (by omega)
    clear hcnt hres hlv htk hS h22 o22
    rcases h23 with h23 | h23
    all_goals
      rw [h23] at C ⊢
      go_enter Tryd.func50, Tryd.ntmps50
      go_wp2_with fail
      refine (C.out _ (by go_grown)).mono ?_
      rintro e w1 ⟨rfl, hb1⟩
      have HB : Hid (Below w.heap.size w w1) := Below.trans (by go_grown) (hb1.mono (by simp))
      have c0 := cellB (cellNew (w := w) (cs := #[.int .i64 op, .int .i64 a, .int .i64 b]) (t := 50) (j := 0) rfl) (by rw [h23]; exact hb1)
      have c1 := cellB (cellNew (w := w) (cs := #[.int .i64 op, .int .i64 a, .int .i64 b]) (t := 50) (j := 1) rfl) (by rw [h23]; exact hb1)
      rw [h23] at c0
      clear hb1
      go_wp2
      go_returns
      exact ⟨rfl, HB.out⟩
  rw [if_neg (by omega)]
  have o23 : ((op : Int) == 23) = false := by simp; omega
  have o24 : ((op : Int) == 24) = false := by simp; omega
  by_cases h20 : (op : Int) = 20 ∨ (op : Int) = 21
  · rw [hlv (by omega), htk h20]
    clear hcnt hres hlv htk hS o22 o23 o24
    rcases h20 with h20 | h20
    all_goals
      rw [h20] at C ⊢
      go_enter Tryd.func50, Tryd.ntmps50
      go_wp2_with fail
      refine (C.out _ (by go_grown)).mono ?_
      rintro e w1 ⟨rfl, hb1⟩
      have HB : Hid (Below w.heap.size w w1) := Below.trans (by go_grown) (hb1.mono (by simp))
      have c0 := cellB (cellNew (w := w) (cs := #[.int .i64 op, .int .i64 a, .int .i64 b]) (t := 50) (j := 0) rfl) (by rw [h20]; exact hb1)
      rw [h20] at c0
      clear hb1
      go_wp2
      go_returns
      exact ⟨rfl, HB.out⟩
  have o20 : ((op : Int) == 20) = false := by simp; omega
  have o21 : ((op : Int) == 21) = false := by simp; omega
  rw [← hS h20]
  clear hcnt hres hlv htk hS h20 h22 h23
  go_enter Tryd.func50, Tryd.ntmps50
  go_wp2_with fail
  refine (C.out _ (by go_grown)).mono ?_
  rintro e w1 ⟨rfl, hb1⟩
  have HB : Hid (Below w.heap.size w w1) := Below.trans (by go_grown) (hb1.mono (by simp))
  have c0 := cellB (cellNew (w := w) (cs := #[.int .i64 op, .int .i64 a, .int .i64 b]) (t := 50) (j := 0) rfl) hb1
  clear hb1
  go_wp2
  go_returns
  exact ⟨rfl, HB.out⟩
end Go.Proofs.YteagakplhfiodaaDoor.chk
