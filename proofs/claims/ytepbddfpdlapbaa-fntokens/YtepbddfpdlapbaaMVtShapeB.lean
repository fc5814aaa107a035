import Derived.Test.YtepbddfpdlapbaaMVtShape
namespace Go.Proofs.Ytepbddfpdlapbaa.vt
open Go.RowKit Go.Proofs.Ytepbddfpdlapbaa.bts Go.Proofs.Ytepbddfpdlapbaa.nod
set_option maxRecDepth 100000 in
set_option maxHeartbeats 2000000 in
theorem sh26 (nn ct : Int) (ut un : Value) (w : World) (_h0 : 0 ≤ ct) (_h1 : ct ≤ 6000) :
    Calls Try.prog 71 #[.agg #[.int .i64 26, .int .i64 nn, ut, un, .int .i64 ct]] w fun x w' => x = .returned (.string ({ data := #[102] })) ∧ Below w.heap.size w w' := by
  go_enter Try.func71, Try.ntmps71
  go_wp2_with (go_at_call 79; refine (l3many_any _ _ _ (by omega) (by omega) (by decide)).mono ?_; rintro x w' ⟨rfl, hw⟩; replace hw := hw.symm; subst hw)
  go_ret
  exact ⟨rfl, (Below.refl _ _).alloc (Nat.le_refl _) _⟩
set_option maxRecDepth 100000 in
set_option maxHeartbeats 2000000 in
theorem sh3 (nn ct : Int) (ut un : Value) (w : World) (_h0 : 0 ≤ ct) (_h1 : ct ≤ 6000) :
    Calls Try.prog 71 #[.agg #[.int .i64 3, .int .i64 nn, ut, un, .int .i64 ct]] w fun x w' => x = .returned (.string ({ data := #[98] })) ∧ Below w.heap.size w w' := by
  go_enter Try.func71, Try.ntmps71
  go_wp2_with (go_at_call 79; refine (l3many_any _ _ _ (by omega) (by omega) (by decide)).mono ?_; rintro x w' ⟨rfl, hw⟩; replace hw := hw.symm; subst hw)
  go_ret
  exact ⟨rfl, (Below.refl _ _).alloc (Nat.le_refl _) _⟩
set_option maxRecDepth 100000 in
set_option maxHeartbeats 2000000 in
theorem sh4 (nn ct : Int) (ut un : Value) (w : World) (_h0 : 0 ≤ ct) (_h1 : ct ≤ 6000) :
    Calls Try.prog 71 #[.agg #[.int .i64 4, .int .i64 nn, ut, un, .int .i64 ct]] w fun x w' => x = .returned (.string ({ data := #[101, 98] })) ∧ Below w.heap.size w w' := by
  go_enter Try.func71, Try.ntmps71
  go_wp2_with (go_at_call 79; refine (l3many_any _ _ _ (by omega) (by omega) (by decide)).mono ?_; rintro x w' ⟨rfl, hw⟩; replace hw := hw.symm; subst hw)
  go_ret
  exact ⟨rfl, (Below.refl _ _).alloc (Nat.le_refl _) _⟩
set_option maxRecDepth 100000 in
set_option maxHeartbeats 2000000 in
theorem sh5 (nn ct : Int) (ut un : Value) (w : World) (_h0 : 0 ≤ ct) (_h1 : ct ≤ 6000) :
    Calls Try.prog 71 #[.agg #[.int .i64 5, .int .i64 nn, ut, un, .int .i64 ct]] w fun x w' => x = .returned (.string ({ data := #[98, 101] })) ∧ Below w.heap.size w w' := by
  go_enter Try.func71, Try.ntmps71
  go_wp2_with (go_at_call 79; refine (l3many_any _ _ _ (by omega) (by omega) (by decide)).mono ?_; rintro x w' ⟨rfl, hw⟩; replace hw := hw.symm; subst hw)
  go_ret
  exact ⟨rfl, (Below.refl _ _).alloc (Nat.le_refl _) _⟩
set_option maxRecDepth 100000 in
set_option maxHeartbeats 2000000 in
theorem sh10 (nn ct : Int) (ut un : Value) (w : World) (_h0 : 0 ≤ ct) (_h1 : ct ≤ 6000) :
    Calls Try.prog 71 #[.agg #[.int .i64 10, .int .i64 nn, ut, un, .int .i64 ct]] w fun x w' => x = .returned (.string ({ data := #[99] })) ∧ Below w.heap.size w w' := by
  go_enter Try.func71, Try.ntmps71
  go_wp2_with (go_at_call 79; refine (l3many_any _ _ _ (by omega) (by omega) (by decide)).mono ?_; rintro x w' ⟨rfl, hw⟩; replace hw := hw.symm; subst hw)
  go_ret
  exact ⟨rfl, (Below.refl _ _).alloc (Nat.le_refl _) _⟩
set_option maxRecDepth 100000 in
set_option maxHeartbeats 2000000 in
theorem sh17 (nn ct : Int) (ut un : Value) (w : World) (_h0 : 0 ≤ ct) (_h1 : ct ≤ 6000) :
    Calls Try.prog 71 #[.agg #[.int .i64 17, .int .i64 nn, ut, un, .int .i64 ct]] w fun x w' => x = .returned (.string ({ data := #[101, 101] })) ∧ Below w.heap.size w w' := by
  go_enter Try.func71, Try.ntmps71
  go_wp2_with (go_at_call 79; refine (l3many_any _ _ _ (by omega) (by omega) (by decide)).mono ?_; rintro x w' ⟨rfl, hw⟩; replace hw := hw.symm; subst hw)
  go_ret
  exact ⟨rfl, (Below.refl _ _).alloc (Nat.le_refl _) _⟩
set_option maxRecDepth 100000 in
set_option maxHeartbeats 2000000 in
theorem sh21 (nn ct : Int) (ut un : Value) (w : World) (_h0 : 0 ≤ ct) (_h1 : ct ≤ 6000) :
    Calls Try.prog 71 #[.agg #[.int .i64 21, .int .i64 nn, ut, un, .int .i64 ct]] w fun x w' => x = .returned (.string ({ data := #[101, 101] })) ∧ Below w.heap.size w w' := by
  go_enter Try.func71, Try.ntmps71
  go_wp2_with (go_at_call 79; refine (l3many_any _ _ _ (by omega) (by omega) (by decide)).mono ?_; rintro x w' ⟨rfl, hw⟩; replace hw := hw.symm; subst hw)
  go_ret
  exact ⟨rfl, (Below.refl _ _).alloc (Nat.le_refl _) _⟩
set_option maxRecDepth 100000 in
set_option maxHeartbeats 2000000 in
theorem sh22 (nn ct : Int) (ut un : Value) (w : World) (_h0 : 0 ≤ ct) (_h1 : ct ≤ 6000) :
    Calls Try.prog 71 #[.agg #[.int .i64 22, .int .i64 nn, ut, un, .int .i64 ct]] w fun x w' => x = .returned (.string ({ data := #[101, 101] })) ∧ Below w.heap.size w w' := by
  go_enter Try.func71, Try.ntmps71
  go_wp2_with (go_at_call 79; refine (l3many_any _ _ _ (by omega) (by omega) (by decide)).mono ?_; rintro x w' ⟨rfl, hw⟩; replace hw := hw.symm; subst hw)
  go_ret
  exact ⟨rfl, (Below.refl _ _).alloc (Nat.le_refl _) _⟩
set_option maxRecDepth 100000 in
set_option maxHeartbeats 2000000 in
theorem sh23 (nn ct : Int) (ut un : Value) (w : World) (_h0 : 0 ≤ ct) (_h1 : ct ≤ 6000) :
    Calls Try.prog 71 #[.agg #[.int .i64 23, .int .i64 nn, ut, un, .int .i64 ct]] w fun x w' => x = .returned (.string ({ data := #[101, 101] })) ∧ Below w.heap.size w w' := by
  go_enter Try.func71, Try.ntmps71
  go_wp2_with (go_at_call 79; refine (l3many_any _ _ _ (by omega) (by omega) (by decide)).mono ?_; rintro x w' ⟨rfl, hw⟩; replace hw := hw.symm; subst hw)
  go_ret
  exact ⟨rfl, (Below.refl _ _).alloc (Nat.le_refl _) _⟩
set_option maxRecDepth 100000 in
set_option maxHeartbeats 2000000 in
theorem sh19 (nn ct : Int) (ut un : Value) (w : World) (_h0 : 0 ≤ ct) (_h1 : ct ≤ 6000) :
    Calls Try.prog 71 #[.agg #[.int .i64 19, .int .i64 nn, ut, un, .int .i64 ct]] w fun x w' => x = .returned (.string ({ data := #[98] })) ∧ Below w.heap.size w w' := by
  go_enter Try.func71, Try.ntmps71
  go_wp2_with (go_at_call 79; refine (l3many_any _ _ _ (by omega) (by omega) (by decide)).mono ?_; rintro x w' ⟨rfl, hw⟩; replace hw := hw.symm; subst hw)
  go_ret
  exact ⟨rfl, (Below.refl _ _).alloc (Nat.le_refl _) _⟩
set_option maxRecDepth 100000 in
set_option maxHeartbeats 2000000 in
theorem sh24 (nn ct : Int) (ut un : Value) (w : World) (_h0 : 0 ≤ ct) (_h1 : ct ≤ 6000) :
    Calls Try.prog 71 #[.agg #[.int .i64 24, .int .i64 nn, ut, un, .int .i64 ct]] w fun x w' => x = .returned (.string ({ data := #[101] })) ∧ Below w.heap.size w w' := by
  go_enter Try.func71, Try.ntmps71
  go_wp2_with (go_at_call 79; refine (l3many_any _ _ _ (by omega) (by omega) (by decide)).mono ?_; rintro x w' ⟨rfl, hw⟩; replace hw := hw.symm; subst hw)
  go_ret
  exact ⟨rfl, (Below.refl _ _).alloc (Nat.le_refl _) _⟩
set_option maxRecDepth 100000 in
set_option maxHeartbeats 2000000 in
theorem sh25 (nn ct : Int) (ut un : Value) (w : World) (_h0 : 0 ≤ ct) (_h1 : ct ≤ 6000) :
    Calls Try.prog 71 #[.agg #[.int .i64 25, .int .i64 nn, ut, un, .int .i64 ct]] w fun x w' => x = .returned (.string ({ data := #[101] })) ∧ Below w.heap.size w w' := by
  go_enter Try.func71, Try.ntmps71
  go_wp2_with (go_at_call 79; refine (l3many_any _ _ _ (by omega) (by omega) (by decide)).mono ?_; rintro x w' ⟨rfl, hw⟩; replace hw := hw.symm; subst hw)
  go_ret
  exact ⟨rfl, (Below.refl _ _).alloc (Nat.le_refl _) _⟩
set_option maxRecDepth 100000 in
set_option maxHeartbeats 2000000 in
theorem shX (kd nn ct : Int) (ut un : Value) (w : World) (_h0 : 0 ≤ ct) (_h1 : ct ≤ 6000) (n0 : ¬ kd = 0) (n1 : ¬ kd = 1) (n9 : ¬ kd = 9) (n26 : ¬ kd = 26) (n2 : ¬ kd = 2) (n3 : ¬ kd = 3) (n4 : ¬ kd = 4) (n5 : ¬ kd = 5) (n6 : ¬ kd = 6) (n7 : ¬ kd = 7) (n10 : ¬ kd = 10) (n17 : ¬ kd = 17) (n21 : ¬ kd = 21) (n22 : ¬ kd = 22) (n23 : ¬ kd = 23) (n18 : ¬ kd = 18) (n19 : ¬ kd = 19) (n20 : ¬ kd = 20) (n24 : ¬ kd = 24) (n25 : ¬ kd = 25) :
    Calls Try.prog 71 #[.agg #[.int .i64 kd, .int .i64 nn, ut, un, .int .i64 ct]] w fun x w' => x = .returned (.string ({ data := #[] })) ∧ Below w.heap.size w w' := by
  have e0 : (kd == 0) = false := by simp; exact n0
  have e1 : (kd == 1) = false := by simp; exact n1
  have e9 : (kd == 9) = false := by simp; exact n9
  have e26 : (kd == 26) = false := by simp; exact n26
  have e2 : (kd == 2) = false := by simp; exact n2
  have e3 : (kd == 3) = false := by simp; exact n3
  have e4 : (kd == 4) = false := by simp; exact n4
  have e5 : (kd == 5) = false := by simp; exact n5
  have e6 : (kd == 6) = false := by simp; exact n6
  have e7 : (kd == 7) = false := by simp; exact n7
  have e10 : (kd == 10) = false := by simp; exact n10
  have e17 : (kd == 17) = false := by simp; exact n17
  have e21 : (kd == 21) = false := by simp; exact n21
  have e22 : (kd == 22) = false := by simp; exact n22
  have e23 : (kd == 23) = false := by simp; exact n23
  have e18 : (kd == 18) = false := by simp; exact n18
  have e19 : (kd == 19) = false := by simp; exact n19
  have e20 : (kd == 20) = false := by simp; exact n20
  have e24 : (kd == 24) = false := by simp; exact n24
  have e25 : (kd == 25) = false := by simp; exact n25
  clear n0 n1 n9 n26 n2 n3 n4 n5 n6 n7 n10 n17 n21 n22 n23 n18 n19 n20 n24 n25
  go_enter Try.func71, Try.ntmps71
  go_wp2_with (go_at_call 79; refine (l3many_any _ _ _ (by omega) (by omega) (by decide)).mono ?_; rintro x w' ⟨rfl, hw⟩; replace hw := hw.symm; subst hw)
  go_ret
  exact ⟨rfl, (Below.refl _ _).alloc (Nat.le_refl _) _⟩
theorem l3shape_any (kd nn ct : Int) (ut un : Value) (w : World) (h0 : 0 ≤ ct) (h1 : ct ≤ 6000) :
    Calls Try.prog 71 #[.agg #[.int .i64 kd, .int .i64 nn, ut, un, .int .i64 ct]] w fun x w' => x = .returned (.string (shape kd nn ct)) ∧ Below w.heap.size w w' := by
  by_cases n0 : kd = 0
  · subst n0
    exact sh0 nn ct ut un w h0 h1
  by_cases n1 : kd = 1
  · subst n1
    by_cases h : 50 < ct
    · rw [show shape 1 nn ct = { data := #[63] } from if_pos h]; exact sh1_many nn ct ut un w h0 h1 h
    · rw [show shape 1 nn ct = rep { data := #[101] } ct.toNat from if_neg h]; exact sh1_few nn ct ut un w h0 h1 h
  by_cases n9 : kd = 9
  · subst n9
    by_cases h : 50 < ct
    · rw [show shape 9 nn ct = { data := #[63] } from if_pos h]; exact sh9_many nn ct ut un w h0 h1 h
    · rw [show shape 9 nn ct = rep { data := #[101] } ct.toNat from if_neg h]; exact sh9_few nn ct ut un w h0 h1 h
  by_cases n26 : kd = 26
  · subst n26
    exact sh26 nn ct ut un w h0 h1
  by_cases n2 : kd = 2
  · subst n2
    by_cases h : nn < 1 ∨ 50 < nn ∨ ct ≤ nn ∨ nn + 50 < ct
    · rw [show shape 2 nn ct = { data := #[63] } from if_pos h]
      by_cases ha : nn < 1
      · exact sh2_a nn ct ut un w h0 h1 ha
      by_cases hb : 50 < nn
      · exact sh2_b nn ct ut un w h0 h1 hb
      by_cases hc : ct ≤ nn
      · exact sh2_c nn ct ut un w h0 h1 ha hb hc
      · exact sh2_d nn ct ut un w h0 h1 ha hb hc (by omega)
    · rw [show shape 2 nn ct = rep { data := #[116] } nn.toNat ++ rep { data := #[101] } (ct - nn).toNat from if_neg h]
      exact sh2_e nn ct ut un w h0 h1 (by omega) (by omega) (by omega) (by omega)
  by_cases n3 : kd = 3
  · subst n3
    exact sh3 nn ct ut un w h0 h1
  by_cases n4 : kd = 4
  · subst n4
    exact sh4 nn ct ut un w h0 h1
  by_cases n5 : kd = 5
  · subst n5
    exact sh5 nn ct ut un w h0 h1
  by_cases n6 : kd = 6
  · subst n6
    by_cases h : ct < 2
    · rw [show shape 6 nn ct = { data := #[63] } from if_pos h]; exact sh6_a nn ct ut un w h0 h1 h
    · rw [show shape 6 nn ct = rep { data := #[101, 98] } (ct / 2).toNat ++ rep { data := #[98] } (ct % 2).toNat from if_neg h]; exact sh6_b nn ct ut un w h0 h1 h
  by_cases n7 : kd = 7
  · subst n7
    by_cases h : ct = 4
    · rw [show shape 7 nn ct = { data := #[101, 101, 101, 98] } from if_pos h]; exact sh7_a nn ct ut un w h0 h1 h
    · rw [show shape 7 nn ct = { data := #[101, 101, 98] } from if_neg h]; exact sh7_b nn ct ut un w h0 h1 h
  by_cases n10 : kd = 10
  · subst n10
    exact sh10 nn ct ut un w h0 h1
  by_cases n17 : kd = 17
  · subst n17
    exact sh17 nn ct ut un w h0 h1
  by_cases n21 : kd = 21
  · subst n21
    exact sh21 nn ct ut un w h0 h1
  by_cases n22 : kd = 22
  · subst n22
    exact sh22 nn ct ut un w h0 h1
  by_cases n23 : kd = 23
  · subst n23
    exact sh23 nn ct ut un w h0 h1
  by_cases n18 : kd = 18
  · subst n18
    by_cases h : ct < 1 ∨ 51 < ct
    · rw [show shape 18 nn ct = { data := #[63] } from if_pos h]
      by_cases ha : ct < 1
      · exact sh18_a nn ct ut un w h0 h1 ha
      · exact sh18_b nn ct ut un w h0 h1 (by omega)
    · rw [show shape 18 nn ct = rep { data := #[101] } ct.toNat from if_neg h]; exact sh18_c nn ct ut un w h0 h1 (by omega) (by omega)
  by_cases n19 : kd = 19
  · subst n19
    exact sh19 nn ct ut un w h0 h1
  by_cases n20 : kd = 20
  · subst n20
    by_cases h : ct % 2 = 0
    · rw [show shape 20 nn ct = rep { data := #[101] } ct.toNat by unfold shape; simp [h]]; exact sh20_b nn ct ut un w h0 h1 h
    · rw [show shape 20 nn ct = { data := #[63] } from if_pos h]; exact sh20_a nn ct ut un w h0 h1 h
  by_cases n24 : kd = 24
  · subst n24
    exact sh24 nn ct ut un w h0 h1
  by_cases n25 : kd = 25
  · subst n25
    exact sh25 nn ct ut un w h0 h1
  rw [show shape kd nn ct = { data := #[] } by unfold shape; simp only [n0, n1, n9, n26, n2, n3, n4, n5, n6, n7, n10, n17, n21, n22, n23, n18, n19, n20, n24, n25, or_self, if_false]]
  exact shX kd nn ct ut un w h0 h1 n0 n1 n9 n26 n2 n3 n4 n5 n6 n7 n10 n17 n21 n22 n23 n18 n19 n20 n24 n25
end Go.Proofs.Ytepbddfpdlapbaa.vt
