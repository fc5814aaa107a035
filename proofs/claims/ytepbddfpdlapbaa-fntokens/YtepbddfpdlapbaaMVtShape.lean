import Derived.Laws.Concat
import Derived.Deep.RegionHeld3
import Derived.Test.YtepbddfpdlapbaaMVtEnd
namespace Go.Proofs.Ytepbddfpdlapbaa.vt
open Go.RowKit Go.Proofs.Ytepbddfpdlapbaa.bts Go.Proofs.Ytepbddfpdlapbaa.nod
def rep (c : ByteArray) : Nat → ByteArray
  | 0 => { data := #[] }
  | k + 1 => rep c k ++ c
theorem rep_size (c : ByteArray) : ∀ k, (rep c k).size = k * c.size
  | 0 => by rw [Nat.zero_mul]; rfl
  | k + 1 => by rw [rep, ByteArray.size_append, rep_size c k, Nat.succ_mul]
theorem ret_s {a b : ByteArray} (h : a = b) : Ending.returned (.string a) = .returned (.string b) := by rw [h]
set_option maxRecDepth 100000 in
set_option maxHeartbeats 2000000 in
theorem l3many_any (c : ByteArray) (k : Int) (w : World) (h0 : 0 ≤ k) (hk : k ≤ 6000) (hc : c.size ≤ 2) :
    Calls Try.prog 79 #[.string c, .int .i64 k] w fun x w' => x = .returned (.string (rep c k.toNat)) ∧ w' = w := by
  obtain ⟨n, rfl⟩ : ∃ n : Nat, k = (n : Int) := ⟨k.toNat, by omega⟩
  rw [Int.toNat_natCast]
  clear h0
  go_enter Try.func79, Try.ntmps79
  go_wp2
  go_loop [5, 6] (fun p q => ∃ (m : Nat) (s : ByteArray), m ≤ n ∧ p = .string s ∧ q = .int .i64 m ∧ Hid (s = rep c m)) (fun _ q => n - (intOf q).toNat)
  case atStart => exact ⟨0, _, Nat.zero_le _, rfl, rfl, rfl⟩
  case round =>
    obtain ⟨m, s, hm, rfl, rfl, HS⟩ := hrel
    by_cases hlt : m < n
    · have hsz : s.size ≤ 12000 := by
        rw [HS.out, rep_size]
        have : m * c.size ≤ 6000 * 2 := Nat.mul_le_mul (by omega) hc
        omega
      have hlim : ¬ 9223372036854775807 < s.size + c.size := by omega
      go_wp2
      go_round
      case rel => exact ⟨m + 1, _, by omega, rfl, by go_num, by show _ = _; rw [HS.out, rep]⟩
      case measure => simp [intOf]; omega
    · have hmn : m = n := by omega
      subst hmn
      go_wp2
      go_ret
      exact ⟨ret_s HS.out, rfl⟩
def shape (kd nn ct : Int) : ByteArray :=
  if kd = 0 then rep { data := #[115] } ct.toNat
  else if kd = 1 ∨ kd = 9 then (if 50 < ct then { data := #[63] } else rep { data := #[101] } ct.toNat)
  else if kd = 26 then { data := #[102] }
  else if kd = 2 then (if nn < 1 ∨ 50 < nn ∨ ct ≤ nn ∨ nn + 50 < ct then { data := #[63] } else rep { data := #[116] } nn.toNat ++ rep { data := #[101] } (ct - nn).toNat)
  else if kd = 3 then { data := #[98] }
  else if kd = 4 then { data := #[101, 98] }
  else if kd = 5 then { data := #[98, 101] }
  else if kd = 6 then (if ct < 2 then { data := #[63] } else rep { data := #[101, 98] } (ct / 2).toNat ++ rep { data := #[98] } (ct % 2).toNat)
  else if kd = 7 then (if ct = 4 then { data := #[101, 101, 101, 98] } else { data := #[101, 101, 98] })
  else if kd = 10 then { data := #[99] }
  else if kd = 17 ∨ kd = 21 ∨ kd = 22 ∨ kd = 23 then { data := #[101, 101] }
  else if kd = 18 then (if ct < 1 ∨ 51 < ct then { data := #[63] } else rep { data := #[101] } ct.toNat)
  else if kd = 19 then { data := #[98] }
  else if kd = 20 then (if ¬ ct % 2 = 0 then { data := #[63] } else rep { data := #[101] } ct.toNat)
  else if kd = 24 ∨ kd = 25 then { data := #[101] }
  else { data := #[] }
set_option maxRecDepth 100000 in
set_option maxHeartbeats 2000000 in
theorem sh0 (nn ct : Int) (ut un : Value) (w : World) (_h0 : 0 ≤ ct) (_h1 : ct ≤ 6000) :
    Calls Try.prog 71 #[.agg #[.int .i64 0, .int .i64 nn, ut, un, .int .i64 ct]] w fun x w' => x = .returned (.string (rep { data := #[115] } ct.toNat)) ∧ Below w.heap.size w w' := by
  go_enter Try.func71, Try.ntmps71
  go_wp2_with (go_at_call 79; refine (l3many_any _ _ _ (by omega) (by omega) (by decide)).mono ?_; rintro x w' ⟨rfl, hw⟩; replace hw := hw.symm; subst hw)
  go_ret
  exact ⟨rfl, (Below.refl _ _).alloc (Nat.le_refl _) _⟩
set_option maxRecDepth 100000 in
set_option maxHeartbeats 2000000 in
theorem sh1_many (nn ct : Int) (ut un : Value) (w : World) (_h0 : 0 ≤ ct) (_h1 : ct ≤ 6000) (h : 50 < ct) :
    Calls Try.prog 71 #[.agg #[.int .i64 1, .int .i64 nn, ut, un, .int .i64 ct]] w fun x w' => x = .returned (.string ({ data := #[63] })) ∧ Below w.heap.size w w' := by
  go_enter Try.func71, Try.ntmps71
  go_wp2_with (go_at_call 79; refine (l3many_any _ _ _ (by omega) (by omega) (by decide)).mono ?_; rintro x w' ⟨rfl, hw⟩; replace hw := hw.symm; subst hw)
  go_ret
  exact ⟨rfl, (Below.refl _ _).alloc (Nat.le_refl _) _⟩
set_option maxRecDepth 100000 in
set_option maxHeartbeats 2000000 in
theorem sh1_few (nn ct : Int) (ut un : Value) (w : World) (_h0 : 0 ≤ ct) (_h1 : ct ≤ 6000) (h : ¬ 50 < ct) :
    Calls Try.prog 71 #[.agg #[.int .i64 1, .int .i64 nn, ut, un, .int .i64 ct]] w fun x w' => x = .returned (.string (rep { data := #[101] } ct.toNat)) ∧ Below w.heap.size w w' := by
  go_enter Try.func71, Try.ntmps71
  go_wp2_with (go_at_call 79; refine (l3many_any _ _ _ (by omega) (by omega) (by decide)).mono ?_; rintro x w' ⟨rfl, hw⟩; replace hw := hw.symm; subst hw)
  go_ret
  exact ⟨rfl, (Below.refl _ _).alloc (Nat.le_refl _) _⟩
set_option maxRecDepth 100000 in
set_option maxHeartbeats 2000000 in
theorem sh9_many (nn ct : Int) (ut un : Value) (w : World) (_h0 : 0 ≤ ct) (_h1 : ct ≤ 6000) (h : 50 < ct) :
    Calls Try.prog 71 #[.agg #[.int .i64 9, .int .i64 nn, ut, un, .int .i64 ct]] w fun x w' => x = .returned (.string ({ data := #[63] })) ∧ Below w.heap.size w w' := by
  go_enter Try.func71, Try.ntmps71
  go_wp2_with (go_at_call 79; refine (l3many_any _ _ _ (by omega) (by omega) (by decide)).mono ?_; rintro x w' ⟨rfl, hw⟩; replace hw := hw.symm; subst hw)
  go_ret
  exact ⟨rfl, (Below.refl _ _).alloc (Nat.le_refl _) _⟩
set_option maxRecDepth 100000 in
set_option maxHeartbeats 2000000 in
theorem sh9_few (nn ct : Int) (ut un : Value) (w : World) (_h0 : 0 ≤ ct) (_h1 : ct ≤ 6000) (h : ¬ 50 < ct) :
    Calls Try.prog 71 #[.agg #[.int .i64 9, .int .i64 nn, ut, un, .int .i64 ct]] w fun x w' => x = .returned (.string (rep { data := #[101] } ct.toNat)) ∧ Below w.heap.size w w' := by
  go_enter Try.func71, Try.ntmps71
  go_wp2_with (go_at_call 79; refine (l3many_any _ _ _ (by omega) (by omega) (by decide)).mono ?_; rintro x w' ⟨rfl, hw⟩; replace hw := hw.symm; subst hw)
  go_ret
  exact ⟨rfl, (Below.refl _ _).alloc (Nat.le_refl _) _⟩
set_option maxRecDepth 100000 in
set_option maxHeartbeats 2000000 in
theorem sh18_a (nn ct : Int) (ut un : Value) (w : World) (_h0 : 0 ≤ ct) (_h1 : ct ≤ 6000) (h : ct < 1) :
    Calls Try.prog 71 #[.agg #[.int .i64 18, .int .i64 nn, ut, un, .int .i64 ct]] w fun x w' => x = .returned (.string ({ data := #[63] })) ∧ Below w.heap.size w w' := by
  go_enter Try.func71, Try.ntmps71
  go_wp2_with (go_at_call 79; refine (l3many_any _ _ _ (by omega) (by omega) (by decide)).mono ?_; rintro x w' ⟨rfl, hw⟩; replace hw := hw.symm; subst hw)
  go_ret
  exact ⟨rfl, (Below.refl _ _).alloc (Nat.le_refl _) _⟩
set_option maxRecDepth 100000 in
set_option maxHeartbeats 2000000 in
theorem sh18_b (nn ct : Int) (ut un : Value) (w : World) (_h0 : 0 ≤ ct) (_h1 : ct ≤ 6000) (h : 51 < ct) :
    Calls Try.prog 71 #[.agg #[.int .i64 18, .int .i64 nn, ut, un, .int .i64 ct]] w fun x w' => x = .returned (.string ({ data := #[63] })) ∧ Below w.heap.size w w' := by
  go_enter Try.func71, Try.ntmps71
  go_wp2_with (go_at_call 79; refine (l3many_any _ _ _ (by omega) (by omega) (by decide)).mono ?_; rintro x w' ⟨rfl, hw⟩; replace hw := hw.symm; subst hw)
  go_ret
  exact ⟨rfl, (Below.refl _ _).alloc (Nat.le_refl _) _⟩
set_option maxRecDepth 100000 in
set_option maxHeartbeats 2000000 in
theorem sh18_c (nn ct : Int) (ut un : Value) (w : World) (_h0 : 0 ≤ ct) (_h1 : ct ≤ 6000) (h : ¬ ct < 1) (h2 : ¬ 51 < ct) :
    Calls Try.prog 71 #[.agg #[.int .i64 18, .int .i64 nn, ut, un, .int .i64 ct]] w fun x w' => x = .returned (.string (rep { data := #[101] } ct.toNat)) ∧ Below w.heap.size w w' := by
  have e1 : decide (ct < 1) = false := by simp; omega
  have e2 : decide (51 < ct) = false := by simp; omega
  go_enter Try.func71, Try.ntmps71
  go_wp2_with (go_at_call 79; refine (l3many_any _ _ _ (by omega) (by omega) (by decide)).mono ?_; rintro x w' ⟨rfl, hw⟩; replace hw := hw.symm; subst hw)
  go_ret
  exact ⟨rfl, (Below.refl _ _).alloc (Nat.le_refl _) _⟩
set_option maxRecDepth 100000 in
set_option maxHeartbeats 2000000 in
theorem sh2_a (nn ct : Int) (ut un : Value) (w : World) (_h0 : 0 ≤ ct) (_h1 : ct ≤ 6000) (h : nn < 1) :
    Calls Try.prog 71 #[.agg #[.int .i64 2, .int .i64 nn, ut, un, .int .i64 ct]] w fun x w' => x = .returned (.string ({ data := #[63] })) ∧ Below w.heap.size w w' := by
  go_enter Try.func71, Try.ntmps71
  go_wp2_with (go_at_call 79; refine (l3many_any _ _ _ (by omega) (by omega) (by decide)).mono ?_; rintro x w' ⟨rfl, hw⟩; replace hw := hw.symm; subst hw)
  go_ret
  exact ⟨rfl, (Below.refl _ _).alloc (Nat.le_refl _) _⟩
set_option maxRecDepth 100000 in
set_option maxHeartbeats 2000000 in
theorem sh2_b (nn ct : Int) (ut un : Value) (w : World) (_h0 : 0 ≤ ct) (_h1 : ct ≤ 6000) (h : 50 < nn) :
    Calls Try.prog 71 #[.agg #[.int .i64 2, .int .i64 nn, ut, un, .int .i64 ct]] w fun x w' => x = .returned (.string ({ data := #[63] })) ∧ Below w.heap.size w w' := by
  go_enter Try.func71, Try.ntmps71
  go_wp2_with (go_at_call 79; refine (l3many_any _ _ _ (by omega) (by omega) (by decide)).mono ?_; rintro x w' ⟨rfl, hw⟩; replace hw := hw.symm; subst hw)
  go_ret
  exact ⟨rfl, (Below.refl _ _).alloc (Nat.le_refl _) _⟩
set_option maxRecDepth 100000 in
set_option maxHeartbeats 2000000 in
theorem sh2_c (nn ct : Int) (ut un : Value) (w : World) (_h0 : 0 ≤ ct) (_h1 : ct ≤ 6000) (ha : ¬ nn < 1) (hb : ¬ 50 < nn) (h : ct ≤ nn) :
    Calls Try.prog 71 #[.agg #[.int .i64 2, .int .i64 nn, ut, un, .int .i64 ct]] w fun x w' => x = .returned (.string ({ data := #[63] })) ∧ Below w.heap.size w w' := by
  have e1 : decide (nn < 1) = false := by simp; omega
  have e2 : decide (50 < nn) = false := by simp; omega
  go_enter Try.func71, Try.ntmps71
  go_wp2_with (go_at_call 79; refine (l3many_any _ _ _ (by omega) (by omega) (by decide)).mono ?_; rintro x w' ⟨rfl, hw⟩; replace hw := hw.symm; subst hw)
  go_ret
  exact ⟨rfl, (Below.refl _ _).alloc (Nat.le_refl _) _⟩
set_option maxRecDepth 100000 in
set_option maxHeartbeats 2000000 in
theorem sh2_d (nn ct : Int) (ut un : Value) (w : World) (_h0 : 0 ≤ ct) (_h1 : ct ≤ 6000) (ha : ¬ nn < 1) (hb : ¬ 50 < nn) (hc : ¬ ct ≤ nn) (h : nn + 50 < ct) :
    Calls Try.prog 71 #[.agg #[.int .i64 2, .int .i64 nn, ut, un, .int .i64 ct]] w fun x w' => x = .returned (.string ({ data := #[63] })) ∧ Below w.heap.size w w' := by
  have e1 : decide (nn < 1) = false := by simp; omega
  have e2 : decide (50 < nn) = false := by simp; omega
  have e3 : decide (ct ≤ nn) = false := by simp; omega
  go_enter Try.func71, Try.ntmps71
  go_wp2_with (go_at_call 79; refine (l3many_any _ _ _ (by omega) (by omega) (by decide)).mono ?_; rintro x w' ⟨rfl, hw⟩; replace hw := hw.symm; subst hw)
  go_ret
  exact ⟨rfl, (Below.refl _ _).alloc (Nat.le_refl _) _⟩
set_option maxRecDepth 100000 in
set_option maxHeartbeats 2000000 in
theorem sh2_e (nn ct : Int) (ut un : Value) (w : World) (_h0 : 0 ≤ ct) (_h1 : ct ≤ 6000) (ha : ¬ nn < 1) (hb : ¬ 50 < nn) (hc : ¬ ct ≤ nn) (h : ¬ nn + 50 < ct) :
    Calls Try.prog 71 #[.agg #[.int .i64 2, .int .i64 nn, ut, un, .int .i64 ct]] w fun x w' => x = .returned (.string (rep { data := #[116] } nn.toNat ++ rep { data := #[101] } (ct - nn).toNat)) ∧ Below w.heap.size w w' := by
  have e1 : decide (nn < 1) = false := by simp; omega
  have e2 : decide (50 < nn) = false := by simp; omega
  have e3 : decide (ct ≤ nn) = false := by simp; omega
  have e4 : decide (nn + 50 < ct) = false := by simp; omega
  have hlim : ¬ 9223372036854775807 < (rep { data := #[116] } nn.toNat).size + (rep { data := #[101] } (ct - nn).toNat).size := by
    rw [rep_size, rep_size]
    have a1 : (ByteArray.mk #[116]).size = 1 := rfl
    have a2 : (ByteArray.mk #[101]).size = 1 := rfl
    rw [a1, a2]; omega
  go_enter Try.func71, Try.ntmps71
  have q1 : IntKind.i64.wrap (ct - nn) = ct - nn := IntWalk.i64_in _ ⟨by omega, by omega⟩
  go_wp2_with fail
  go_region_held3 (fun w' => w'.cell? ⟨w.heap.size, 1, none⟩ = some (.int .i64 nn)) (go_keep)
    ((go_at_call 79; refine (l3many_any _ _ _ (by omega) (by omega) (by decide)).mono ?_; rintro x w' ⟨rfl, rfl⟩))
  go_wp2
  go_ret
  exact ⟨rfl, by repeat (first | exact Below.refl _ _ | refine bel_drewN ?_ _ | refine Below.drew ?_ | refine Below.alloc ?_ (Nat.le_refl _) _)⟩
set_option maxRecDepth 100000 in
set_option maxHeartbeats 2000000 in
theorem sh6_a (nn ct : Int) (ut un : Value) (w : World) (_h0 : 0 ≤ ct) (_h1 : ct ≤ 6000) (h : ct < 2) :
    Calls Try.prog 71 #[.agg #[.int .i64 6, .int .i64 nn, ut, un, .int .i64 ct]] w fun x w' => x = .returned (.string ({ data := #[63] })) ∧ Below w.heap.size w w' := by
  go_enter Try.func71, Try.ntmps71
  go_wp2_with (go_at_call 79; refine (l3many_any _ _ _ (by omega) (by omega) (by decide)).mono ?_; rintro x w' ⟨rfl, hw⟩; replace hw := hw.symm; subst hw)
  go_ret
  exact ⟨rfl, (Below.refl _ _).alloc (Nat.le_refl _) _⟩
set_option maxRecDepth 100000 in
set_option maxHeartbeats 2000000 in
theorem sh6_b (nn ct : Int) (ut un : Value) (w : World) (_h0 : 0 ≤ ct) (_h1 : ct ≤ 6000) (h : ¬ ct < 2) :
    Calls Try.prog 71 #[.agg #[.int .i64 6, .int .i64 nn, ut, un, .int .i64 ct]] w fun x w' => x = .returned (.string (rep { data := #[101, 98] } (ct / 2).toNat ++ rep { data := #[98] } (ct % 2).toNat)) ∧ Below w.heap.size w w' := by
  have hlim : ¬ 9223372036854775807 < (rep { data := #[101, 98] } (ct / 2).toNat).size + (rep { data := #[98] } (ct % 2).toNat).size := by
    rw [rep_size, rep_size]
    have a1 : (ByteArray.mk #[101, 98]).size = 2 := rfl
    have a2 : (ByteArray.mk #[98]).size = 1 := rfl
    rw [a1, a2]; omega
  go_enter Try.func71, Try.ntmps71
  go_wp2_with (go_at_call 79; refine (l3many_any _ _ _ (by omega) (by omega) (by decide)).mono ?_; rintro x w' ⟨rfl, hw⟩; replace hw := hw.symm; subst hw)
  go_ret
  exact ⟨rfl, (Below.refl _ _).alloc (Nat.le_refl _) _⟩
set_option maxRecDepth 100000 in
set_option maxHeartbeats 2000000 in
theorem sh7_a (nn ct : Int) (ut un : Value) (w : World) (_h0 : 0 ≤ ct) (_h1 : ct ≤ 6000) (h : ct = 4) :
    Calls Try.prog 71 #[.agg #[.int .i64 7, .int .i64 nn, ut, un, .int .i64 ct]] w fun x w' => x = .returned (.string ({ data := #[101, 101, 101, 98] })) ∧ Below w.heap.size w w' := by
  subst h
  go_enter Try.func71, Try.ntmps71
  go_wp2_with (go_at_call 79; refine (l3many_any _ _ _ (by omega) (by omega) (by decide)).mono ?_; rintro x w' ⟨rfl, hw⟩; replace hw := hw.symm; subst hw)
  go_ret
  exact ⟨rfl, (Below.refl _ _).alloc (Nat.le_refl _) _⟩
set_option maxRecDepth 100000 in
set_option maxHeartbeats 2000000 in
theorem sh7_b (nn ct : Int) (ut un : Value) (w : World) (_h0 : 0 ≤ ct) (_h1 : ct ≤ 6000) (h : ¬ ct = 4) :
    Calls Try.prog 71 #[.agg #[.int .i64 7, .int .i64 nn, ut, un, .int .i64 ct]] w fun x w' => x = .returned (.string ({ data := #[101, 101, 98] })) ∧ Below w.heap.size w w' := by
  have e1 : (ct == 4) = false := by simp; omega
  go_enter Try.func71, Try.ntmps71
  go_wp2_with (go_at_call 79; refine (l3many_any _ _ _ (by omega) (by omega) (by decide)).mono ?_; rintro x w' ⟨rfl, hw⟩; replace hw := hw.symm; subst hw)
  go_ret
  exact ⟨rfl, (Below.refl _ _).alloc (Nat.le_refl _) _⟩
set_option maxRecDepth 100000 in
set_option maxHeartbeats 2000000 in
theorem sh20_a (nn ct : Int) (ut un : Value) (w : World) (_h0 : 0 ≤ ct) (_h1 : ct ≤ 6000) (h : ¬ ct % 2 = 0) :
    Calls Try.prog 71 #[.agg #[.int .i64 20, .int .i64 nn, ut, un, .int .i64 ct]] w fun x w' => x = .returned (.string ({ data := #[63] })) ∧ Below w.heap.size w w' := by
  have e1 : (ct % 2 != 0) = true := bne_iff_ne.mpr h
  go_enter Try.func71, Try.ntmps71
  go_wp2_with (go_at_call 79; refine (l3many_any _ _ _ (by omega) (by omega) (by decide)).mono ?_; rintro x w' ⟨rfl, hw⟩; replace hw := hw.symm; subst hw)
  go_ret
  exact ⟨rfl, (Below.refl _ _).alloc (Nat.le_refl _) _⟩
set_option maxRecDepth 100000 in
set_option maxHeartbeats 2000000 in
theorem sh20_b (nn ct : Int) (ut un : Value) (w : World) (_h0 : 0 ≤ ct) (_h1 : ct ≤ 6000) (h : ct % 2 = 0) :
    Calls Try.prog 71 #[.agg #[.int .i64 20, .int .i64 nn, ut, un, .int .i64 ct]] w fun x w' => x = .returned (.string (rep { data := #[101] } ct.toNat)) ∧ Below w.heap.size w w' := by
  go_enter Try.func71, Try.ntmps71
  go_wp2_with (go_at_call 79; refine (l3many_any _ _ _ (by omega) (by omega) (by decide)).mono ?_; rintro x w' ⟨rfl, hw⟩; replace hw := hw.symm; subst hw)
  go_ret
  exact ⟨rfl, (Below.refl _ _).alloc (Nat.le_refl _) _⟩
end Go.Proofs.Ytepbddfpdlapbaa.vt
