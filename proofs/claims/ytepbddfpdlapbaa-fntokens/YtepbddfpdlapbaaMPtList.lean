import Derived.Handy
import Derived.Laws.BytesArg
import Derived.Test.YtepbddfpdlapbaaMVtShapeB
namespace Go.Proofs.Ytepbddfpdlapbaa.vt
open Go.RowKit Go.Proofs.Ytepbddfpdlapbaa.bts Go.Proofs.Ytepbddfpdlapbaa.nod
def b1 (c : UInt8) : ByteArray := { data := #[c] }
def ind (level : Nat) : ByteArray := rep { data := #[32, 32] } level
set_option maxRecDepth 100000 in
set_option maxHeartbeats 2000000 in
theorem l3indent_any (n : Nat) (w : World) (hk : n ≤ 1000000) :
    Calls Try.prog 64 #[.int .i64 n] w fun x w' => x = .returned (.string (ind n)) ∧ w' = w := by
  go_enter Try.func64, Try.ntmps64
  go_wp2
  go_loop [3, 4] (fun p q => ∃ (m : Nat) (s : ByteArray), m ≤ n ∧ p = .string s ∧ q = .int .i64 m ∧ Hid (s = ind m)) (fun _ q => n - (intOf q).toNat)
  case atStart => exact ⟨0, _, Nat.zero_le _, rfl, rfl, rfl⟩
  case round =>
    obtain ⟨m, s, hm, rfl, rfl, HS⟩ := hrel
    by_cases hlt : m < n
    · have hsz : s.size ≤ 2000000 := by
        rw [HS.out, ind, rep_size]
        have : m * 2 ≤ 1000000 * 2 := Nat.mul_le_mul (by omega) (Nat.le_refl _)
        exact this
      have hlim : ¬ 9223372036854775807 < s.size + 2 := by omega
      go_wp2
      go_round
      case rel => exact ⟨m + 1, _, by omega, rfl, by go_num, by show _ = _; rw [HS.out, ind, ind, rep]⟩
      case measure => simp [intOf]; omega
    · have hmn : m = n := by omega
      subst hmn
      go_wp2
      go_ret
      exact ⟨ret_s HS.out, rfl⟩
def paren (s : ByteArray) (yes : Bool) : ByteArray := if yes then (b1 40 ++ s) ++ b1 41 else s
set_option maxRecDepth 100000 in
theorem l3paren_any (s : ByteArray) (yes : Bool) (w : World) (hs : s.size ≤ 1000000000) :
    Calls Try.prog 87 #[.string s, .bool yes] w fun x w' => x = .returned (.string (paren s yes)) ∧ w' = w := by
  cases yes with
  | false =>
    go_enter Try.func87, Try.ntmps87
    go_wp2
    go_ret
    exact ⟨rfl, rfl⟩
  | true =>
    have h1 : ¬ 9223372036854775807 < 1 + s.size := by omega
    have h2 : ¬ 9223372036854775807 < 1 + s.size + 1 := by omega
    go_enter Try.func87, Try.ntmps87
    go_wp2
    go_ret
    exact ⟨rfl, rfl⟩
def joinK (nms : List (List Int)) : Nat → ByteArray
  | 0 => { data := #[] }
  | k + 1 => (if 0 < k then joinK nms k ++ { data := #[44, 32] } else joinK nms k) ++ strOfNums (nms.getD k [])
theorem joinK_size (nms : List (List Int)) : ∀ k, k ≤ nms.length → (joinK nms k).size ≤ lens nms k + 2 * k
  | 0, _ => by rw [joinK]; exact Nat.zero_le _
  | k + 1, h => by
    have ih := joinK_size nms k (by omega)
    have e := lens_succ (l := nms) (k := k) (by omega)
    rw [joinK, ByteArray.size_append, strOfNums_size]
    by_cases hk : 0 < k
    · rw [if_pos hk, ByteArray.size_append]
      have : (ByteArray.mk #[44, 32]).size = 2 := rfl
      omega
    · rw [if_neg hk]; omega
set_option maxRecDepth 100000 in
set_option maxHeartbeats 2000000 in
theorem l3list_any (v : Value) (nms : List (List Int)) (w : World) (hr : RdVV w v nms) (hs : sizeSS nms ≤ 1048576) (hne : ∀ i, i < nms.length → 0 < (nms.getD i []).length) :
    Calls Try.prog 75 #[v] w fun x w' => x = .returned (.string (joinK nms nms.length)) ∧ w' = w := by
  obtain ⟨ao, cap, rfl, _, hx⟩ := hr
  obtain ⟨n, hn⟩ : ∃ n, n = nms.length := ⟨_, rfl⟩
  have hnb : n ≤ 1048576 := by unfold sizeSS at hs; omega
  have HN : Hid (n = nms.length) := hn
  have HX : Hid (∀ i, i < n → ∃ b off u, ao = some ⟨b, off, none⟩ ∧ w.cell? ⟨b, off + i, none⟩ = some u ∧ RdV w u (nms.getD i [])) := fun i hi => hx i (by omega)
  have HS : Hid (sizeSS nms ≤ 1048576) := hs
  rw [← hn]
  have HE : Hid (∀ i, i < nms.length → 0 < (nms.getD i []).length) := hne
  clear hx hn hs hne
  go_enter Try.func75, Try.ntmps75
  go_wp2
  go_loop [3, 4] (fun p q => ∃ (k : Nat) (s : ByteArray), k ≤ n ∧ p = .string s ∧ q = .int .i64 k ∧ Hid (s = joinK nms k)) (fun _ q => n - (intOf q).toNat)
  case atStart => exact ⟨0, _, Nat.zero_le _, rfl, rfl, rfl⟩
  case round =>
    obtain ⟨k, s, hk, rfl, rfl, HK⟩ := hrel
    by_cases hlt : k < n
    · obtain ⟨b, off, u, rfl, hcu, a2, c2, rfl, _, hrd, hbt⟩ := HX.out k hlt
      obtain ⟨b2, off2, rfl, _, hcell⟩ := hrd.at (HE.out k (by have := HN.out; omega))
      have CV : (convert 22 9 (.slice (some ⟨b2, off2, none⟩) (nms.getD k []).length c2)).run Try.prog w = .ok (.string (strOfNums (nms.getD k []))) w :=
        run_convert_bytes_arg w 22 5 Try.underlying22 Try.underlying5 b2 off2 _ c2 (nms.getD k []) rfl (fun i hi => hcell i (by omega)) 9 Try.underlying9
      have hsz := joinK_size nms k (by have := HN.out; omega)
      have hl1 := lens_succ (l := nms) (k := k) (by have := HN.out; omega)
      have hl2 := lens_le nms (nms.length - (k + 1)) (k + 1) (by have := HN.out; omega)
      have hss : lens nms nms.length ≤ 1048576 := by have := HS.out; unfold sizeSS at this; omega
      have hstr := strOfNums_size (nms.getD k [])
      rw [← HK.out] at hsz
      have hm1 : ¬ 9223372036854775807 < s.size + 2 := by omega
      have hm2 : ¬ 9223372036854775807 < s.size + (strOfNums (nms.getD k [])).size := by omega
      have hm3 : ¬ 9223372036854775807 < s.size + 2 + (strOfNums (nms.getD k [])).size := by omega
      have hnx : Hid (∀ t, t = (if 0 < k then s ++ { data := #[44, 32] } else s) ++ strOfNums (nms.getD k []) → t = joinK nms (k + 1)) := fun t ht => by rw [ht, joinK, ← HK.out]
      generalize strOfNums (nms.getD k []) = tx at CV hm2 hm3 hnx
      generalize (nms.getD k []).length = ln at CV hcu
      have i1 : (k : Int) < (n : Int) := by omega
      clear hcell hrd hbt hsz hl1 hl2 hss hstr
      by_cases hk0 : 0 < k
      · have d0 : decide ((0 : Int) < (k : Int)) = true := by simp; omega
        go_wp2
        go_round
        case rel => exact ⟨k + 1, _, by omega, rfl, by go_num, by show _ = _; exact hnx.out _ (by rw [if_pos hk0])⟩
        case measure => simp [intOf]; omega
      · have hk1 : k = 0 := by omega
        subst hk1
        rw [Nat.add_zero] at hcu
        go_wp2
        go_round
        case rel => exact ⟨1, _, by omega, rfl, by go_num, by show _ = _; exact hnx.out _ (by rw [if_neg (by omega)])⟩
        case measure => simp [intOf]; omega
    · have hkn : k = n := by omega
      subst hkn
      go_wp2
      go_ret
      exact ⟨ret_s HK.out, rfl⟩
def hexdig : ByteArray := { data := #[48, 49, 50, 51, 52, 53, 54, 55, 56, 57, 97, 98, 99, 100, 101, 102] }
def hx (u : Nat) : Nat → ByteArray
  | 0 => { data := #[] }
  | i + 1 => hexdig.extract (u / 16 ^ i % 16) (u / 16 ^ i % 16 + 1) ++ hx u i
theorem hx_size (u : Nat) : ∀ i, (hx u i).size ≤ i
  | 0 => Nat.le_refl _
  | i + 1 => by
    have ih := hx_size u i
    rw [hx, ByteArray.size_append, ByteArray.size_extract]
    omega
theorem sl16 (m : Nat) (hm : m < 16) (W : World) : (Instr.slice 9 (.string { data := #[48, 49, 50, 51, 52, 53, 54, 55, 56, 57, 97, 98, 99, 100, 101, 102] }) (some (.int .u64 (m : Int))) (some (.int .u64 ((m : Int) + 1))) none).run Try.prog W = .ok (.string (hexdig.extract m (m + 1))) W := by
  have : m = 0 ∨ m = 1 ∨ m = 2 ∨ m = 3 ∨ m = 4 ∨ m = 5 ∨ m = 6 ∨ m = 7 ∨ m = 8 ∨ m = 9 ∨ m = 10 ∨ m = 11 ∨ m = 12 ∨ m = 13 ∨ m = 14 ∨ m = 15 := by omega
  rcases this with rfl | rfl | rfl | rfl | rfl | rfl | rfl | rfl | rfl | rfl | rfl | rfl | rfl | rfl | rfl | rfl
  all_goals
    revert W
    intro W
    show _ = _
    kernel_rfl
set_option maxRecDepth 100000 in
set_option maxHeartbeats 2000000 in
theorem hex_of (v : Int) (u : Nat) (hw : IntKind.u64.wrap v = (u : Int)) (hub : u < 18446744073709551616) (w : World) :
    Calls Try.prog 83 #[.int .i64 v] w fun x w' => x = .returned (.string ({ data := #[48, 120] } ++ hx u 16)) ∧ w' = w := by
  go_enter Try.func83, Try.ntmps83
  go_wp2
  go_loop [4, 5, 6] (fun p q r => ∃ (i c : Nat) (s : ByteArray), i ≤ 16 ∧ p = .int .u64 c ∧ q = .string s ∧ r = .int .i64 i ∧ Hid (c = u / 16 ^ i) ∧ Hid (s = hx u i)) (fun _ _ r => 16 - (intOf r).toNat)
  case atStart => exact ⟨0, u, _, by omega, rfl, rfl, rfl, by show _ = _; simp, rfl⟩
  case round =>
    obtain ⟨i, c, s, hi, rfl, rfl, rfl, HC, HS⟩ := hrel
    by_cases hlt : i < 16
    · have hsz : s.size ≤ 16 := by rw [HS.out]; have := hx_size u i; omega
      have hcb : c < 18446744073709551616 := by rw [HC.out]; exact Nat.lt_of_le_of_lt (Nat.div_le_self _ _) hub
      have d1 : decide ((i : Int) < 16) = true := by simp; omega
      have SL := fun W => sl16 (c % 16) (Nat.mod_lt _ (by decide)) W
      rw [show ((c % 16 : Nat) : Int) = (c : Int) % 16 by omega] at SL
      have hex : (hexdig.extract (c % 16) (c % 16 + 1)).size ≤ 1 := by rw [ByteArray.size_extract]; omega
      have hnx : Hid (∀ t, t = hexdig.extract (c % 16) (c % 16 + 1) ++ s → t = hx u (i + 1)) := fun t ht => by rw [ht, hx, ← HC.out, ← HS.out]
      have hnc : Hid (c / 16 = u / 16 ^ (i + 1)) := by show _ = _; rw [HC.out, Nat.div_div_eq_div_mul, Nat.pow_succ]
      generalize hexdig.extract (c % 16) (c % 16 + 1) = dg at SL hex hnx
      have hm1 : ¬ 9223372036854775807 < dg.size + s.size := by omega
      go_wp2
      go_round
      case rel => exact ⟨i + 1, c / 16, _, by omega, by first | rfl | (congr 1; omega), rfl, by go_num, hnc, by show _ = _; exact hnx.out _ rfl⟩
      case measure => simp [intOf]; omega
    · have hi2 : i = 16 := by omega
      subst hi2
      have hsz : s.size ≤ 16 := by rw [HS.out]; exact hx_size u 16
      have hm1 : ¬ 9223372036854775807 < 2 + s.size := by omega
      go_wp2
      go_ret
      exact ⟨ret_s (by rw [HS.out]), rfl⟩
theorem hex_ex (v : Int) : ∃ s : ByteArray, s.size ≤ 18 ∧ ∀ w, Calls Try.prog 83 #[.int .i64 v] w fun x w' => x = .returned (.string s) ∧ w' = w := by
  have e : IntKind.u64.wrap v = v % 18446744073709551616 := rfl
  refine ⟨{ data := #[48, 120] } ++ hx (v % 18446744073709551616).toNat 16, ?_, fun w => hex_of v _ (by rw [e]; omega) (by omega) w⟩
  rw [ByteArray.size_append]
  have h1 := hx_size (v % 18446744073709551616).toNat 16
  have h2 : (ByteArray.mk #[48, 120]).size = 2 := rfl
  omega
end Go.Proofs.Ytepbddfpdlapbaa.vt
