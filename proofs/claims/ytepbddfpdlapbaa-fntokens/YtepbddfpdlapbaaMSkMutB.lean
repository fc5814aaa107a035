import Derived.Test.YtepbddfpdlapbaaMSkAnyB
namespace Go.Proofs.Ytepbddfpdlapbaa.tk
open Go.RowKit Go.Proofs.Ytepbddfpdlapbaa.bts Go.Proofs.Ytepbddfpdlapbaa.nod Go.Proofs.Ytepbddfpdlapbaa.fmt
def adds (b t : ByteArray) : Nat → ByteArray
  | 0 => b
  | k + 1 => adds b t k ++ t
theorem adds_size (b t : ByteArray) : ∀ k, (adds b t k).size = b.size + k * t.size
  | 0 => by rw [adds]; omega
  | k + 1 => by rw [adds, ByteArray.size_append, adds_size b t k, Nat.succ_mul]; omega
set_option maxRecDepth 100000 in
set_option maxHeartbeats 1000000 in
theorem any_not {bs : List Int} (hb : Bts bs) (hl : bs.length ≤ 600) (i : Nat) (hk1 : nx bs i = 7) (k2 : Nat) (hk2 : nx bs (nxi bs i) = (k2 : Int)) (kb2 : k2 ≤ 255) (m : Nat) (hm : (k2 : Int) % 8 = (m : Int)) (_hm3 : m < 8) : ReadsB bs 10 i (nums ((adds { data := #[108, 111, 99, 97, 108, 32, 97, 32, 61, 32] } { data := #[110, 111, 116, 32] } (195 + m)) ++ { data := #[49] })) (nxi bs (nxi bs i)) := by
  intro w0 w av cv r hr hR
  have R0 : Hid (Rr w0 av cv bs w r i) := hR
  have HR : Hid (Rd w0 av bs) := hr
  obtain ⟨n, hn⟩ : ∃ n, n = 195 + m := ⟨_, rfl⟩
  have HN : Hid (n = 195 + m) := hn
  have hnb : n ≤ 1000 := by omega
  have hni : 195 + (m : Int) = (n : Int) := by omega
  rw [← hn]
  clear hr hR hn
  go_enter Try.func10, Try.ntmps10
  go_wp2_with (first
    | (go_at_call 9; refine Calls.mono (next_any w0 _ av cv r _ bs HR.out hb hl R1.out) ?_; rintro e w2 ⟨rfl, hR2, hF2⟩; have R2 : Hid (Rr w0 av cv bs w2 r (nxi bs (nxi bs i))) := hR2; have F2 : Hid (Fq r w w2) := F1.out.trans hF2; clear hR2 hF2; (try rw [hk2]); (try rw [hm]))
    | (go_at_call 9; refine Calls.mono (next_any w0 _ av cv r _ bs HR.out hb hl R0.out) ?_; rintro e w1 ⟨rfl, hR1, hF1⟩; have R1 : Hid (Rr w0 av cv bs w1 r (nxi bs i)) := hR1; have F1 : Hid (Fq r w w1) := hF1; clear hR1 hF1; (try rw [hk1])))
  try rw [hni]
  go_loopw [8, 9] (fun p q wr => ∃ (k : Nat) (s : ByteArray), k ≤ n ∧ s.size ≤ 10 + k * 4 ∧ p = .string s ∧ q = .int .i64 (k : Int) ∧ Hid (s = adds { data := #[108, 111, 99, 97, 108, 32, 97, 32, 61, 32] } { data := #[110, 111, 116, 32] } k) ∧ Hid (wr = w2)) (fun _ q _ => n - (intOf q).toNat)
  case atStart => exact ⟨0, _, Nat.zero_le _, by decide, rfl, rfl, rfl, rfl⟩
  case round =>
    obtain ⟨k, s, hk, hsz, rfl, rfl, HK, HW⟩ := hrel
    have hw : wr = w2 := HW.out
    subst hw
    by_cases hlt : k < n
    · have i1 : (k : Int) < (n : Int) := by omega
      have z0 : ¬ 9223372036854775807 < s.size + 4 := by omega
      have hs2 : (s ++ { data := #[110, 111, 116, 32] }).size ≤ 10 + (k + 1) * 4 := by rw [ByteArray.size_append]; have : (ByteArray.mk #[110, 111, 116, 32]).size = 4 := rfl; omega
      go_wp2
      refine ⟨⟨k + 1, _, by omega, hs2, rfl, by go_num, by show _ = _; rw [adds, ← HK.out], by first | exact trivial | rfl⟩, by simp [intOf]; omega⟩
    · obtain rfl : k = n := by omega
      have z0 : ¬ 9223372036854775807 < s.size + 1 := by omega
      have HS : Hid (adds { data := #[108, 111, 99, 97, 108, 32, 97, 32, 61, 32] } { data := #[110, 111, 116, 32] } k = s) := HK.out.symm
      have kv := Lib.run_convert_string_bytes wr 9 22 5 (s ++ { data := #[49] }) Try.underlying9 Try.underlying22 Try.underlying5
      have hz : (s ++ { data := #[49] }).size ≤ maxLen := by rw [ByteArray.size_append]; have : (ByteArray.mk #[49]).size = 1 := rfl; unfold maxLen; omega
      have O4 := (OwB.text wr (s ++ { data := #[49] }) hz).mono F2.out.below.size
      have e1 : (s ++ { data := #[49] }).size = s.size + 1 := by rw [ByteArray.size_append]; rfl
      rw [e1] at O4 kv
      have O4 : Hid _ := O4
      have R4 : Hid (Rr w0 av cv bs (Lib.bytesWorld wr 5 (s ++ { data := #[49] })) r (nxi bs (nxi bs i))) := R2.out.keep (bel_bytes _ _)
      have F4 : Hid (Fq r w (Lib.bytesWorld wr 5 (s ++ { data := #[49] }))) := fq_below F2.out R2.out.lt (bel_bytes _ _)
      go_wp2
      go_returns
      exact ⟨_, rfl, by rw [HS.out]; exact O4.out, R4.out, F4.out⟩
set_option maxRecDepth 100000 in
set_option maxHeartbeats 1000000 in
theorem any_local {bs : List Int} (hb : Bts bs) (hl : bs.length ≤ 600) (i : Nat) (hk1 : nx bs i = 9) (k2 : Nat) (hk2 : nx bs (nxi bs i) = (k2 : Int)) (kb2 : k2 ≤ 255) (m : Nat) (hm : (k2 : Int) % 4 = (m : Int)) (_hm3 : m < 4) : ReadsB bs 10 i (nums (adds { data := #[] } { data := #[108, 111, 99, 97, 108, 32, 97, 32] } (198 + m))) (nxi bs (nxi bs i)) := by
  intro w0 w av cv r hr hR
  have R0 : Hid (Rr w0 av cv bs w r i) := hR
  have HR : Hid (Rd w0 av bs) := hr
  obtain ⟨n, hn⟩ : ∃ n, n = 198 + m := ⟨_, rfl⟩
  have HN : Hid (n = 198 + m) := hn
  have hnb : n ≤ 1000 := by omega
  have hni : 198 + (m : Int) = (n : Int) := by omega
  rw [← hn]
  clear hr hR hn
  go_enter Try.func10, Try.ntmps10
  go_wp2_with (first
    | (go_at_call 9; refine Calls.mono (next_any w0 _ av cv r _ bs HR.out hb hl R1.out) ?_; rintro e w2 ⟨rfl, hR2, hF2⟩; have R2 : Hid (Rr w0 av cv bs w2 r (nxi bs (nxi bs i))) := hR2; have F2 : Hid (Fq r w w2) := F1.out.trans hF2; clear hR2 hF2; (try rw [hk2]); (try rw [hm]))
    | (go_at_call 9; refine Calls.mono (next_any w0 _ av cv r _ bs HR.out hb hl R0.out) ?_; rintro e w1 ⟨rfl, hR1, hF1⟩; have R1 : Hid (Rr w0 av cv bs w1 r (nxi bs i)) := hR1; have F1 : Hid (Fq r w w1) := hF1; clear hR1 hF1; (try rw [hk1])))
  try rw [hni]
  go_loopw [15, 16] (fun p q wr => ∃ (k : Nat) (s : ByteArray), k ≤ n ∧ s.size ≤ 0 + k * 8 ∧ p = .string s ∧ q = .int .i64 (k : Int) ∧ Hid (s = adds { data := #[] } { data := #[108, 111, 99, 97, 108, 32, 97, 32] } k) ∧ Hid (wr = w2)) (fun _ q _ => n - (intOf q).toNat)
  case atStart => exact ⟨0, _, Nat.zero_le _, by decide, rfl, rfl, rfl, rfl⟩
  case round =>
    obtain ⟨k, s, hk, hsz, rfl, rfl, HK, HW⟩ := hrel
    have hw : wr = w2 := HW.out
    subst hw
    by_cases hlt : k < n
    · have i1 : (k : Int) < (n : Int) := by omega
      have z0 : ¬ 9223372036854775807 < s.size + 8 := by omega
      have hs2 : (s ++ { data := #[108, 111, 99, 97, 108, 32, 97, 32] }).size ≤ 0 + (k + 1) * 8 := by rw [ByteArray.size_append]; have : (ByteArray.mk #[108, 111, 99, 97, 108, 32, 97, 32]).size = 8 := rfl; omega
      go_wp2
      refine ⟨⟨k + 1, _, by omega, hs2, rfl, by go_num, by show _ = _; rw [adds, ← HK.out], by first | exact trivial | rfl⟩, by simp [intOf]; omega⟩
    · obtain rfl : k = n := by omega
      have z0 : ¬ 9223372036854775807 < s.size + 1 := by omega
      have HS : Hid (adds { data := #[] } { data := #[108, 111, 99, 97, 108, 32, 97, 32] } k = s) := HK.out.symm
      have kv := Lib.run_convert_string_bytes wr 9 22 5 s Try.underlying9 Try.underlying22 Try.underlying5
      have hz : s.size ≤ maxLen := by unfold maxLen; omega
      have O4 := (OwB.text wr s hz).mono F2.out.below.size
      have O4 : Hid _ := O4
      have R4 : Hid (Rr w0 av cv bs (Lib.bytesWorld wr 5 s) r (nxi bs (nxi bs i))) := R2.out.keep (bel_bytes _ _)
      have F4 : Hid (Fq r w (Lib.bytesWorld wr 5 s)) := fq_below F2.out R2.out.lt (bel_bytes _ _)
      go_wp2
      go_returns
      exact ⟨_, rfl, by rw [HS.out]; exact O4.out, R4.out, F4.out⟩
theorem adds_pos (b t : ByteArray) (k : Nat) (h : 0 < b.size) : 0 < (adds b t k).size := by rw [adds_size]; omega
theorem adds_first (b t : ByteArray) : ∀ (k : Nat) (h : 0 < b.size), (adds b t k)[0]'(adds_pos b t k h) = b[0]'h
  | 0, _ => rfl
  | k + 1, h => by
    have := adds_first b t k h
    rw [← this]
    simp only [adds]
    exact ByteArray.getElem_append_left (adds_pos b t k h)
set_option maxRecDepth 100000 in
set_option maxHeartbeats 1000000 in
theorem any_names {bs : List Int} (hb : Bts bs) (hl : bs.length ≤ 600) (i : Nat) (hk1 : nx bs i = 6) (k2 : Nat) (hk2 : nx bs (nxi bs i) = (k2 : Int)) (kb2 : k2 ≤ 255) (m : Nat) (hm : (k2 : Int) % 3 = (m : Int)) (_hm3 : m < 3) (k3 : Nat) (hk3 : nx bs (nxi bs (nxi bs i)) = (k3 : Int)) (kb3 : k3 ≤ 255) (hp : (k3 : Int) % 2 = 0) : ReadsB bs 10 i (nums (adds { data := #[108, 111, 99, 97, 108, 32, 97] } { data := #[44, 97] } (48 + m))) (nxi bs (nxi bs (nxi bs i))) := by
  intro w0 w av cv r hr hR
  have R0 : Hid (Rr w0 av cv bs w r i) := hR
  have HR : Hid (Rd w0 av bs) := hr
  obtain ⟨n, hn⟩ : ∃ n, n = 48 + m := ⟨_, rfl⟩
  have HN : Hid (n = 48 + m) := hn
  have hnb : n ≤ 1000 := by omega
  have hni : 49 + (m : Int) = (n : Int) + 1 := by omega
  rw [← hn]
  clear hr hR hn
  go_enter Try.func10, Try.ntmps10
  go_wp2_with (first
    | (go_at_call 9; refine Calls.mono (next_any w0 _ av cv r _ bs HR.out hb hl R2.out) ?_; rintro e w3 ⟨rfl, hR3, hF3⟩; have R3 : Hid (Rr w0 av cv bs w3 r (nxi bs (nxi bs (nxi bs i)))) := hR3; have F3 : Hid (Fq r w w3) := F2.out.trans hF3; clear hR3 hF3; (try rw [hk3]); (try rw [hp]))
    | (go_at_call 9; refine Calls.mono (next_any w0 _ av cv r _ bs HR.out hb hl R1.out) ?_; rintro e w2 ⟨rfl, hR2, hF2⟩; have R2 : Hid (Rr w0 av cv bs w2 r (nxi bs (nxi bs i))) := hR2; have F2 : Hid (Fq r w w2) := F1.out.trans hF2; clear hR2 hF2; (try rw [hk2]); (try rw [hm]))
    | (go_at_call 9; refine Calls.mono (next_any w0 _ av cv r _ bs HR.out hb hl R0.out) ?_; rintro e w1 ⟨rfl, hR1, hF1⟩; have R1 : Hid (Rr w0 av cv bs w1 r (nxi bs i)) := hR1; have F1 : Hid (Fq r w w1) := hF1; clear hR1 hF1; (try rw [hk1])))
  try rw [hni]
  go_loopw [5, 6] (fun p q wr => ∃ (k : Nat) (s : ByteArray), k ≤ n ∧ s.size ≤ 7 + k * 2 ∧ 0 < s.size ∧ p = .string s ∧ q = .int .i64 ((k : Int) + 1) ∧ Hid (s = adds { data := #[108, 111, 99, 97, 108, 32, 97] } { data := #[44, 97] } k) ∧ Hid (wr = w3)) (fun _ q _ => n + 1 - (intOf q).toNat)
  case atStart => exact ⟨0, _, Nat.zero_le _, by decide, by decide, rfl, rfl, rfl, rfl⟩
  case round =>
    obtain ⟨k, s, hk, hsz, hs0, rfl, rfl, HK, HW⟩ := hrel
    have hw : wr = w3 := HW.out
    subst hw
    by_cases hlt : k < n
    · have i1 : (k : Int) + 1 < (n : Int) + 1 := by omega
      have z0 : ¬ 9223372036854775807 < s.size + 2 := by omega
      have e2 : (s ++ { data := #[44, 97] }).size = s.size + 2 := by rw [ByteArray.size_append]; rfl
      have hs2 : (s ++ { data := #[44, 97] }).size ≤ 7 + (k + 1) * 2 := by omega
      go_wp2
      refine ⟨⟨k + 1, _, by omega, hs2, by omega, rfl, by go_num, by show _ = _; rw [adds, ← HK.out], by first | exact trivial | rfl⟩, by simp [intOf]; omega⟩
    · obtain rfl : k = n := by omega
      have z0 : ¬ 9223372036854775807 < s.size + 1 := by omega
      have HS : Hid (adds { data := #[108, 111, 99, 97, 108, 32, 97] } { data := #[44, 97] } k = s) := HK.out.symm
      have h1 : s[0]'hs0 = 108 := by
        have := adds_first { data := #[108, 111, 99, 97, 108, 32, 97] } { data := #[44, 97] } k (by decide)
        simp only [HS.out] at this
        exact this
      have kv := Lib.run_convert_string_bytes wr 9 22 5 s Try.underlying9 Try.underlying22 Try.underlying5
      have hz : s.size ≤ maxLen := by unfold maxLen; omega
      have O4 := (OwB.text wr s hz).mono F3.out.below.size
      have O4 : Hid _ := O4
      have R4 : Hid (Rr w0 av cv bs (Lib.bytesWorld wr 5 s) r (nxi bs (nxi bs (nxi bs i)))) := R3.out.keep (bel_bytes _ _)
      have F4 : Hid (Fq r w (Lib.bytesWorld wr 5 s)) := fq_below F3.out R3.out.lt (bel_bytes _ _)
      go_wp2
      go_returns
      exact ⟨_, rfl, by rw [HS.out]; exact O4.out, R4.out, F4.out⟩
set_option maxRecDepth 100000 in
set_option maxHeartbeats 1000000 in
theorem any_args {bs : List Int} (hb : Bts bs) (hl : bs.length ≤ 600) (i : Nat) (hk1 : nx bs i = 6) (k2 : Nat) (hk2 : nx bs (nxi bs i) = (k2 : Int)) (kb2 : k2 ≤ 255) (m : Nat) (hm : (k2 : Int) % 3 = (m : Int)) (_hm3 : m < 3) (k3 : Nat) (hk3 : nx bs (nxi bs (nxi bs i)) = (k3 : Int)) (kb3 : k3 ≤ 255) (hp : (k3 : Int) % 2 = 1) : ReadsB bs 10 i (nums ((adds { data := #[112, 114, 105, 110, 116, 40, 49] } { data := #[44, 97] } (48 + m)) ++ { data := #[41] })) (nxi bs (nxi bs (nxi bs i))) := by
  intro w0 w av cv r hr hR
  have R0 : Hid (Rr w0 av cv bs w r i) := hR
  have HR : Hid (Rd w0 av bs) := hr
  obtain ⟨n, hn⟩ : ∃ n, n = 48 + m := ⟨_, rfl⟩
  have HN : Hid (n = 48 + m) := hn
  have hnb : n ≤ 1000 := by omega
  have hni : 49 + (m : Int) = (n : Int) + 1 := by omega
  rw [← hn]
  clear hr hR hn
  go_enter Try.func10, Try.ntmps10
  go_wp2_with (first
    | (go_at_call 9; refine Calls.mono (next_any w0 _ av cv r _ bs HR.out hb hl R2.out) ?_; rintro e w3 ⟨rfl, hR3, hF3⟩; have R3 : Hid (Rr w0 av cv bs w3 r (nxi bs (nxi bs (nxi bs i)))) := hR3; have F3 : Hid (Fq r w w3) := F2.out.trans hF3; clear hR3 hF3; (try rw [hk3]); (try rw [hp]))
    | (go_at_call 9; refine Calls.mono (next_any w0 _ av cv r _ bs HR.out hb hl R1.out) ?_; rintro e w2 ⟨rfl, hR2, hF2⟩; have R2 : Hid (Rr w0 av cv bs w2 r (nxi bs (nxi bs i))) := hR2; have F2 : Hid (Fq r w w2) := F1.out.trans hF2; clear hR2 hF2; (try rw [hk2]); (try rw [hm]))
    | (go_at_call 9; refine Calls.mono (next_any w0 _ av cv r _ bs HR.out hb hl R0.out) ?_; rintro e w1 ⟨rfl, hR1, hF1⟩; have R1 : Hid (Rr w0 av cv bs w1 r (nxi bs i)) := hR1; have F1 : Hid (Fq r w w1) := hF1; clear hR1 hF1; (try rw [hk1])))
  try rw [hni]
  go_loopw [5, 6] (fun p q wr => ∃ (k : Nat) (s : ByteArray), k ≤ n ∧ s.size ≤ 7 + k * 2 ∧ 0 < s.size ∧ p = .string s ∧ q = .int .i64 ((k : Int) + 1) ∧ Hid (s = adds { data := #[112, 114, 105, 110, 116, 40, 49] } { data := #[44, 97] } k) ∧ Hid (wr = w3)) (fun _ q _ => n + 1 - (intOf q).toNat)
  case atStart => exact ⟨0, _, Nat.zero_le _, by decide, by decide, rfl, rfl, rfl, rfl⟩
  case round =>
    obtain ⟨k, s, hk, hsz, hs0, rfl, rfl, HK, HW⟩ := hrel
    have hw : wr = w3 := HW.out
    subst hw
    by_cases hlt : k < n
    · have i1 : (k : Int) + 1 < (n : Int) + 1 := by omega
      have z0 : ¬ 9223372036854775807 < s.size + 2 := by omega
      have e2 : (s ++ { data := #[44, 97] }).size = s.size + 2 := by rw [ByteArray.size_append]; rfl
      have hs2 : (s ++ { data := #[44, 97] }).size ≤ 7 + (k + 1) * 2 := by omega
      go_wp2
      refine ⟨⟨k + 1, _, by omega, hs2, by omega, rfl, by go_num, by show _ = _; rw [adds, ← HK.out], by first | exact trivial | rfl⟩, by simp [intOf]; omega⟩
    · obtain rfl : k = n := by omega
      have z0 : ¬ 9223372036854775807 < s.size + 1 := by omega
      have HS : Hid (adds { data := #[112, 114, 105, 110, 116, 40, 49] } { data := #[44, 97] } k = s) := HK.out.symm
      have h1 : s[0]'hs0 = 112 := by
        have := adds_first { data := #[112, 114, 105, 110, 116, 40, 49] } { data := #[44, 97] } k (by decide)
        simp only [HS.out] at this
        exact this
      have kv := Lib.run_convert_string_bytes wr 9 22 5 (s ++ { data := #[41] }) Try.underlying9 Try.underlying22 Try.underlying5
      have hz : (s ++ { data := #[41] }).size ≤ maxLen := by rw [ByteArray.size_append]; have : (ByteArray.mk #[41]).size = 1 := rfl; unfold maxLen; omega
      have O4 := (OwB.text wr (s ++ { data := #[41] }) hz).mono F3.out.below.size
      have e1 : (s ++ { data := #[41] }).size = s.size + 1 := by rw [ByteArray.size_append]; rfl
      rw [e1] at O4 kv
      have O4 : Hid _ := O4
      have R4 : Hid (Rr w0 av cv bs (Lib.bytesWorld wr 5 (s ++ { data := #[41] })) r (nxi bs (nxi bs (nxi bs i)))) := R3.out.keep (bel_bytes _ _)
      have F4 : Hid (Fq r w (Lib.bytesWorld wr 5 (s ++ { data := #[41] }))) := fq_below F3.out R3.out.lt (bel_bytes _ _)
      go_wp2
      go_returns
      exact ⟨_, rfl, by rw [HS.out]; exact O4.out, R4.out, F4.out⟩
def typeText : ByteArray := { data := ([32, 43, 32, 116, 121, 112, 101, 40, 49, 44, 50, 44, 51, 44, 52, 44, 53, 44, 54, 44, 55, 44, 56, 44, 57, 44, 49, 48, 44, 49, 49, 44, 49, 50, 44, 49, 51, 44, 49, 52, 44].append [49, 53, 44, 49, 54, 44, 49, 55, 44, 49, 56, 44, 49, 57, 44, 50, 48, 44, 50, 49, 44, 50, 50, 44, 50, 51, 44, 50, 52, 44, 50, 53, 44, 50, 54, 44, 50, 55, 44, 50, 56]).toArray }
theorem typeText_size : typeText.size = 82 := rfl
set_option maxRecDepth 100000 in
set_option maxHeartbeats 1000000 in
theorem any_stand {bs : List Int} (hb : Bts bs) (hl : bs.length ≤ 600) (i : Nat) (hk1 : nx bs i = 8) (k2 : Nat) (hk2 : nx bs (nxi bs i) = (k2 : Int)) (kb2 : k2 ≤ 255) (n : Nat) (hm : (k2 : Int) % 12 = (n : Int)) (hm3 : n < 12) : ReadsB bs 10 i (nums (adds (adds { data := #[108, 111, 99, 97, 108, 32, 97, 32, 61, 32, 49] } typeText n) { data := #[41] } n)) (nxi bs (nxi bs i)) := by
  intro w0 w av cv r hr hR
  have R0 : Hid (Rr w0 av cv bs w r i) := hR
  have HR : Hid (Rd w0 av bs) := hr
  clear hr hR
  go_enter Try.func10, Try.ntmps10
  go_wp2_with (first
    | (go_at_call 9; refine Calls.mono (next_any w0 _ av cv r _ bs HR.out hb hl R1.out) ?_; rintro e w2 ⟨rfl, hR2, hF2⟩; have R2 : Hid (Rr w0 av cv bs w2 r (nxi bs (nxi bs i))) := hR2; have F2 : Hid (Fq r w w2) := F1.out.trans hF2; clear hR2 hF2; (try rw [hk2]); (try rw [hm]))
    | (go_at_call 9; refine Calls.mono (next_any w0 _ av cv r _ bs HR.out hb hl R0.out) ?_; rintro e w1 ⟨rfl, hR1, hF1⟩; have R1 : Hid (Rr w0 av cv bs w1 r (nxi bs i)) := hR1; have F1 : Hid (Fq r w w1) := hF1; clear hR1 hF1; (try rw [hk1])))
  go_loopw [11, 12] (fun p q wr => ∃ (k : Nat) (s : ByteArray), k ≤ n ∧ s.size ≤ 11 + k * 82 ∧ p = .string s ∧ q = .int .i64 (k : Int) ∧ Hid (s = adds { data := #[108, 111, 99, 97, 108, 32, 97, 32, 61, 32, 49] } typeText k) ∧ Hid (wr = w2)) (fun _ q _ => n - (intOf q).toNat)
  case atStart => exact ⟨0, _, Nat.zero_le _, by decide, rfl, rfl, rfl, rfl⟩
  case round =>
    obtain ⟨k, s, hk, hsz, rfl, rfl, HK, HW⟩ := hrel
    have hw : wr = w2 := HW.out
    subst hw
    by_cases hlt : k < n
    · have i1 : (k : Int) < (n : Int) := by omega
      have z0 : ¬ 9223372036854775807 < s.size + 82 := by omega
      have hs2 : (s ++ typeText).size ≤ 11 + (k + 1) * 82 := by rw [ByteArray.size_append, typeText_size]; omega
      go_wp2
      refine ⟨⟨k + 1, _, by omega, hs2, rfl, by go_num, by show _ = _; rw [adds, ← HK.out], by first | exact trivial | rfl⟩, by simp [intOf]; omega⟩
    · obtain rfl : k = n := by omega
      have HA : Hid (adds { data := #[108, 111, 99, 97, 108, 32, 97, 32, 61, 32, 49] } typeText k = s) := HK.out.symm
      have hsa : s.size ≤ 1000 := by omega
      clear HK HW hlt hk
      go_wp2
      go_loopw [11, 13] (fun p q w4 => ∃ (j : Nat) (s2 : ByteArray), j ≤ k ∧ s2.size ≤ 1000 + j ∧ p = .string s2 ∧ q = .int .i64 (j : Int) ∧ Hid (s2 = adds s { data := #[41] } j) ∧ Hid (w4 = wr)) (fun _ q _ => k - (intOf q).toNat)
      case atStart => exact ⟨0, _, Nat.zero_le _, by omega, rfl, rfl, rfl, rfl⟩
      case round =>
        rename_i hrel
        obtain ⟨j, s2, hj, hsz2, rfl, rfl, HK, HW⟩ := hrel
        have hw2 := HW.out
        subst hw2
        by_cases hlt : j < k
        · have i1 : (j : Int) < (k : Int) := by omega
          have z0 : ¬ 9223372036854775807 < s2.size + 1 := by omega
          have hs2 : (s2 ++ { data := #[41] }).size ≤ 1000 + (j + 1) := by rw [ByteArray.size_append]; have : (ByteArray.mk #[41]).size = 1 := rfl; omega
          go_wp2
          refine ⟨⟨j + 1, _, by omega, hs2, rfl, by go_num, by show _ = _; rw [adds, ← HK.out], by first | exact trivial | rfl⟩, by simp [intOf]; omega⟩
        · obtain rfl : j = k := by omega
          have HS : Hid (adds (adds { data := #[108, 111, 99, 97, 108, 32, 97, 32, 61, 32, 49] } typeText j) { data := #[41] } j = s2) := by show _ = _; rw [HA.out]; exact HK.out.symm
          have kv := Lib.run_convert_string_bytes wr 9 22 5 s2 Try.underlying9 Try.underlying22 Try.underlying5
          have hz : s2.size ≤ maxLen := by unfold maxLen; omega
          have O4 := (OwB.text wr s2 hz).mono F2.out.below.size
          have O4 : Hid _ := O4
          have R4 : Hid (Rr w0 av cv bs (Lib.bytesWorld wr 5 s2) r (nxi bs (nxi bs i))) := R2.out.keep (bel_bytes _ _)
          have F4 : Hid (Fq r w (Lib.bytesWorld wr 5 s2)) := fq_below F2.out R2.out.lt (bel_bytes _ _)
          go_wp2
          go_returns
          exact ⟨_, rfl, by rw [HS.out]; exact O4.out, R4.out, F4.out⟩
def turn1 (kk a : Nat) (c : Int) (i : Nat) (z : Int) : List Int :=
  if i = a then (if kk = 0 then [] else if kk = 2 then [c] else [c, z]) else [z]
def turned (kk a : Nat) (c : Int) (zs : List Int) : Nat → List Int
  | 0 => []
  | k + 1 => turned kk a c zs k ++ turn1 kk a c k (zs.getD k 0)
theorem turn1_length (kk a : Nat) (c : Int) (i : Nat) (z : Int) : (turn1 kk a c i z).length ≤ 2 := by
  unfold turn1; split
  · split
    · simp
    · split <;> simp
  · simp
theorem turned_length (kk a : Nat) (c : Int) (zs : List Int) : ∀ k, (turned kk a c zs k).length ≤ 2 * k
  | 0 => by simp [turned]
  | k + 1 => by
    have h1 := turned_length kk a c zs k
    have h2 := turn1_length kk a c k (zs.getD k 0)
    rw [turned, List.length_append]; omega
theorem turned_other {kk a : Nat} (c : Int) (zs : List Int) {k : Nat} (h : ¬ k = a) : turned kk a c zs (k + 1) = turned kk a c zs k ++ [zs.getD k 0] := by
  rw [turned, turn1, if_neg h]
theorem turned_gone (a : Nat) (c : Int) (zs : List Int) : turned 0 a c zs (a + 1) = turned 0 a c zs a := by
  rw [turned, turn1, if_pos rfl, if_pos rfl, List.append_nil]
theorem turned_put (a : Nat) (c : Int) (zs : List Int) : turned 2 a c zs (a + 1) = turned 2 a c zs a ++ [c] := by
  rw [turned, turn1, if_pos rfl, if_neg (by decide), if_pos rfl]
theorem turned_both {kk : Nat} (a : Nat) (c : Int) (zs : List Int) (h0 : ¬ kk = 0) (h2 : ¬ kk = 2) : turned kk a c zs (a + 1) = turned kk a c zs a ++ [c] ++ [zs.getD a 0] := by
  rw [turned, turn1, if_pos rfl, if_neg h0, if_neg h2]; simp
def fromOf (zs : List Int) : Nat → Nat
  | 0 => 0
  | n + 1 => if zs.getD n 0 = 32 ∨ zs.getD n 0 = 10 then n + 1 else fromOf zs n
theorem fromOf_le (zs : List Int) : ∀ n, fromOf zs n ≤ n
  | 0 => Nat.le_refl _
  | n + 1 => by
    rw [fromOf]; split
    · exact Nat.le_refl _
    · have := fromOf_le zs n; omega
def toOf (zs : List Int) : Nat → Nat → Nat
  | 0, t => t
  | f + 1, t => if zs.getD t 0 = 32 ∨ zs.getD t 0 = 10 then t else toOf zs f (t + 1)
theorem toOf_le (zs : List Int) : ∀ f t, t ≤ toOf zs f t ∧ toOf zs f t ≤ t + f
  | 0, t => ⟨Nat.le_refl _, Nat.le_refl _⟩
  | f + 1, t => by
    rw [toOf]; split
    · omega
    · have := toOf_le zs f (t + 1); omega
def mutated (kk a : Nat) (c : Int) (zs : List Int) : List Int :=
  turned kk a c zs (if kk = 1 ∧ a < zs.length then a else zs.length)
theorem mutated_length (kk a : Nat) (c : Int) (zs : List Int) : (mutated kk a c zs).length ≤ 2 * zs.length := by
  unfold mutated
  have := turned_length kk a c zs (if kk = 1 ∧ a < zs.length then a else zs.length)
  split at this <;> (split <;> omega)
theorem Rd.fq {w w' : World} {ao : Option Addr} {zs : List Int} {r : Nat} (h : Rd w ao zs) (hf : Fq r w w') (hne : ∀ b off, ao = some ⟨b, off, none⟩ → b ≠ r) : Rd w' ao zs := by
  intro i hi
  obtain ⟨b, off, e, hc⟩ := h i hi
  exact ⟨b, off, e, (World.cell?_of_block (hf.keep b (World.block_lt_of_cell? _ _ hc) (hne b off e))).trans hc⟩
set_option maxRecDepth 100000 in
set_option maxHeartbeats 4000000 in
theorem mut_last {bs : List Int} (hb : Bts bs) (hl : bs.length ≤ 600) (i : Nat) (k1 k2 k3 k4 : Nat) (hk1 : nx bs i = (k1 : Int)) (q : Nat) (hm1 : (k1 : Int) % 5 = (q : Int)) (hq : q < 4) (hk2 : nx bs (nxi bs i) = (k2 : Int)) (kb2 : k2 ≤ 255) (hk3 : nx bs (nxi bs (nxi bs i)) = (k3 : Int)) (kb3 : k3 ≤ 255) (hk4 : nx bs (nxi bs (nxi bs (nxi bs i))) = (k4 : Int)) (m4 : Nat) (hm4 : (k4 : Int) % 22 = (m4 : Int)) (hm5 : m4 < 22) (c : Int) (hc : (((ByteArray.mk #[40, 41, 61, 44, 46, 59, 123, 125, 91, 93, 39, 34, 45, 60, 126, 97, 120, 49, 32, 10, 92, 64])[m4]'hm5).toNat : Int) = c) (zs : List Int) (hzl : zs.length ≤ 100000) (h0 : 0 < zs.length) (a : Nat) (ha : ((k2 : Int) * 256 + 1 + (k3 : Int)) % (zs.length : Int) = (a : Int)) (w0 w : World) (av : Option Addr) (cv r cp g : Nat) (hr : Rd w0 av bs) (hR : Rr w0 av cv bs w r i) (hrs : Rd w (some ⟨g, 0, none⟩) zs) (hne : g ≠ r) : Calls Try.prog 11 #[.slice (some ⟨g, 0, none⟩) zs.length cp, .pointer (some ⟨r, 0, none⟩)] w fun e w' => ∃ v, e = .returned v ∧ OwB w' w.heap.size v (mutated q a c zs) ∧ Rr w0 av cv bs w' r (nxi bs (nxi bs (nxi bs (nxi bs i)))) ∧ Fq r w w' := by
  obtain ⟨i0, hi0, hz0, hz1, hz2⟩ := info_parts info_byte
  have R0 : Hid (Rr w0 av cv bs w r i) := hR
  have HR : Hid (Rd w0 av bs) := hr
  have HS : Hid (Rd w (some ⟨g, 0, none⟩) zs) := hrs
  obtain ⟨n, hn⟩ : ∃ n, n = zs.length := ⟨_, rfl⟩
  have HN : Hid (n = zs.length) := hn
  rw [← hn] at ha h0 hzl ⊢
  clear hr hR hrs hn
  have g0 : (0 : Int) < (n : Int) := by omega
  have g1 : ¬ (n : Int) = 0 := by omega
  have g4 : ((q : Int) == 4) = false := by simp; omega
  have han : a < n := by have := Int.emod_lt_of_pos ((k2 : Int) * 256 + 1 + (k3 : Int)) g0; omega
  go_enter Try.func11, Try.ntmps11
  go_wp2_with (first
    | (go_at_call 9; refine Calls.mono (next_any w0 _ av cv r _ bs HR.out hb hl R3.out) ?_; rintro e w4 ⟨rfl, hR4, hF4⟩; have R4 : Hid (Rr w0 av cv bs w4 r (nxi bs (nxi bs (nxi bs (nxi bs i))))) := hR4; have F4 : Hid (Fq r w w4) := F3.out.trans hF4; clear hR4 hF4; (try rw [hk4]); (try rw [hm4]))
    | (go_at_call 9; refine Calls.mono (next_any w0 _ av cv r _ bs HR.out hb hl R2.out) ?_; rintro e w3 ⟨rfl, hR3, hF3⟩; have R3 : Hid (Rr w0 av cv bs w3 r (nxi bs (nxi bs (nxi bs i)))) := hR3; have F3 : Hid (Fq r w w3) := F2.out.trans hF3; clear hR3 hF3; (try rw [hk3]))
    | (go_at_call 9; refine Calls.mono (next_any w0 _ av cv r _ bs HR.out hb hl R1.out) ?_; rintro e w2 ⟨rfl, hR2, hF2⟩; have R2 : Hid (Rr w0 av cv bs w2 r (nxi bs (nxi bs i))) := hR2; have F2 : Hid (Fq r w w2) := F1.out.trans hF2; clear hR2 hF2; (try rw [hk2]))
    | (go_at_call 9; refine Calls.mono (next_any w0 _ av cv r _ bs HR.out hb hl R0.out) ?_; rintro e w1 ⟨rfl, hR1, hF1⟩; have R1 : Hid (Rr w0 av cv bs w1 r (nxi bs i)) := hR1; have F1 : Hid (Fq r w w1) := hF1; clear hR1 hF1; (try rw [hk1]); (try rw [hm1])))
  try rw [ha]
  try rw [hc]
  try rw [hm4]
  clear hm4 hm1 hc ha hk1 hk2 hk3 hk4
  have HS4 : Hid (Rd w4 (some ⟨g, 0, none⟩) zs) := Rd.fq HS.out F4.out (fun b off e => by cases e; exact hne)
  go_loopw [14, 15] (fun p x wr => ∃ (k cp : Nat) (ao : Option Addr), k ≤ n ∧ (q = 1 → k ≤ a) ∧ p = .slice ao (turned q a c zs k).length cp ∧ x = .int .i64 (k : Int) ∧ Hid (wr.ownsRow w4.heap.size 5 1 (.slice ao (turned q a c zs k).length cp) (turned q a c zs k).length (bcells (turned q a c zs k))) ∧ Hid (Below w4.heap.size w4 wr)) (fun _ x _ => n - (intOf x).toNat)
  case atStart => exact ⟨0, 0, none, Nat.zero_le _, fun _ => Nat.zero_le _, rfl, rfl, World.ownsRow_nil _ _ _ _, Below.refl _ _⟩
  case round =>
    obtain ⟨k, cp, ao, hk, hka0, rfl, rfl, HO, HB⟩ := hrel
    by_cases hlt : k < n
    · have i1 : (k : Int) < (n : Int) := by omega
      obtain ⟨l, hl2⟩ : ∃ l, l = turned q a c zs k := ⟨_, rfl⟩
      have hll : l.length ≤ 2 * k := by rw [hl2]; exact turned_length _ _ _ _ _
      obtain ⟨z, hz⟩ : ∃ z, z = zs.getD k 0 := ⟨_, rfl⟩
      have CELL : Hid (∀ w6, Below w4.heap.size w4 w6 → w6.cell? ⟨g, k, none⟩ = some (.int .u8 z)) := fun w6 hb6 => by
        obtain ⟨b2, o2, e, hc2⟩ := (HS4.out.below hb6) k (by rw [← HN.out]; exact hlt)
        simp only [Option.some.injEq, Addr.mk.injEq, and_true] at e
        obtain ⟨rfl, rfl⟩ := e
        rwa [Nat.zero_add, ← hz] at hc2
      have cell := CELL.out wr HB.out
      have e3 : ∀ y : Int, (l ++ [y]).length = l.length + 1 := by simp
      by_cases hka : k = a
      · subst hka
        have hq4 : q = 0 ∨ q = 1 ∨ q = 2 ∨ q = 3 := by omega
        rcases hq4 with hq5 | hq5 | hq5 | hq5
        · have HE : Hid (turned q k c zs (k + 1) = turned q k c zs k) := by rw [hq5]; exact turned_gone k c zs
          have f0 : ((q : Int) == 0) = true := by simp; omega
          have f1 : ((q : Int) == 1) = false := by simp; omega
          have f2 : ((q : Int) == 2) = false := by simp; omega
          have HQ : Hid (¬ q = 1) := by show ¬ _; omega
          clear hq5
          rw [← hl2] at HE HO ⊢
          clear hl2 hz hka0
          go_wp2
          go_roundw
          case rel => exact ⟨k + 1, cp, ao, by omega, fun h => absurd h HQ.out, by rw [HE.out], by go_num, by rw [HE.out]; exact HO.out, HB.out⟩
          case measure => simp [intOf]; omega
        · have E2 : Hid (mutated q k c zs = l) := by show _ = _; rw [hq5, mutated, if_pos ⟨rfl, by rw [← HN.out]; exact hlt⟩, hl2, hq5]
          have f0 : ((q : Int) == 0) = false := by simp; omega
          have f1 : ((q : Int) == 1) = true := by simp; omega
          have f2 : ((q : Int) == 2) = false := by simp; omega
          clear hq5
          rw [← hl2] at HO ⊢
          clear hl2 hz hka0
          go_wp2
          go_returns
          exact ⟨_, rfl, by rw [E2.out]; exact (OwB.own HO.out rfl).mono F4.out.below.size, R4.out.keep HB.out, fq_below F4.out R4.out.lt HB.out⟩
        · have HE : Hid (turned q k c zs (k + 1) = turned q k c zs k ++ [c]) := by rw [hq5]; exact turned_put k c zs
          have f0 : ((q : Int) == 0) = false := by simp; omega
          have f1 : ((q : Int) == 1) = false := by simp; omega
          have f2 : ((q : Int) == 2) = true := by simp; omega
          have HQ : Hid (¬ q = 1) := by show ¬ _; omega
          clear hq5
          rw [← hl2] at HE HO ⊢
          clear hl2 hz hka0
          go_wp2_with (at_builtin; refine wpList_append_row rfl _ _ 22 rfl 5 i0 (.int .u8 0) 1 1 Try.underlying22 hi0 hz0 hz1 hz2 rfl (by omega) w4.heap.size ao l.length cp _ rfl (own_far HO.out (fun b e => heap_alloc_old _ _ (HO.out.lt b e).2)) (some ⟨wr.heap.size, 0, none⟩) 1 1 [.int .u8 c] rfl rfl sub_lt (by simp [Value.oneCell']) (by unfold maxLen; omega) (by omega) (by have := HB.out.size; simp; omega) ?_; intro a2 c2 w6 hA; have HO2 : Hid (w6.ownsRow w4.heap.size 5 1 (.slice a2 (l.length + 1) c2) (l.length + 1) (bcells (l ++ [c]))) := (by rw [bcells_app]; exact hA.own); have HB2 : Hid (Below w4.heap.size w4 w6) := (HB.out.alloc HB.out.size _).grown hA.grow (by have := HB.out.size; simp; omega) (fun q hq => (HO.out.lt q hq).1); clear hA)
          go_roundw
          case rel => exact ⟨k + 1, c2, a2, by omega, fun h => absurd h HQ.out, by rw [HE.out, e3], by go_num, by rw [HE.out, e3]; exact HO2.out, HB2.out⟩
          case measure => simp [intOf]; omega
        · have HE : Hid (turned q k c zs (k + 1) = turned q k c zs k ++ [c] ++ [zs.getD k 0]) := by rw [hq5]; exact turned_both k c zs (by decide) (by decide)
          have f0 : ((q : Int) == 0) = false := by simp; omega
          have f1 : ((q : Int) == 1) = false := by simp; omega
          have f2 : ((q : Int) == 2) = false := by simp; omega
          have HQ : Hid (¬ q = 1) := by show ¬ _; omega
          clear hq5
          rw [← hl2, ← hz] at HE
          rw [← hl2] at HO ⊢
          clear hl2 hz hka0
          go_wp2_with (first | (at_builtin; refine wpList_append_row rfl _ _ 22 rfl 5 i0 (.int .u8 0) 1 1 Try.underlying22 hi0 hz0 hz1 hz2 rfl (by omega) w4.heap.size a2 (l.length + 1) c2 _ rfl (own_far HO2.out (fun b e => heap_alloc_old _ _ (HO2.out.lt b e).2)) (some ⟨w6.heap.size, 0, none⟩) 1 1 [.int .u8 z] rfl rfl sub_lt (by simp [Value.oneCell']) (by unfold maxLen; omega) (by omega) (by have := HB2.out.size; simp; omega) ?_; intro a3 c3 w7 hA; have HO3 : Hid (w7.ownsRow w4.heap.size 5 1 (.slice a3 ((l.length + 1) + 1) c3) ((l.length + 1) + 1) (bcells (l ++ [c] ++ [z]))) := (by rw [bcells_app]; exact hA.own); have HB3 : Hid (Below w4.heap.size w4 w7) := (HB2.out.alloc HB2.out.size _).grown hA.grow (by have := HB2.out.size; simp; omega) (fun q hq => (HO2.out.lt q hq).1); clear hA) | ((at_builtin; refine wpList_append_row rfl _ _ 22 rfl 5 i0 (.int .u8 0) 1 1 Try.underlying22 hi0 hz0 hz1 hz2 rfl (by omega) w4.heap.size ao l.length cp _ rfl (own_far HO.out (fun b e => heap_alloc_old _ _ (HO.out.lt b e).2)) (some ⟨wr.heap.size, 0, none⟩) 1 1 [.int .u8 c] rfl rfl sub_lt (by simp [Value.oneCell']) (by unfold maxLen; omega) (by omega) (by have := HB.out.size; simp; omega) ?_; intro a2 c2 w6 hA; have HO2 : Hid (w6.ownsRow w4.heap.size 5 1 (.slice a2 (l.length + 1) c2) (l.length + 1) (bcells (l ++ [c]))) := (by rw [bcells_app]; exact hA.own); have HB2 : Hid (Below w4.heap.size w4 w6) := (HB.out.alloc HB.out.size _).grown hA.grow (by have := HB.out.size; simp; omega) (fun q hq => (HO.out.lt q hq).1); clear hA); have cell2 := CELL.out w6 HB2.out))
          have e4 : (l ++ [c] ++ [z]).length = l.length + 1 + 1 := by simp
          go_roundw
          case rel => exact ⟨k + 1, c3, a3, by omega, fun h => absurd h HQ.out, by rw [HE.out, e4], by go_num, by rw [HE.out, e4]; exact HO3.out, HB3.out⟩
          case measure => simp [intOf]; omega
      · have i2 : ¬ (k : Int) = (a : Int) := by omega
        have HE : Hid (turned q a c zs (k + 1) = turned q a c zs k ++ [zs.getD k 0]) := turned_other c zs hka
        rw [← hl2, ← hz] at HE
        rw [← hl2] at HO ⊢
        clear hl2 hz
        go_wp2_with (at_builtin; refine wpList_append_row rfl _ _ 22 rfl 5 i0 (.int .u8 0) 1 1 Try.underlying22 hi0 hz0 hz1 hz2 rfl (by omega) w4.heap.size ao l.length cp _ rfl (own_far HO.out (fun b e => heap_alloc_old _ _ (HO.out.lt b e).2)) (some ⟨wr.heap.size, 0, none⟩) 1 1 [.int .u8 z] rfl rfl sub_lt (by simp [Value.oneCell']) (by unfold maxLen; omega) (by omega) (by have := HB.out.size; simp; omega) ?_; intro a2 c2 w6 hA; have HO2 : Hid (w6.ownsRow w4.heap.size 5 1 (.slice a2 (l.length + 1) c2) (l.length + 1) (bcells (l ++ [z]))) := (by rw [bcells_app]; exact hA.own); have HB2 : Hid (Below w4.heap.size w4 w6) := (HB.out.alloc HB.out.size _).grown hA.grow (by have := HB.out.size; simp; omega) (fun q hq => (HO.out.lt q hq).1); clear hA)
        go_roundw
        case rel => exact ⟨k + 1, c2, a2, by omega, by omega, by rw [HE.out, e3], by go_num, by rw [HE.out, e3]; exact HO2.out, HB2.out⟩
        case measure => simp [intOf]; omega
    · obtain rfl : k = n := by omega
      have E2 : Hid (mutated q a c zs = turned q a c zs k) := by show _ = _; rw [mutated, if_neg (by omega), HN.out]
      go_wp2
      go_returns
      exact ⟨_, rfl, by rw [E2.out]; exact (OwB.own HO.out rfl).mono F4.out.below.size, R4.out.keep HB.out, fq_below F4.out R4.out.lt HB.out⟩
end Go.Proofs.Ytepbddfpdlapbaa.tk
