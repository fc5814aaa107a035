import Derived.Test.YtepbddfpdlapbaaMBytesMore
import Derived.Test.YtepbddfpdlapbaaMLexLists
namespace Go.Proofs.Ytepbddfpdlapbaa.scn
open Go.RowKit Go.Proofs.Ytepbddfpdlapbaa.bts
theorem ret_int {k : IntKind} {a b : Int} (h : a = b) : Ending.returned (.int k a) = .returned (.int k b) := by rw [h]
theorem ret_two {a b c d : Int} (p : Int × Int) (h : p = (a, b)) (e : c = p.1) (e' : d = p.2) : Ending.returned (.tuple #[.int .i64 a, .int .i64 b]) = .returned (.tuple #[.int .i64 c, .int .i64 d]) := by
  subst h; subst e; subst e'; rfl
theorem l1hex_any (c : Int) (h0 : 0 ≤ c) (h1 : c ≤ 255) (w : World) :
    Calls Try.prog 41 #[.int .u8 c] w fun e w' => e = .returned (.int .i64 (hexv c)) ∧ w' = w := by
  have hc : (0 ≤ c ∧ c < 48) ∨ (48 ≤ c ∧ c ≤ 57) ∨ (57 < c ∧ c < 65) ∨ (65 ≤ c ∧ c ≤ 70) ∨ (70 < c ∧ c < 97) ∨ (97 ≤ c ∧ c ≤ 102) ∨ (102 < c ∧ c ≤ 255) := by omega
  rcases hc with ⟨a, b⟩ | ⟨a, b⟩ | ⟨a, b⟩ | ⟨a, b⟩ | ⟨a, b⟩ | ⟨a, b⟩ | ⟨a, b⟩
  all_goals
    go_enter Try.func41, Try.ntmps41
    go_wp2
    go_ret
    exact ⟨ret_int (by unfold hexv; (repeat' split) <;> omega), rfl⟩
theorem digit_any (c : Int) (h0 : 0 ≤ c) (h1 : c ≤ 255) (w : World) :
    Calls Try.prog 36 #[.int .u8 c] w fun e w' => e = .returned (.int .i64 (digv c)) ∧ w' = w := by
  have hc : (0 ≤ c ∧ c < 48) ∨ (48 ≤ c ∧ c ≤ 57) ∨ (57 < c ∧ c < 65) ∨ (65 ≤ c ∧ c ≤ 70) ∨ (70 < c ∧ c < 97) ∨ (97 ≤ c ∧ c ≤ 102) ∨ (102 < c ∧ c ≤ 255) := by omega
  rcases hc with ⟨a, b⟩ | ⟨a, b⟩ | ⟨a, b⟩ | ⟨a, b⟩ | ⟨a, b⟩ | ⟨a, b⟩ | ⟨a, b⟩
  all_goals
    go_enter Try.func36, Try.ntmps36
    go_wp2
    go_ret
    exact ⟨ret_int (by unfold digv hexv; (repeat' split) <;> omega), rfl⟩
theorem fin2 {zs : List Int} {a b : Int} (h : scan zs = (a, b)) : Ending.returned (.tuple #[.int .i64 a, .int .i64 b]) = .returned (.tuple #[.int .i64 (scan zs).1, .int .i64 (scan zs).2]) := by rw [h]
theorem digv_bad {z base : Int} (h : base ≤ digv z) (_h16 : base ≤ 16) : hexv z < 0 ∨ base ≤ hexv z := by
  unfold digv at h; split at h <;> omega
theorem digv_good {z base : Int} (h : ¬ base ≤ digv z) (h16 : base ≤ 16) : ¬ hexv z < 0 ∧ ¬ base ≤ hexv z ∧ digv z = hexv z := by
  unfold digv at h ⊢; split at h <;> rename_i h2
  · omega
  · exact ⟨h2, h, by rw [if_neg h2]⟩
set_option maxHeartbeats 1000000 in
theorem spec_hex (b off cap : Nat) (zs : List Int) (hb : Bts zs) (w : World) (hcell : ∀ i, i < zs.length → w.cell? ⟨b, off + i, none⟩ = some (.int .u8 (zs.getD i 0))) (hcap : zs.length ≤ cap) (hm : cap ≤ 9223372036854775807)
    (h2 : 2 < zs.length) (h48 : zs.getD 0 0 = 48) (hx1 : zs.getD 1 0 = 120 ∨ zs.getD 1 0 = 88) :
    Calls Try.prog 31 #[.slice (some ⟨b, off, none⟩) zs.length cap] w fun e w' => e = .returned (.tuple #[.int .i64 (scan zs).1, .int .i64 (scan zs).2]) ∧ w' = w := by
  have hX : hx zs = true := by simp only [hx, h48]; rcases hx1 with h | h <;> rw [h] <;> simp <;> omega
  have hS := scan_hex hX h2
  have hc0 := hcell 0 (by omega)
  have hc1 := hcell 1 (by omega)
  rw [h48, Nat.add_zero] at hc0
  obtain ⟨n, hnn⟩ : ∃ n, n = zs.length := ⟨_, rfl⟩
  rw [← hnn] at hcap h2 hS ⊢
  have HS : Hid (scan zs = res n (sc 16 0 (zs.drop 2))) := hS
  have hcell2 : ∀ i, i < n - 2 → w.cell? ⟨b, off + 2 + i, none⟩ = some (.int .u8 ((zs.drop 2).getD i 0)) := by
    intro i hi
    have := hcell (2 + i) (by omega)
    rw [← Nat.add_assoc] at this
    rw [this]
    simp [List.getD_eq_getElem?_getD, List.getElem?_drop]
  have hb2 := hb.drop 2
  have HLD : Hid ((zs.drop 2).length = n - 2) := by show _ = _; rw [List.length_drop]; omega
  obtain ⟨ds, hds⟩ : ∃ ds, ds = zs.drop 2 := ⟨_, rfl⟩
  rw [← hds] at HS hcell2 hb2 HLD
  have HC : Hid (∀ i, i < n - 2 → w.cell? ⟨b, off + 2 + i, none⟩ = some (.int .u8 (ds.getD i 0))) := hcell2
  have HB : Hid (Bts ds) := hb2
  clear hnn hS hcell hX hcell2 hb2 hds h48 hb
  have hne : (((n - 2 : Nat) : Int) == 0) = false := by simp; omega
  rcases hx1 with h | h <;> rw [h] at hc1 <;> clear h
  all_goals
    go_enter Try.func31, Try.ntmps31
    go_wp2
    go_loop [6, 7] (fun q i => ∃ (k : Nat) (v : Int), k ≤ n - 2 ∧ i = .int .i64 k ∧ q = .int .i64 v ∧ Hid (sc 16 0 ds = sc 16 v (ds.drop k))) (fun _ i => n - 2 - (intOf i).toNat)
    case atStart => exact ⟨0, 0, Nat.zero_le _, rfl, rfl, rfl⟩
    case round =>
      obtain ⟨k, v, hk, rfl, rfl, HR⟩ := hrel
      by_cases hlt : k < n - 2
      · have hc := HC.out k hlt
        have hzz := HB.out k
        obtain ⟨z, hz⟩ : ∃ z, z = ds.getD k 0 := ⟨_, rfl⟩
        rw [← hz] at hc hzz
        have HZ : Hid (z = ds.getD k 0) := hz
        have HK : Hid (k < ds.length) := by show _ < _; rw [HLD.out]; exact hlt
        obtain ⟨hz1, hz2⟩ := hzz
        have hd := hexv_bd z
        clear hz
        by_cases hbad : hexv z < 0
        · go_wp2_with (go_at_call 41; refine (l1hex_any _ hz1 hz2 _).mono ?_; rintro e w' ⟨rfl, rfl⟩)
          go_ret2
          exact ⟨fin2 (by rw [HS.out, HR.out, sc_bad HK.out (.inl (by rw [← HZ.out]; omega))]; rfl), rfl⟩
        · by_cases hbig : 16 ≤ hexv z
          · go_wp2_with (go_at_call 41; refine (l1hex_any _ hz1 hz2 _).mono ?_; rintro e w' ⟨rfl, rfl⟩)
            go_ret2
            exact ⟨fin2 (by rw [HS.out, HR.out, sc_bad HK.out (.inr (by rw [← HZ.out]; omega))]; rfl), rfl⟩
          · go_wp2_with (go_at_call 41; refine (l1hex_any _ hz1 hz2 _).mono ?_; rintro e w' ⟨rfl, rfl⟩)
            go_round
            case rel => exact ⟨k + 1, _, by omega, by go_num, rfl, by show _ = _; rw [HR.out, sc_good HK.out (by rw [← HZ.out]; omega) (by rw [← HZ.out]; omega), ← HZ.out]⟩
            case measure => simp [intOf]; omega
      · have hE : sc 16 0 ds = some v := by rw [HR.out, sc_end (by rw [HLD.out]; omega)]
        have HE : Hid (sc 16 0 ds = some v) := hE
        clear hE
        by_cases h40 : 40 < n
        · go_wp2
          go_ret2
          exact ⟨fin2 (by rw [HS.out, HE.out]; simp only [res]; rw [if_pos (by omega)]), rfl⟩
        · go_wp2
          go_ret2
          exact ⟨fin2 (by rw [HS.out, HE.out]; simp only [res]; rw [if_neg (by omega)]), rfl⟩
set_option maxHeartbeats 1000000 in
theorem spec_dec (b off cap : Nat) (zs : List Int) (hb : Bts zs) (w : World) (hcell : ∀ i, i < zs.length → w.cell? ⟨b, off + i, none⟩ = some (.int .u8 (zs.getD i 0))) (hcap : zs.length ≤ cap) (hm : cap ≤ 9223372036854775807)
    (h0 : 0 < zs.length) (hS : scan zs = res zs.length (sc 10 0 zs)) (hwhy : zs.length ≤ 2 ∨ (2 < zs.length ∧ ¬ zs.getD 0 0 = 48) ∨ (2 < zs.length ∧ zs.getD 0 0 = 48 ∧ ¬ zs.getD 1 0 = 120 ∧ ¬ zs.getD 1 0 = 88)) :
    Calls Try.prog 31 #[.slice (some ⟨b, off, none⟩) zs.length cap] w fun e w' => e = .returned (.tuple #[.int .i64 (scan zs).1, .int .i64 (scan zs).2]) ∧ w' = w := by
  obtain ⟨n, hnn⟩ : ∃ n, n = zs.length := ⟨_, rfl⟩
  obtain ⟨ds, hds⟩ : ∃ ds, ds = zs := ⟨_, rfl⟩
  have HS : Hid (scan zs = res n (sc 10 0 ds)) := by show _ = _; rw [hnn, hds]; exact hS
  have HLD : Hid (ds.length = n) := by show _ = _; rw [hds, hnn]
  have HC : Hid (∀ i, i < n → w.cell? ⟨b, off + i, none⟩ = some (.int .u8 (ds.getD i 0))) := by show ∀ i, _; rw [hnn, hds]; exact hcell
  have HB : Hid (Bts ds) := by rw [hds]; exact hb
  have hc0 := hcell 0 (by omega)
  rw [Nat.add_zero] at hc0
  rcases hwhy with h | ⟨h, h48⟩ | ⟨h, h48, hx, hX⟩
  · rw [← hnn] at h h0 hcap ⊢
    clear hnn hds hS hcell hb hc0
    have hne : ((n : Int) == 0) = false := by simp; omega
    go_enter Try.func31, Try.ntmps31
    go_wp2
    go_loop [6, 7] (fun q i => ∃ (k : Nat) (v : Int), k ≤ n ∧ i = .int .i64 k ∧ q = .int .i64 v ∧ Hid (sc 10 0 ds = sc 10 v (ds.drop k))) (fun _ i => n - (intOf i).toNat)
    case atStart => exact ⟨0, 0, Nat.zero_le _, rfl, rfl, rfl⟩
    case round =>
      obtain ⟨k, v, hk, rfl, rfl, HR⟩ := hrel
      by_cases hlt : k < n
      · have hc := HC.out k hlt
        have hzz := HB.out k
        obtain ⟨z, hz⟩ : ∃ z, z = ds.getD k 0 := ⟨_, rfl⟩
        rw [← hz] at hc hzz
        have HZ : Hid (z = ds.getD k 0) := hz
        have HK : Hid (k < ds.length) := by show _ < _; rw [HLD.out]; exact hlt
        obtain ⟨hz1, hz2⟩ := hzz
        have hd := hexv_bd z
        clear hz
        by_cases hbad : hexv z < 0
        · go_wp2_with (go_at_call 41; refine (l1hex_any _ hz1 hz2 _).mono ?_; rintro e w' ⟨rfl, rfl⟩)
          go_ret2
          exact ⟨fin2 (by rw [HS.out, HR.out, sc_bad HK.out (.inl (by rw [← HZ.out]; omega))]; rfl), rfl⟩
        · by_cases hbig : 10 ≤ hexv z
          · go_wp2_with (go_at_call 41; refine (l1hex_any _ hz1 hz2 _).mono ?_; rintro e w' ⟨rfl, rfl⟩)
            go_ret2
            exact ⟨fin2 (by rw [HS.out, HR.out, sc_bad HK.out (.inr (by rw [← HZ.out]; omega))]; rfl), rfl⟩
          · go_wp2_with (go_at_call 41; refine (l1hex_any _ hz1 hz2 _).mono ?_; rintro e w' ⟨rfl, rfl⟩)
            go_round
            case rel => exact ⟨k + 1, _, by omega, by go_num, rfl, by show _ = _; rw [HR.out, sc_good HK.out (by rw [← HZ.out]; omega) (by rw [← HZ.out]; omega), ← HZ.out]⟩
            case measure => simp [intOf]; omega
      · have hE : sc 10 0 ds = some v := by rw [HR.out, sc_end (by rw [HLD.out]; omega)]
        have HE : Hid (sc 10 0 ds = some v) := hE
        clear hE
        have h40 : ¬ 40 < n := by omega
        go_wp2
        go_ret2
        exact ⟨fin2 (by rw [HS.out, HE.out]; simp only [res]; rw [if_neg (by omega)]), rfl⟩
  · obtain ⟨z0, hz0⟩ : ∃ z, z = zs.getD 0 0 := ⟨_, rfl⟩
    rw [← hz0] at hc0 h48
    rw [← hnn] at h h0 hcap ⊢
    clear hnn hds hS hcell hb hz0
    have hne : ((n : Int) == 0) = false := by simp; omega
    have hne0 : (z0 == 48) = false := by simp; omega
    go_enter Try.func31, Try.ntmps31
    go_wp2
    go_loop [6, 7] (fun q i => ∃ (k : Nat) (v : Int), k ≤ n ∧ i = .int .i64 k ∧ q = .int .i64 v ∧ Hid (sc 10 0 ds = sc 10 v (ds.drop k))) (fun _ i => n - (intOf i).toNat)
    case atStart => exact ⟨0, 0, Nat.zero_le _, rfl, rfl, rfl⟩
    case round =>
      obtain ⟨k, v, hk, rfl, rfl, HR⟩ := hrel
      by_cases hlt : k < n
      · have hc := HC.out k hlt
        have hzz := HB.out k
        obtain ⟨z, hz⟩ : ∃ z, z = ds.getD k 0 := ⟨_, rfl⟩
        rw [← hz] at hc hzz
        have HZ : Hid (z = ds.getD k 0) := hz
        have HK : Hid (k < ds.length) := by show _ < _; rw [HLD.out]; exact hlt
        obtain ⟨hz1, hz2⟩ := hzz
        have hd := hexv_bd z
        clear hz
        by_cases hbad : hexv z < 0
        · go_wp2_with (go_at_call 41; refine (l1hex_any _ hz1 hz2 _).mono ?_; rintro e w' ⟨rfl, rfl⟩)
          go_ret2
          exact ⟨fin2 (by rw [HS.out, HR.out, sc_bad HK.out (.inl (by rw [← HZ.out]; omega))]; rfl), rfl⟩
        · by_cases hbig : 10 ≤ hexv z
          · go_wp2_with (go_at_call 41; refine (l1hex_any _ hz1 hz2 _).mono ?_; rintro e w' ⟨rfl, rfl⟩)
            go_ret2
            exact ⟨fin2 (by rw [HS.out, HR.out, sc_bad HK.out (.inr (by rw [← HZ.out]; omega))]; rfl), rfl⟩
          · go_wp2_with (go_at_call 41; refine (l1hex_any _ hz1 hz2 _).mono ?_; rintro e w' ⟨rfl, rfl⟩)
            go_round
            case rel => exact ⟨k + 1, _, by omega, by go_num, rfl, by show _ = _; rw [HR.out, sc_good HK.out (by rw [← HZ.out]; omega) (by rw [← HZ.out]; omega), ← HZ.out]⟩
            case measure => simp [intOf]; omega
      · have hE : sc 10 0 ds = some v := by rw [HR.out, sc_end (by rw [HLD.out]; omega)]
        have HE : Hid (sc 10 0 ds = some v) := hE
        clear hE
        by_cases h40 : 40 < n
        · go_wp2
          go_ret2
          exact ⟨fin2 (by rw [HS.out, HE.out]; simp only [res]; rw [if_pos (by omega)]), rfl⟩
        · go_wp2
          go_ret2
          exact ⟨fin2 (by rw [HS.out, HE.out]; simp only [res]; rw [if_neg (by omega)]), rfl⟩
  · have hc1 := hcell 1 (by omega)
    rw [h48] at hc0
    obtain ⟨z1, hz1⟩ : ∃ z, z = zs.getD 1 0 := ⟨_, rfl⟩
    rw [← hz1] at hc1 hx hX
    rw [← hnn] at h h0 hcap ⊢
    clear hnn hds hS hcell hb hz1 h48
    have hne : ((n : Int) == 0) = false := by simp; omega
    have hne0 : (z1 == 120) = false := by simp; omega
    have hne1 : (z1 == 88) = false := by simp; omega
    go_enter Try.func31, Try.ntmps31
    go_wp2
    go_loop [6, 7] (fun q i => ∃ (k : Nat) (v : Int), k ≤ n ∧ i = .int .i64 k ∧ q = .int .i64 v ∧ Hid (sc 10 0 ds = sc 10 v (ds.drop k))) (fun _ i => n - (intOf i).toNat)
    case atStart => exact ⟨0, 0, Nat.zero_le _, rfl, rfl, rfl⟩
    case round =>
      obtain ⟨k, v, hk, rfl, rfl, HR⟩ := hrel
      by_cases hlt : k < n
      · have hc := HC.out k hlt
        have hzz := HB.out k
        obtain ⟨z, hz⟩ : ∃ z, z = ds.getD k 0 := ⟨_, rfl⟩
        rw [← hz] at hc hzz
        have HZ : Hid (z = ds.getD k 0) := hz
        have HK : Hid (k < ds.length) := by show _ < _; rw [HLD.out]; exact hlt
        obtain ⟨hz1, hz2⟩ := hzz
        have hd := hexv_bd z
        clear hz
        by_cases hbad : hexv z < 0
        · go_wp2_with (go_at_call 41; refine (l1hex_any _ hz1 hz2 _).mono ?_; rintro e w' ⟨rfl, rfl⟩)
          go_ret2
          exact ⟨fin2 (by rw [HS.out, HR.out, sc_bad HK.out (.inl (by rw [← HZ.out]; omega))]; rfl), rfl⟩
        · by_cases hbig : 10 ≤ hexv z
          · go_wp2_with (go_at_call 41; refine (l1hex_any _ hz1 hz2 _).mono ?_; rintro e w' ⟨rfl, rfl⟩)
            go_ret2
            exact ⟨fin2 (by rw [HS.out, HR.out, sc_bad HK.out (.inr (by rw [← HZ.out]; omega))]; rfl), rfl⟩
          · go_wp2_with (go_at_call 41; refine (l1hex_any _ hz1 hz2 _).mono ?_; rintro e w' ⟨rfl, rfl⟩)
            go_round
            case rel => exact ⟨k + 1, _, by omega, by go_num, rfl, by show _ = _; rw [HR.out, sc_good HK.out (by rw [← HZ.out]; omega) (by rw [← HZ.out]; omega), ← HZ.out]⟩
            case measure => simp [intOf]; omega
      · have hE : sc 10 0 ds = some v := by rw [HR.out, sc_end (by rw [HLD.out]; omega)]
        have HE : Hid (sc 10 0 ds = some v) := hE
        clear hE
        by_cases h40 : 40 < n
        · go_wp2
          go_ret2
          exact ⟨fin2 (by rw [HS.out, HE.out]; simp only [res]; rw [if_pos (by omega)]), rfl⟩
        · go_wp2
          go_ret2
          exact ⟨fin2 (by rw [HS.out, HE.out]; simp only [res]; rw [if_neg (by omega)]), rfl⟩
end Go.Proofs.Ytepbddfpdlapbaa.scn
