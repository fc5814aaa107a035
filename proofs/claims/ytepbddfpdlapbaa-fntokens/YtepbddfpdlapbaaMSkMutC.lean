import Derived.Lib.AppendStr
import Derived.Test.YtepbddfpdlapbaaMLexWord
import Derived.Test.YtepbddfpdlapbaaMSkMutB
namespace Go.Proofs.Ytepbddfpdlapbaa.tk
open Go.RowKit Go.Proofs.Ytepbddfpdlapbaa.bts Go.Proofs.Ytepbddfpdlapbaa.nod Go.Proofs.Ytepbddfpdlapbaa.fmt
theorem words_put (w : World) : Calls Try.prog 24 #[] w fun e w' => e = .returned (.slice (some ⟨w.heap.size, 0, none⟩) 20 20) ∧ (∀ k, k < 20 → w'.cell? ⟨w.heap.size, k, none⟩ = some (.string (lex.words.getD k ByteArray.empty))) ∧ Below w.heap.size w w' := by
  refine (lex.words_any w).mono ?_
  rintro e w' ⟨rfl, rfl⟩
  exact ⟨rfl, fun k hk => lex.words_cell w k hk, (Below.refl _ _).alloc (Nat.le_refl _) _⟩
theorem words_size (k : Nat) : (lex.words.getD k ByteArray.empty).size ≤ 8 := by
  by_cases h : k < 20
  · match k, h with
    | 0, _ | 1, _ | 2, _ | 3, _ | 4, _ | 5, _ | 6, _ | 7, _ | 8, _ | 9, _ | 10, _ | 11, _ | 12, _ | 13, _ | 14, _ | 15, _ | 16, _ | 17, _ | 18, _ | 19, _ => decide
    | k + 20, h => omega
  · have e : lex.words.getD k ByteArray.empty = ByteArray.empty := by rw [List.getD_eq_getElem?_getD, List.getElem?_eq_none (by rw [lex.words_len]; omega)]; rfl
    rw [e]; decide
theorem own_shape {w : World} {B E c n : Nat} {v : Value} {us : List Value} (h : w.ownsRow B E c v n us) : ∃ a cp, v = .slice a n cp := by
  rcases h.2 with ⟨e, e0⟩ | ⟨g, cap, _, e, _⟩
  · exact ⟨none, 0, by rw [e, e0]⟩
  · exact ⟨_, cap, e⟩
theorem rd_take0 {w : World} {g : Nat} {zs : List Int} (h : Rd w (some ⟨g, 0, none⟩) zs) (f : Nat) : Rd w (some ⟨g, 0, none⟩) (zs.take f) := by
  intro i hi
  rw [List.length_take] at hi
  obtain ⟨b, off, e, hc⟩ := h i (by omega)
  refine ⟨b, off, e, ?_⟩
  rw [hc, List.getD_eq_getElem?_getD, List.getD_eq_getElem?_getD, List.getElem?_take, if_pos (by omega)]
theorem rd_drop0 {w : World} {g : Nat} {zs : List Int} (h : Rd w (some ⟨g, 0, none⟩) zs) (t : Nat) : Rd w (some ⟨g, t, none⟩) (zs.drop t) := by
  intro i hi
  rw [List.length_drop] at hi
  obtain ⟨b, off, e, hc⟩ := h (t + i) (by omega)
  simp only [Option.some.injEq, Addr.mk.injEq, and_true] at e
  obtain ⟨rfl, rfl⟩ := e
  refine ⟨g, t, rfl, ?_⟩
  rw [Nat.zero_add] at hc
  rw [hc, List.getD_eq_getElem?_getD, List.getD_eq_getElem?_getD, List.getElem?_drop]
theorem str_nums (s : ByteArray) : Lib.strCells s = bcells (nums s) := by simp [Lib.strCells, bcells, nums]
set_option maxRecDepth 100000 in
set_option maxHeartbeats 4000000 in
theorem mut_nil {bs : List Int} (hb : Bts bs) (hl : bs.length ≤ 600) (i : Nat) (k1 k2 k3 k4 : Nat) (hk1 : nx bs i = (k1 : Int)) (q : Nat) (hm1 : (k1 : Int) % 5 = (q : Int)) (hk2 : nx bs (nxi bs i) = (k2 : Int)) (kb2 : k2 ≤ 255) (hk3 : nx bs (nxi bs (nxi bs i)) = (k3 : Int)) (kb3 : k3 ≤ 255) (hk4 : nx bs (nxi bs (nxi bs (nxi bs i))) = (k4 : Int)) (m4 : Nat) (hm4 : (k4 : Int) % 22 = (m4 : Int)) (_hm5 : m4 < 22) (w0 w : World) (ao av : Option Addr) (cv r cp : Nat) (hr : Rd w0 av bs) (hR : Rr w0 av cv bs w r i) : Calls Try.prog 11 #[.slice ao 0 cp, .pointer (some ⟨r, 0, none⟩)] w fun e w' => ∃ v, e = .returned v ∧ OwB w' w.heap.size v [] ∧ Rr w0 av cv bs w' r (nxi bs (nxi bs (nxi bs (nxi bs i)))) ∧ Fq r w w' := by
  have R0 : Hid (Rr w0 av cv bs w r i) := hR
  have HR : Hid (Rd w0 av bs) := hr
  clear hr hR
  by_cases hq : (q : Int) = 4
  · rw [hq] at hm1
    go_enter Try.func11, Try.ntmps11
    go_wp2_with (first
    | (go_at_call 9; refine Calls.mono (next_any w0 _ av cv r _ bs HR.out hb hl R3.out) ?_; rintro e w4 ⟨rfl, hR4, hF4⟩; have R4 : Hid (Rr w0 av cv bs w4 r (nxi bs (nxi bs (nxi bs (nxi bs i))))) := hR4; have F4 : Hid (Fq r w w4) := F3.out.trans hF4; clear hR4 hF4; (try rw [hk4]); (try rw [hm4]))
    | (go_at_call 9; refine Calls.mono (next_any w0 _ av cv r _ bs HR.out hb hl R2.out) ?_; rintro e w3 ⟨rfl, hR3, hF3⟩; have R3 : Hid (Rr w0 av cv bs w3 r (nxi bs (nxi bs (nxi bs i)))) := hR3; have F3 : Hid (Fq r w w3) := F2.out.trans hF3; clear hR3 hF3; (try rw [hk3]))
    | (go_at_call 9; refine Calls.mono (next_any w0 _ av cv r _ bs HR.out hb hl R1.out) ?_; rintro e w2 ⟨rfl, hR2, hF2⟩; have R2 : Hid (Rr w0 av cv bs w2 r (nxi bs (nxi bs i))) := hR2; have F2 : Hid (Fq r w w2) := F1.out.trans hF2; clear hR2 hF2; (try rw [hk2]))
    | (go_at_call 9; refine Calls.mono (next_any w0 _ av cv r _ bs HR.out hb hl R0.out) ?_; rintro e w1 ⟨rfl, hR1, hF1⟩; have R1 : Hid (Rr w0 av cv bs w1 r (nxi bs i)) := hR1; have F1 : Hid (Fq r w w1) := hF1; clear hR1 hF1; (try rw [hk1]); (try rw [hm1])))
    go_loopw [14, 15] (fun p q wr => p = .slice none 0 0 ∧ q = .int .i64 0 ∧ Hid (wr = w4)) (fun _ _ _ => 0)
    case atStart => exact ⟨rfl, rfl, rfl⟩
    case round =>
      obtain ⟨rfl, rfl, HW⟩ := hrel
      have hw : wr = w4 := HW.out
      subst hw
      go_wp2
      go_returns
      exact ⟨_, rfl, .inl ⟨rfl, rfl⟩, R4.out, F4.out⟩
  · go_enter Try.func11, Try.ntmps11
    go_wp2_with (first
    | (go_at_call 9; refine Calls.mono (next_any w0 _ av cv r _ bs HR.out hb hl R3.out) ?_; rintro e w4 ⟨rfl, hR4, hF4⟩; have R4 : Hid (Rr w0 av cv bs w4 r (nxi bs (nxi bs (nxi bs (nxi bs i))))) := hR4; have F4 : Hid (Fq r w w4) := F3.out.trans hF4; clear hR4 hF4; (try rw [hk4]); (try rw [hm4]))
    | (go_at_call 9; refine Calls.mono (next_any w0 _ av cv r _ bs HR.out hb hl R2.out) ?_; rintro e w3 ⟨rfl, hR3, hF3⟩; have R3 : Hid (Rr w0 av cv bs w3 r (nxi bs (nxi bs (nxi bs i)))) := hR3; have F3 : Hid (Fq r w w3) := F2.out.trans hF3; clear hR3 hF3; (try rw [hk3]))
    | (go_at_call 9; refine Calls.mono (next_any w0 _ av cv r _ bs HR.out hb hl R1.out) ?_; rintro e w2 ⟨rfl, hR2, hF2⟩; have R2 : Hid (Rr w0 av cv bs w2 r (nxi bs (nxi bs i))) := hR2; have F2 : Hid (Fq r w w2) := F1.out.trans hF2; clear hR2 hF2; (try rw [hk2]))
    | (go_at_call 9; refine Calls.mono (next_any w0 _ av cv r _ bs HR.out hb hl R0.out) ?_; rintro e w1 ⟨rfl, hR1, hF1⟩; have R1 : Hid (Rr w0 av cv bs w1 r (nxi bs i)) := hR1; have F1 : Hid (Fq r w w1) := hF1; clear hR1 hF1; (try rw [hk1]); (try rw [hm1])))
    go_loopw [14, 15] (fun p q wr => p = .slice none 0 0 ∧ q = .int .i64 0 ∧ Hid (wr = w4)) (fun _ _ _ => 0)
    case atStart => exact ⟨rfl, rfl, rfl⟩
    case round =>
      obtain ⟨rfl, rfl, HW⟩ := hrel
      have hw : wr = w4 := HW.out
      subst hw
      go_wp2
      go_returns
      exact ⟨_, rfl, .inl ⟨rfl, rfl⟩, R4.out, F4.out⟩
set_option maxRecDepth 100000 in
set_option maxHeartbeats 4000000 in
theorem mut_word {bs : List Int} (hb : Bts bs) (hl : bs.length ≤ 600) (i : Nat) (k1 k2 k3 k4 : Nat) (hk1 : nx bs i = (k1 : Int)) (hm1 : (k1 : Int) % 5 = 4) (hk2 : nx bs (nxi bs i) = (k2 : Int)) (kb2 : k2 ≤ 255) (hk3 : nx bs (nxi bs (nxi bs i)) = (k3 : Int)) (kb3 : k3 ≤ 255) (hk4 : nx bs (nxi bs (nxi bs (nxi bs i))) = (k4 : Int)) (m4 : Nat) (hm4 : (k4 : Int) % 22 = (m4 : Int)) (_hm5 : m4 < 22) (zs : List Int) (hzl : zs.length ≤ 100000) (h0 : 0 < zs.length) (a : Nat) (ha : ((k2 : Int) * 256 + 1 + (k3 : Int)) % (zs.length : Int) = (a : Int)) (x : Nat) (hx : ((k2 : Int) * 256 + 1 + (k3 : Int)) % 20 = (x : Int)) (hx20 : x < 20) (w0 w : World) (av : Option Addr) (cv r cp g : Nat) (hcp : zs.length ≤ cp) (hcm : cp ≤ maxLen) (hr : Rd w0 av bs) (hR : Rr w0 av cv bs w r i) (hrs : Rd w (some ⟨g, 0, none⟩) zs) (hne : g ≠ r) : Calls Try.prog 11 #[.slice (some ⟨g, 0, none⟩) zs.length cp, .pointer (some ⟨r, 0, none⟩)] w fun e w' => ∃ v, e = .returned v ∧ OwB w' w.heap.size v (zs.take (fromOf zs a) ++ nums (lex.words.getD x ByteArray.empty) ++ zs.drop (toOf zs (zs.length - a) a)) ∧ Rr w0 av cv bs w' r (nxi bs (nxi bs (nxi bs (nxi bs i)))) ∧ Fq r w w' := by
  obtain ⟨i0, hi0, hz0, hz1, hz2⟩ := info_parts info_byte
  have R0 : Hid (Rr w0 av cv bs w r i) := hR
  have HR : Hid (Rd w0 av bs) := hr
  have HS : Hid (Rd w (some ⟨g, 0, none⟩) zs) := hrs
  have WP : Hid (∀ w, Calls Try.prog 24 #[] w fun e w' => e = .returned (.slice (some ⟨w.heap.size, 0, none⟩) 20 20) ∧ (∀ k, k < 20 → w'.cell? ⟨w.heap.size, k, none⟩ = some (.string (lex.words.getD k ByteArray.empty))) ∧ Below w.heap.size w w') := words_put
  obtain ⟨n, hn⟩ : ∃ n, n = zs.length := ⟨_, rfl⟩
  have HN : Hid (n = zs.length) := hn
  obtain ⟨F, hF⟩ : ∃ F, F = fromOf zs a := ⟨_, rfl⟩
  obtain ⟨T, hT⟩ : ∃ T, T = toOf zs (n - a) a := ⟨_, rfl⟩
  have HF : Hid (F = fromOf zs a) := hF
  have HT : Hid (T = toOf zs (n - a) a) := hT
  obtain ⟨wd, hwd⟩ : ∃ wd, wd = lex.words.getD x ByteArray.empty := ⟨_, rfl⟩
  have HWD : Hid (wd = lex.words.getD x ByteArray.empty) := hwd
  have hws : wd.size ≤ 8 := by rw [hwd]; exact words_size x
  rw [← hn] at ha h0 hzl hcp
  rw [← hF, ← hwd, ← hn, ← hT]
  obtain ⟨res, hres⟩ : ∃ l, l = zs.take F ++ nums wd ++ zs.drop T := ⟨_, rfl⟩
  rw [← hres]
  have HRES : Hid (res = zs.take F ++ nums wd ++ zs.drop T) := hres
  have hFa : F ≤ a := by rw [hF]; exact fromOf_le zs a
  have g0 : (0 : Int) < (n : Int) := by omega
  have g1 : ¬ (n : Int) = 0 := by omega
  have han : a < n := by have := Int.emod_lt_of_pos ((k2 : Int) * 256 + 1 + (k3 : Int)) g0; omega
  have hTa : T ≤ n := by rw [hT]; have := (toOf_le zs (n - a) a).2; omega
  unfold maxLen at hcm
  clear hr hR hrs hn hF hT hwd hres
  go_enter Try.func11, Try.ntmps11
  go_wp2_with (first
    | (go_at_call 9; refine Calls.mono (next_any w0 _ av cv r _ bs HR.out hb hl R3.out) ?_; rintro e w4 ⟨rfl, hR4, hF4⟩; have R4 : Hid (Rr w0 av cv bs w4 r (nxi bs (nxi bs (nxi bs (nxi bs i))))) := hR4; have F4 : Hid (Fq r w w4) := F3.out.trans hF4; clear hR4 hF4; (try rw [hk4]); (try rw [hm4]))
    | (go_at_call 9; refine Calls.mono (next_any w0 _ av cv r _ bs HR.out hb hl R2.out) ?_; rintro e w3 ⟨rfl, hR3, hF3⟩; have R3 : Hid (Rr w0 av cv bs w3 r (nxi bs (nxi bs (nxi bs i)))) := hR3; have F3 : Hid (Fq r w w3) := F2.out.trans hF3; clear hR3 hF3; (try rw [hk3]))
    | (go_at_call 9; refine Calls.mono (next_any w0 _ av cv r _ bs HR.out hb hl R1.out) ?_; rintro e w2 ⟨rfl, hR2, hF2⟩; have R2 : Hid (Rr w0 av cv bs w2 r (nxi bs (nxi bs i))) := hR2; have F2 : Hid (Fq r w w2) := F1.out.trans hF2; clear hR2 hF2; (try rw [hk2]))
    | (go_at_call 9; refine Calls.mono (next_any w0 _ av cv r _ bs HR.out hb hl R0.out) ?_; rintro e w1 ⟨rfl, hR1, hF1⟩; have R1 : Hid (Rr w0 av cv bs w1 r (nxi bs i)) := hR1; have F1 : Hid (Fq r w w1) := hF1; clear hR1 hF1; (try rw [hk1]); (try rw [hm1]))
    | (go_at_call 24; refine (WP.out _).mono ?_; rintro e w5 ⟨rfl, hW5, hB5⟩; have B5 : Hid (Below w4.heap.size w4 w5) := hB5; have W5 : Hid (w5.cell? ⟨w4.heap.size, x, none⟩ = some (.string wd)) := (by show _ = _; rw [HWD.out]; exact hW5 x hx20); clear hB5 hW5))
  try rw [ha]
  have HS5 : Hid (Rd w5 (some ⟨g, 0, none⟩) zs) := (Rd.fq HS.out F4.out (fun b off e => by cases e; exact hne)).below B5.out
  have HC : Hid (∀ k, k < n → w5.cell? ⟨g, k, none⟩ = some (.int .u8 (zs.getD k 0))) := fun k hk => by
    obtain ⟨b2, o2, e, hc2⟩ := HS5.out k (by rw [← HN.out]; exact hk)
    simp only [Option.some.injEq, Addr.mk.injEq, and_true] at e
    obtain ⟨rfl, rfl⟩ := e
    rwa [Nat.zero_add] at hc2
  clear hm1 hk1 hk2 hk3 hk4 ha hm4
  go_loop [11] (fun q => ∃ (f : Nat), f ≤ a ∧ q = .int .i64 (f : Int) ∧ Hid (F = fromOf zs f)) (fun q => (intOf q).toNat)
  case atStart => exact ⟨a, Nat.le_refl _, rfl, HF⟩
  case round =>
    obtain ⟨f, hf, rfl, HFf⟩ := hrel
    by_cases hf0 : f = 0
    · subst hf0
      have e : F = 0 := by rw [HFf.out, fromOf]
      subst e
      clear HFf HF
      go_wp2
      go_loop [12] (fun q => ∃ (t : Nat), a ≤ t ∧ t ≤ n ∧ q = .int .i64 (t : Int) ∧ Hid (T = toOf zs (n - t) t)) (fun q => n - (intOf q).toNat)
      case atStart => exact ⟨a, Nat.le_refl _, by omega, rfl, HT⟩
      case round =>
        obtain ⟨t, ht1, ht2, rfl, HTt⟩ := hrel
        by_cases htn : t = n
        · have e0 : n = t := htn.symm
          subst e0
          have e : n = T := by rw [HTt.out, Nat.sub_self, toOf]
          subst e
          clear HTt HT htn
          go_wp2_with (first | (at_builtin; refine wpList_append_row rfl _ _ 22 rfl 5 i0 (.int .u8 0) 1 1 Try.underlying22 hi0 hz0 hz1 hz2 rfl (by omega) w5.heap.size a7 wd.size c7 _ rfl O7.out _ _ _ (bcells (zs.drop n)) rfl (by rw [bcells_length, List.length_drop]; have := HN.out; omega) (fun h => by first | exact absurd h (by omega) | exact rd_news (rd_drop0 (HS5.out.below B7.out) n) (by rw [List.length_drop]; have := HN.out; omega) h) (bcells_one _) (by unfold maxLen; omega) (by omega) B7.out.size ?_; intro a8 c8 w8 hA; have hO := hA.own; rw [← bcells_app] at hO; have O8 : Hid _ := hO; have B8 : Hid (Below w5.heap.size w5 w8) := B7.out.grown hA.grow B7.out.size (fun q hq => (O7.out.lt q hq).1); clear hA hO) | (at_builtin; refine Lib.wpList_append_own_string w6 rfl _ _ 22 9 rfl w5.heap.size 5 i0 Try.underlying22 Try.underlying9 hi0 hz0 hz1 hz2 (.slice a6 0 c6) 0 (bcells (zs.take 0)) rfl O6.out wd rfl (by unfold maxLen; omega) (by omega) B6.out.size ?_; intro v7 w7 hO hG _; obtain ⟨a7, c7, rfl⟩ := own_shape hO; have O7 : Hid (w7.ownsRow w5.heap.size 5 1 (.slice a7 wd.size c7) wd.size (bcells (zs.take 0 ++ nums wd))) := (by (try rw [Nat.zero_add] at hO); rw [bcells_app, ← str_nums]; exact hO); have B7 : Hid (Below w5.heap.size w5 w7) := B6.out.grown hG B6.out.size (fun q hq => (O6.out.lt q hq).1); clear hO hG) | (at_builtin; refine wpList_append_row rfl _ _ 22 rfl 5 i0 (.int .u8 0) 1 1 Try.underlying22 hi0 hz0 hz1 hz2 rfl (by omega) w5.heap.size none 0 0 [] rfl (World.ownsRow_nil _ _ _ _) (some ⟨g, 0, none⟩) 0 cp (bcells (zs.take 0)) rfl (by rw [bcells_length, List.length_take]; have := HN.out; omega) (fun h => rd_news (rd_take0 HS5.out 0) (by rw [List.length_take]; have := HN.out; omega) h) (bcells_one _) (by unfold maxLen; omega) (by omega) (Nat.le_refl _) ?_; intro a6 c6 w6 hA; have O6 : Hid (w6.ownsRow w5.heap.size 5 1 (.slice a6 0 c6) 0 (bcells (zs.take 0))) := (by have := hA.own; rw [Nat.zero_add, List.nil_append] at this; exact this); have B6 : Hid (Below w5.heap.size w5 w6) := (Below.refl _ _).grown hA.grow (Nat.le_refl _) (fun q hq => by cases hq); have c6w := cellB W5.out B6.out; clear hA))
          all_goals go_returns
          all_goals exact ⟨_, rfl, by rw [HRES.out]; exact (OwB.own O8.out (by rw [List.length_append, List.length_append, nums_length, List.length_take, List.length_drop, ← HN.out]; omega)).mono (Nat.le_trans F4.out.below.size B5.out.size), R4.out.keep (B5.out.trans (B8.out.mono B5.out.size)), fq_below F4.out R4.out.lt (B5.out.trans (B8.out.mono B5.out.size))⟩
        · have cell := HC.out t (by omega)
          obtain ⟨z, hz⟩ : ∃ z, z = zs.getD t 0 := ⟨_, rfl⟩
          rw [← hz] at cell
          have hlt : (t : Int) < (n : Int) := by omega
          have esub : n - t = (n - (t + 1)) + 1 := by omega
          by_cases hzz : z = 32 ∨ z = 10
          · have e : t = T := by rw [HTt.out, esub, toOf, if_pos (by rw [← hz]; exact hzz)]
            subst e
            rcases hzz with rfl | rfl
            all_goals
              clear hz HTt HT
              have hct : ¬ cp = t := by omega
              go_wp2_with (first | (at_builtin; refine wpList_append_row rfl _ _ 22 rfl 5 i0 (.int .u8 0) 1 1 Try.underlying22 hi0 hz0 hz1 hz2 rfl (by omega) w5.heap.size a7 wd.size c7 _ rfl O7.out _ _ _ (bcells (zs.drop t)) rfl (by rw [bcells_length, List.length_drop]; have := HN.out; omega) (fun h => by first | exact absurd h (by omega) | exact rd_news (rd_drop0 (HS5.out.below B7.out) t) (by rw [List.length_drop]; have := HN.out; omega) h) (bcells_one _) (by unfold maxLen; omega) (by omega) B7.out.size ?_; intro a8 c8 w8 hA; have hO := hA.own; rw [← bcells_app] at hO; have O8 : Hid _ := hO; have B8 : Hid (Below w5.heap.size w5 w8) := B7.out.grown hA.grow B7.out.size (fun q hq => (O7.out.lt q hq).1); clear hA hO) | (at_builtin; refine Lib.wpList_append_own_string w6 rfl _ _ 22 9 rfl w5.heap.size 5 i0 Try.underlying22 Try.underlying9 hi0 hz0 hz1 hz2 (.slice a6 0 c6) 0 (bcells (zs.take 0)) rfl O6.out wd rfl (by unfold maxLen; omega) (by omega) B6.out.size ?_; intro v7 w7 hO hG _; obtain ⟨a7, c7, rfl⟩ := own_shape hO; have O7 : Hid (w7.ownsRow w5.heap.size 5 1 (.slice a7 wd.size c7) wd.size (bcells (zs.take 0 ++ nums wd))) := (by (try rw [Nat.zero_add] at hO); rw [bcells_app, ← str_nums]; exact hO); have B7 : Hid (Below w5.heap.size w5 w7) := B6.out.grown hG B6.out.size (fun q hq => (O6.out.lt q hq).1); clear hO hG) | (at_builtin; refine wpList_append_row rfl _ _ 22 rfl 5 i0 (.int .u8 0) 1 1 Try.underlying22 hi0 hz0 hz1 hz2 rfl (by omega) w5.heap.size none 0 0 [] rfl (World.ownsRow_nil _ _ _ _) (some ⟨g, 0, none⟩) 0 cp (bcells (zs.take 0)) rfl (by rw [bcells_length, List.length_take]; have := HN.out; omega) (fun h => rd_news (rd_take0 HS5.out 0) (by rw [List.length_take]; have := HN.out; omega) h) (bcells_one _) (by unfold maxLen; omega) (by omega) (Nat.le_refl _) ?_; intro a6 c6 w6 hA; have O6 : Hid (w6.ownsRow w5.heap.size 5 1 (.slice a6 0 c6) 0 (bcells (zs.take 0))) := (by have := hA.own; rw [Nat.zero_add, List.nil_append] at this; exact this); have B6 : Hid (Below w5.heap.size w5 w6) := (Below.refl _ _).grown hA.grow (Nat.le_refl _) (fun q hq => by cases hq); have c6w := cellB W5.out B6.out; clear hA))
              all_goals go_returns
              all_goals exact ⟨_, rfl, by rw [HRES.out]; exact (OwB.own O8.out (by rw [List.length_append, List.length_append, nums_length, List.length_take, List.length_drop, ← HN.out]; omega)).mono (Nat.le_trans F4.out.below.size B5.out.size), R4.out.keep (B5.out.trans (B8.out.mono B5.out.size)), fq_below F4.out R4.out.lt (B5.out.trans (B8.out.mono B5.out.size))⟩
          · have HTn : Hid (T = toOf zs (n - (t + 1)) (t + 1)) := by show _ = _; rw [HTt.out, esub, toOf, if_neg (by rw [← hz]; exact hzz)]
            have e1 : (z != 32) = true := bne_iff_ne.mpr (by omega)
            have e2 : (z != 10) = true := bne_iff_ne.mpr (by omega)
            have e3 : ¬ z = 32 := by omega
            have e4 : ¬ z = 10 := by omega
            clear hz hzz
            go_wp2
            go_round
            case rel => exact ⟨t + 1, by omega, by omega, by go_num, HTn⟩
            case measure => simp [intOf]; omega
    · obtain ⟨f, rfl⟩ : ∃ e, f = e + 1 := ⟨f - 1, by omega⟩
      have cell := HC.out f (by omega)
      obtain ⟨z, hz⟩ : ∃ z, z = zs.getD f 0 := ⟨_, rfl⟩
      rw [← hz] at cell
      by_cases hzz : z = 32 ∨ z = 10
      · have e : F = f + 1 := by rw [HFf.out, fromOf, if_pos (by rw [← hz]; exact hzz)]
        subst e
        rcases hzz with rfl | rfl
        all_goals
          clear hz HFf HF
          go_wp2
          go_loop [12] (fun q => ∃ (t : Nat), a ≤ t ∧ t ≤ n ∧ q = .int .i64 (t : Int) ∧ Hid (T = toOf zs (n - t) t)) (fun q => n - (intOf q).toNat)
          case atStart => exact ⟨a, Nat.le_refl _, by omega, rfl, HT⟩
          case round =>
            obtain ⟨t, ht1, ht2, rfl, HTt⟩ := hrel
            by_cases htn : t = n
            · have e0 : n = t := htn.symm
              subst e0
              have e : n = T := by rw [HTt.out, Nat.sub_self, toOf]
              subst e
              clear HTt HT htn
              go_wp2_with (first | (at_builtin; refine wpList_append_row rfl _ _ 22 rfl 5 i0 (.int .u8 0) 1 1 Try.underlying22 hi0 hz0 hz1 hz2 rfl (by omega) w5.heap.size a7 (f + 1 + wd.size) c7 _ rfl O7.out _ _ _ (bcells (zs.drop n)) rfl (by rw [bcells_length, List.length_drop]; have := HN.out; omega) (fun h => by first | exact absurd h (by omega) | exact rd_news (rd_drop0 (HS5.out.below B7.out) n) (by rw [List.length_drop]; have := HN.out; omega) h) (bcells_one _) (by unfold maxLen; omega) (by omega) B7.out.size ?_; intro a8 c8 w8 hA; have hO := hA.own; rw [← bcells_app] at hO; have O8 : Hid _ := hO; have B8 : Hid (Below w5.heap.size w5 w8) := B7.out.grown hA.grow B7.out.size (fun q hq => (O7.out.lt q hq).1); clear hA hO) | (at_builtin; refine Lib.wpList_append_own_string w6 rfl _ _ 22 9 rfl w5.heap.size 5 i0 Try.underlying22 Try.underlying9 hi0 hz0 hz1 hz2 (.slice a6 (f + 1) c6) (f + 1) (bcells (zs.take (f + 1))) rfl O6.out wd rfl (by unfold maxLen; omega) (by omega) B6.out.size ?_; intro v7 w7 hO hG _; obtain ⟨a7, c7, rfl⟩ := own_shape hO; have O7 : Hid (w7.ownsRow w5.heap.size 5 1 (.slice a7 (f + 1 + wd.size) c7) (f + 1 + wd.size) (bcells (zs.take (f + 1) ++ nums wd))) := (by (try rw [Nat.zero_add] at hO); rw [bcells_app, ← str_nums]; exact hO); have B7 : Hid (Below w5.heap.size w5 w7) := B6.out.grown hG B6.out.size (fun q hq => (O6.out.lt q hq).1); clear hO hG) | (at_builtin; refine wpList_append_row rfl _ _ 22 rfl 5 i0 (.int .u8 0) 1 1 Try.underlying22 hi0 hz0 hz1 hz2 rfl (by omega) w5.heap.size none 0 0 [] rfl (World.ownsRow_nil _ _ _ _) (some ⟨g, 0, none⟩) (f + 1) cp (bcells (zs.take (f + 1))) rfl (by rw [bcells_length, List.length_take]; have := HN.out; omega) (fun h => rd_news (rd_take0 HS5.out (f + 1)) (by rw [List.length_take]; have := HN.out; omega) h) (bcells_one _) (by unfold maxLen; omega) (by omega) (Nat.le_refl _) ?_; intro a6 c6 w6 hA; have O6 : Hid (w6.ownsRow w5.heap.size 5 1 (.slice a6 (f + 1) c6) (f + 1) (bcells (zs.take (f + 1)))) := (by have := hA.own; rw [Nat.zero_add, List.nil_append] at this; exact this); have B6 : Hid (Below w5.heap.size w5 w6) := (Below.refl _ _).grown hA.grow (Nat.le_refl _) (fun q hq => by cases hq); have c6w := cellB W5.out B6.out; clear hA))
              all_goals go_returns
              all_goals exact ⟨_, rfl, by rw [HRES.out]; exact (OwB.own O8.out (by rw [List.length_append, List.length_append, nums_length, List.length_take, List.length_drop, ← HN.out]; omega)).mono (Nat.le_trans F4.out.below.size B5.out.size), R4.out.keep (B5.out.trans (B8.out.mono B5.out.size)), fq_below F4.out R4.out.lt (B5.out.trans (B8.out.mono B5.out.size))⟩
            · have cell := HC.out t (by omega)
              obtain ⟨z, hz⟩ : ∃ z, z = zs.getD t 0 := ⟨_, rfl⟩
              rw [← hz] at cell
              have hlt : (t : Int) < (n : Int) := by omega
              have esub : n - t = (n - (t + 1)) + 1 := by omega
              by_cases hzz : z = 32 ∨ z = 10
              · have e : t = T := by rw [HTt.out, esub, toOf, if_pos (by rw [← hz]; exact hzz)]
                subst e
                rcases hzz with rfl | rfl
                all_goals
                  clear hz HTt HT
                  have hct : ¬ cp = t := by omega
                  go_wp2_with (first | (at_builtin; refine wpList_append_row rfl _ _ 22 rfl 5 i0 (.int .u8 0) 1 1 Try.underlying22 hi0 hz0 hz1 hz2 rfl (by omega) w5.heap.size a7 (f + 1 + wd.size) c7 _ rfl O7.out _ _ _ (bcells (zs.drop t)) rfl (by rw [bcells_length, List.length_drop]; have := HN.out; omega) (fun h => by first | exact absurd h (by omega) | exact rd_news (rd_drop0 (HS5.out.below B7.out) t) (by rw [List.length_drop]; have := HN.out; omega) h) (bcells_one _) (by unfold maxLen; omega) (by omega) B7.out.size ?_; intro a8 c8 w8 hA; have hO := hA.own; rw [← bcells_app] at hO; have O8 : Hid _ := hO; have B8 : Hid (Below w5.heap.size w5 w8) := B7.out.grown hA.grow B7.out.size (fun q hq => (O7.out.lt q hq).1); clear hA hO) | (at_builtin; refine Lib.wpList_append_own_string w6 rfl _ _ 22 9 rfl w5.heap.size 5 i0 Try.underlying22 Try.underlying9 hi0 hz0 hz1 hz2 (.slice a6 (f + 1) c6) (f + 1) (bcells (zs.take (f + 1))) rfl O6.out wd rfl (by unfold maxLen; omega) (by omega) B6.out.size ?_; intro v7 w7 hO hG _; obtain ⟨a7, c7, rfl⟩ := own_shape hO; have O7 : Hid (w7.ownsRow w5.heap.size 5 1 (.slice a7 (f + 1 + wd.size) c7) (f + 1 + wd.size) (bcells (zs.take (f + 1) ++ nums wd))) := (by (try rw [Nat.zero_add] at hO); rw [bcells_app, ← str_nums]; exact hO); have B7 : Hid (Below w5.heap.size w5 w7) := B6.out.grown hG B6.out.size (fun q hq => (O6.out.lt q hq).1); clear hO hG) | (at_builtin; refine wpList_append_row rfl _ _ 22 rfl 5 i0 (.int .u8 0) 1 1 Try.underlying22 hi0 hz0 hz1 hz2 rfl (by omega) w5.heap.size none 0 0 [] rfl (World.ownsRow_nil _ _ _ _) (some ⟨g, 0, none⟩) (f + 1) cp (bcells (zs.take (f + 1))) rfl (by rw [bcells_length, List.length_take]; have := HN.out; omega) (fun h => rd_news (rd_take0 HS5.out (f + 1)) (by rw [List.length_take]; have := HN.out; omega) h) (bcells_one _) (by unfold maxLen; omega) (by omega) (Nat.le_refl _) ?_; intro a6 c6 w6 hA; have O6 : Hid (w6.ownsRow w5.heap.size 5 1 (.slice a6 (f + 1) c6) (f + 1) (bcells (zs.take (f + 1)))) := (by have := hA.own; rw [Nat.zero_add, List.nil_append] at this; exact this); have B6 : Hid (Below w5.heap.size w5 w6) := (Below.refl _ _).grown hA.grow (Nat.le_refl _) (fun q hq => by cases hq); have c6w := cellB W5.out B6.out; clear hA))
                  all_goals go_returns
                  all_goals exact ⟨_, rfl, by rw [HRES.out]; exact (OwB.own O8.out (by rw [List.length_append, List.length_append, nums_length, List.length_take, List.length_drop, ← HN.out]; omega)).mono (Nat.le_trans F4.out.below.size B5.out.size), R4.out.keep (B5.out.trans (B8.out.mono B5.out.size)), fq_below F4.out R4.out.lt (B5.out.trans (B8.out.mono B5.out.size))⟩
              · have HTn : Hid (T = toOf zs (n - (t + 1)) (t + 1)) := by show _ = _; rw [HTt.out, esub, toOf, if_neg (by rw [← hz]; exact hzz)]
                have e1 : (z != 32) = true := bne_iff_ne.mpr (by omega)
                have e2 : (z != 10) = true := bne_iff_ne.mpr (by omega)
                have e3 : ¬ z = 32 := by omega
                have e4 : ¬ z = 10 := by omega
                clear hz hzz
                go_wp2
                go_round
                case rel => exact ⟨t + 1, by omega, by omega, by go_num, HTn⟩
                case measure => simp [intOf]; omega
      · have HFn : Hid (F = fromOf zs f) := by show _ = _; rw [HFf.out, fromOf, if_neg (by rw [← hz]; exact hzz)]
        have e1 : (z != 32) = true := bne_iff_ne.mpr (by omega)
        have e2 : (z != 10) = true := bne_iff_ne.mpr (by omega)
        have e3 : ¬ z = 32 := by omega
        have e4 : ¬ z = 10 := by omega
        clear hz hzz
        go_wp2
        go_round
        case rel => exact ⟨f, by omega, by go_num, HFn⟩
        case measure => simp [intOf]
end Go.Proofs.Ytepbddfpdlapbaa.tk
