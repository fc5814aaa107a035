import Derived.Test.YtdffdkaligkkbaaLexToks
namespace Go.Proofs.Ytdffdkaligkkbaa.lex
open Go.RowKit Go.Proofs.Ytdffdkaligkkbaa.bts Go.Proofs.Ytdffdkaligkkbaa.scn Go.Proofs.Ytdffdkaligkkbaa.lit

theorem lx_len {zs : List Int} (hb : Bts zs) : ∀ (j k : Nat) (out : List (Int × Nat × Nat)), zs.length - k ≤ j → out.length ≤ k → k ≤ zs.length → (lx zs k out).1.length ≤ zs.length := by
  intro j
  induction j with
  | zero =>
    intro k out hj ho hk
    rw [lx_end (by omega)]; simp only; omega
  | succ j ih =>
    intro k out hj ho hk
    by_cases h : k < zs.length
    · cases hbl : blank (zs.getD k 0) with
      | true => rw [lx_blank h hbl]; exact ih (k + 1) out (by omega) (by omega) (by omega)
      | false =>
        by_cases hc : zs.getD k 0 = 45 ∧ k + 1 < zs.length ∧ zs.getD (k + 1) 0 = 45
        · rw [lx_comment h hbl hc]
          have h1 := span_step (p := notLf) h (by rw [hc.1]; rfl)
          have h2 := span_le notLf zs k
          exact ih _ out (by omega) (by omega) (by omega)
        · by_cases h0 : (tokK zs k).2.2 = 0
          · have f := tok_fits hb h h0
            rw [lx_tok h hbl hc h0 (by omega)]
            exact ih _ _ (by omega) (by simp; omega) (by omega)
          · rw [lx_bad h hbl hc h0]; simp
    · rw [lx_end h]; simp only; omega

theorem lexR_len {zs : List Int} (hb : Bts zs) : (lexR zs).1.length ≤ zs.length := by
  unfold lexR
  split
  · simp
  · exact lx_len hb zs.length 0 [] (by omega) (by simp) (by omega)

set_option maxHeartbeats 4000000 in
theorem core_of (ao : Option Addr) (cap : Nat) (zs : List Int) (w : World) (hr : Rd w ao zs) (hb : Bts zs)
    (im0 : ∀ (g : Nat) (w' : World), zs.length ≤ 1048576 → Rd w' (some ⟨g, 0, none⟩) zs → Calls Try.prog 21 #[.slice (some ⟨g, 0, none⟩) zs.length zs.length] w' (LexPost zs (lexR zs).1.length w')) :
    Calls Try.prog 7 #[.slice ao zs.length cap] w fun e w' => e = .returned (.bool true) ∧ Below w.heap.size w w' := by
  obtain ⟨n, hnn⟩ : ∃ n, n = zs.length := ⟨_, rfl⟩
  by_cases hn : 1048576 < n
  · rw [← hnn]
    clear hnn im0
    go_enter Try.func7, Try.ntmps7
    go_wp2_with fail
    go_ret
    exact ⟨rfl, Below.refl _ _⟩
  · have hn' : n ≤ 1048576 := by omega
    clear hn
    have HL : Hid (zs.length = n) := hnn.symm
    have toB : ∀ w', Below w.heap.size w w' → Calls Try.prog 11 #[.slice ao n cap] w' fun e w'' => e = .returned (.slice (some ⟨w'.heap.size, 0, none⟩) n n) ∧
        w''.ownsRow w'.heap.size 5 1 (.slice (some ⟨w'.heap.size, 0, none⟩) n n) n (bcells zs) ∧ Below w'.heap.size w' w'' := by
      intro w' hbw
      have := toByteS_any ao cap zs w' (hr.below hbw) (by omega)
      rw [← hnn] at this
      exact this
    obtain ⟨N, hNN⟩ : ∃ N, N = (lexR zs).1.length := ⟨_, rfl⟩
    have hNb : N ≤ 1048576 := by rw [hNN]; have := lexR_len hb; omega
    have HQ : Hid ((lexR zs).1.length = N) := hNN.symm
    have im : ∀ w' g, Rd w' (some ⟨g, 0, none⟩) zs → Calls Try.prog 21 #[.slice (some ⟨g, 0, none⟩) n n] w' (LexPost zs N w') := by
      intro w' g h
      have := im0 g w' (by omega) h
      rw [← hNN, ← hnn] at this
      exact this
    have sp : ∀ w' g, Rd w' (some ⟨g, 0, none⟩) zs → Calls Try.prog 20 #[.slice (some ⟨g, 0, none⟩) n n] w' (LexPost zs N w') := by
      intro w' g h
      have := specLex_any g n zs w' hb h (by omega) (by omega)
      rw [← hNN, ← hnn] at this
      exact this
    have TB : Hid _ := toB
    have IM : Hid _ := im
    have SP : Hid _ := sp
    rw [← hnn]
    clear hnn hNN toB im sp hr hb im0
    go_enter Try.func7, Try.ntmps7
    go_wp2_with fail
    refine (TB.out w (Below.refl _ _)).mono ?_
    rintro e w1 ⟨rfl, o1, b1⟩
    have C := SP.out w1 w.heap.size (Rd.owned o1 HL.out)
    clear o1
    go_wp2_with fail
    refine C.mono ?_
    rintro e w2 ⟨b2, aS, cS, rfl, oS⟩
    clear C
    have HB2 : Hid (Below w.heap.size w w2) := b1.trans (b2.mono b1.size)
    have H12 : Hid (w.heap.size ≤ w2.heap.size) := HB2.out.size
    clear b1 b2
    have HoS : Hid (w2.ownsRow w1.heap.size 50 3 (.slice aS N cS) N (tcells (lexR zs).1)) := oS
    clear oS
    go_wp2_with fail
    refine (TB.out w2 HB2.out).mono ?_
    rintro e w3 ⟨rfl, oX, b3⟩
    have HltX : Hid (w2.heap.size < w3.heap.size) := (oX.lt _ rfl).2
    have C := IM.out w3 w2.heap.size (Rd.owned oX HL.out)
    go_wp2_with fail
    refine C.mono ?_
    rintro e w4 ⟨b4, aI, cI, rfl, oG⟩
    clear C
    have HS4 : Hid (Below w2.heap.size w2 w4) := b3.trans (b4.mono b3.size)
    have HX4 : Hid (w4.ownsRow w2.heap.size 5 1 (.slice (some ⟨w2.heap.size, 0, none⟩) n n) n (bcells zs)) := own_below oX b4 HltX.out
    have HG4 : Hid (w4.ownsRow w3.heap.size 50 3 (.slice aI N cI) N (tcells (lexR zs).1)) := oG
    have C := eqTokenS_same aI aS N cI cS (lexR zs).1 w4 HQ.out (RdT.own oG HQ.out) (RdT.own (own_belowT HoS.out HS4.out (fun g h => (HoS.out.lt g h).2)) HQ.out) (by omega)
    clear oX oG b3 b4
    go_wp2_with fail
    refine C.mono ?_
    rintro e w5 ⟨rfl, s5⟩
    clear C
    have HS5 : Hid (Below w2.heap.size w2 w5) := HS4.out.trans (s5.mono HS4.out.size)
    have HX5 : Hid (w5.ownsRow w2.heap.size 5 1 (.slice (some ⟨w2.heap.size, 0, none⟩) n n) n (bcells zs)) := own_below HX4.out s5 (HX4.out.lt _ rfl).2
    have HG5 : Hid (w5.ownsRow w3.heap.size 50 3 (.slice aI N cI) N (tcells (lexR zs).1)) := own_belowT HG4.out s5 (fun g h => (HG4.out.lt g h).2)
    clear s5 HS4 HX4 HG4
    go_wp2_with fail
    refine (TB.out w5 (HB2.out.trans (HS5.out.mono H12.out))).mono ?_
    rintro e w6 ⟨rfl, oY, b6⟩
    have HS6 : Hid (Below w2.heap.size w2 w6) := HS5.out.trans (b6.mono HS5.out.size)
    have HX6 : Hid (w6.ownsRow w2.heap.size 5 1 (.slice (some ⟨w2.heap.size, 0, none⟩) n n) n (bcells zs)) := own_below HX5.out b6 (HX5.out.lt _ rfl).2
    have HG6 : Hid (w6.ownsRow w3.heap.size 50 3 (.slice aI N cI) N (tcells (lexR zs).1)) := own_belowT HG5.out b6 (fun g h => (HG5.out.lt g h).2)
    have C := eqByteS_at (some ⟨w2.heap.size, 0, none⟩) (some ⟨w5.heap.size, 0, none⟩) n n n zs w6 HL.out (Rd.owned HX6.out HL.out) (Rd.owned oY HL.out) (by omega)
    clear oY b6 HS5 HX5 HG5
    go_wp2_with fail
    refine C.mono ?_
    rintro e w7 ⟨rfl, s7⟩
    clear C
    have HS7 : Hid (Below w2.heap.size w2 w7) := HS6.out.trans (s7.2 _)
    have HG7 : Hid (w7.ownsRow w3.heap.size 50 3 (.slice aI N cI) N (tcells (lexR zs).1)) := own_heap HG6.out s7
    have C := markByteS_own (.slice (some ⟨w2.heap.size, 0, none⟩) n n) n w2.heap.size (bcells zs) 1 (by omega) (by omega) w7 (own_heap HX6.out s7) (by omega)
    clear s7 HS6 HX6 HG6
    go_wp2_with fail
    refine C.mono ?_
    rintro e w8 ⟨rfl, oX8, g8⟩
    clear C oX8
    have HS8 : Hid (Below w2.heap.size w2 w8) := HS7.out.grown g8 HS7.out.size (by intro k hk; cases hk; exact Nat.le_refl _)
    have HG8 : Hid (w8.ownsRow w3.heap.size 50 3 (.slice aI N cI) N (tcells (lexR zs).1)) := HG7.out.kept g8 (.inr (fun h => absurd (show w3.heap.size ≤ w2.heap.size from (HG7.out.lt _ h).1) (by have := HltX.out; omega)))
    have C := eqTokenS_same aI aS N cI cS (lexR zs).1 w8 HQ.out (RdT.own HG8.out HQ.out) (RdT.own (own_belowT HoS.out HS8.out (fun g h => (HoS.out.lt g h).2)) HQ.out) (by omega)
    clear g8 HS7 HG7
    go_wp2_with fail
    refine C.mono ?_
    rintro e w9 ⟨rfl, s9⟩
    clear C
    have HS9 : Hid (Below w2.heap.size w2 w9) := HS8.out.trans (s9.mono HS8.out.size)
    have HG9 : Hid (w9.ownsRow w3.heap.size 50 3 (.slice aI N cI) N (tcells (lexR zs).1)) := own_belowT HG8.out s9 (fun g h => (HG8.out.lt g h).2)
    have C := markTokenS_own (.slice aI N cI) N w3.heap.size (tcells (lexR zs).1) 1 (by omega) (by omega) w9 HG9.out (by omega)
    clear s9 HS8 HG8
    go_wp2_with fail
    refine C.mono ?_
    rintro e w10 ⟨rfl, oG10, g10⟩
    clear C
    have HS10 : Hid (Below w2.heap.size w2 w10) := HS9.out.grown g10 HS9.out.size (fun k hk => by have := (HG9.out.lt k hk).1; have := HltX.out; omega)
    have C := heldTokenS_marks aI cI N w3.heap.size 1 (by omega) (by omega) w10 oG10 (by omega)
    clear g10 HS9 oG10
    go_wp2_with fail
    refine C.mono ?_
    rintro e w' ⟨rfl, hw⟩
    replace hw := hw.symm
    subst hw
    clear C
    go_wp2_with fail
    refine (TB.out w10 (HB2.out.trans (HS10.out.mono H12.out))).mono ?_
    rintro e w11 ⟨rfl, o11, b11⟩
    have C := IM.out w11 w10.heap.size (Rd.owned o11 HL.out)
    have HS11 : Hid (Below w2.heap.size w2 w11) := HS10.out.trans (b11.mono HS10.out.size)
    clear o11 b11
    go_wp2_with fail
    refine C.mono ?_
    rintro e w12 ⟨b12, aJ, cJ, rfl, oJ⟩
    clear C
    have HS12 : Hid (Below w2.heap.size w2 w12) := HS11.out.trans (b12.mono HS11.out.size)
    have C := eqTokenS_same aJ aS N cJ cS (lexR zs).1 w12 HQ.out (RdT.own oJ HQ.out) (RdT.own (own_belowT HoS.out HS12.out (fun g h => (HoS.out.lt g h).2)) HQ.out) (by omega)
    clear oJ b12
    go_wp2_with fail
    refine C.mono ?_
    rintro e w13 ⟨rfl, s13⟩
    clear C
    go_wp2_with fail
    go_ret
    exact ⟨rfl, (HB2.out.trans (HS12.out.mono H12.out)).trans (s13.mono (Nat.le_trans H12.out HS12.out.size))⟩
end Go.Proofs.Ytdffdkaligkkbaa.lex
