import Derived.Test.YtccnjmnafkfjdaaGreatTrFitsA
namespace Go.Proofs.YtccnjmnafkfjdaaGreat.vt
open Go.RowKit Go.Proofs.YtccnjmnafkfjdaaGreat.bts Go.Proofs.YtccnjmnafkfjdaaGreat.nod Go.Proofs.YtccnjmnafkfjdaaGreat.lex

theorem RepS.take {w : World} {b off m cap : Nat} {ts : List Int} (h : RepS w (.slice (some ⟨b, off, none⟩) m cap) ts) (n : Nat) (hn : n ≤ m) : RepS w (.slice (some ⟨b, off, none⟩) n cap) (ts.take n) := by
  obtain ⟨ao, cp, e, h1, h2, h3, hx⟩ := h
  simp only [Value.slice.injEq] at e
  obtain ⟨rfl, rfl, rfl⟩ := e
  have hl : (ts.take n).length = n := by rw [List.length_take]; omega
  refine ⟨_, cap, by rw [hl], by omega, h2, by omega, fun k hk => ?_⟩
  rw [hl] at hk
  obtain ⟨b', off', u, e, hc, D, t, hr, hkt⟩ := hx k (by omega)
  refine ⟨b', off', u, e, hc, D, t, hr, ?_⟩
  rw [show (ts.take n).getD k 0 = ts.getD k 0 by simp [List.getD_eq_getElem?_getD, hk]]
  exact hkt
theorem RepS.drop {w : World} {b off m cap : Nat} {ts : List Int} (h : RepS w (.slice (some ⟨b, off, none⟩) m cap) ts) (n : Nat) (hn : n ≤ m) (ra : Option Addr) (hra : n < m → ra = some ⟨b, off + n, none⟩) : RepS w (.slice ra (m - n) (cap - n)) (ts.drop n) := by
  obtain ⟨ao, cp, e, h1, h2, h3, hx⟩ := h
  simp only [Value.slice.injEq] at e
  obtain ⟨rfl, rfl, rfl⟩ := e
  have hl : (ts.drop n).length = ts.length - n := List.length_drop
  refine ⟨ra, cap - n, by rw [hl], by omega, by omega, by omega, fun k hk => ?_⟩
  rw [hl] at hk
  obtain ⟨b', off', u, e, hc, D, t, hr, hkt⟩ := hx (n + k) (by omega)
  simp only [Option.some.injEq, Addr.mk.injEq, and_true] at e
  obtain ⟨rfl, rfl⟩ := e
  refine ⟨b, off + n, u, hra (by omega), by rw [Nat.add_assoc]; exact hc, D, t, hr, ?_⟩
  rw [show (ts.drop n).getD k 0 = ts.getD (n + k) 0 by simp [List.getD_eq_getElem?_getD]]
  exact hkt

set_option maxRecDepth 100000 in
theorem targets_any (g : Nat) (b off m cap n : Nat) (w : World) (c1 : w.cell? ⟨g, 1, none⟩ = some (.int .i64 n)) (c5 : w.cell? ⟨g, 5, none⟩ = some (.slice (some ⟨b, off, none⟩) m cap)) (hn : n ≤ m) (hm : m ≤ cap) (_hc : cap ≤ 9223372036854775807) :
    Calls Tryz.prog 85 #[.pointer (some ⟨g, 0, none⟩)] w fun e w' => e = .returned (.slice (some ⟨b, off, none⟩) n cap) ∧ Below w.heap.size w w' := by
  have f1 : (n : Int) ≤ (cap : Int) := by omega
  have f2 : (0 : Int) ≤ (n : Int) := by omega
  go_enter Tryz.func85, Tryz.ntmps85
  go_wp2_with fail
  go_quiet (fail)
  go_wp2_with fail
  go_ret
  exact ⟨by simp, bel_drewN (Below.refl _ _) _⟩

set_option maxRecDepth 100000 in
theorem values_any (g : Nat) (b off m cap n : Nat) (w : World) (c1 : w.cell? ⟨g, 1, none⟩ = some (.int .i64 n)) (c5 : w.cell? ⟨g, 5, none⟩ = some (.slice (some ⟨b, off, none⟩) m cap)) (hn : n ≤ m) (hm : m ≤ cap) (_hc : cap ≤ 9223372036854775807) :
    Calls Tryz.prog 86 #[.pointer (some ⟨g, 0, none⟩)] w fun e w' => (∃ ra, e = .returned (.slice ra (m - n) (cap - n)) ∧ (n < m → ra = some ⟨b, off + n, none⟩)) ∧ Below w.heap.size w w' := by
  have f1 : (n : Int) ≤ (m : Int) := by omega
  have f2 : (0 : Int) ≤ (n : Int) := by omega
  by_cases h1 : cap = n
  · go_enter Tryz.func86, Tryz.ntmps86
    go_wp2_with fail
    go_quiet (fail)
    go_wp2_with fail
    go_ret
    refine ⟨⟨some ⟨b, off, none⟩, ?_, fun h => by omega⟩, bel_drewN (Below.refl _ _) _⟩
    rw [show cap - n = 0 by omega]
    rfl
  · go_enter Tryz.func86, Tryz.ntmps86
    go_wp2_with fail
    go_quiet (fail)
    go_wp2_with fail
    go_ret
    exact ⟨⟨_, rfl, fun _ => rfl⟩, bel_drewN (Below.refl _ _) _⟩

set_option maxRecDepth 100000 in
set_option maxHeartbeats 4000000 in
theorem ft2 (g : Nat) (d : Nd) (ao : Option Addr) (cap : Nat) (at_ an : Option Addr) (ca cn : Nat) (w : World) (ts : List Int) (N : Node6 w g d ao ts.length cap at_ an ca cn) (_hm : RcVV w (.slice an d.names.length cn) d.names) (hsz : d.text.length + sizeSS d.names ≤ 1048576) (h : RepS w (.slice ao ts.length cap) ts) :
    Calls Tryz.prog 82 #[.pointer (some ⟨g, 0, none⟩)] w fun e w' => e = .returned (.bool (numbered d.n d.text d.names 1 50 && (decide (d.n ≤ (ts.length : Int)) && (takesAll 3 (ts.take d.n.toNat) 1 50 && takesAll 2 (ts.drop d.n.toNat) 1 50)))) ∧ Below w.heap.size w w' := by
  have c1 := N.c1
  have c5 := N.c5
  have HN : Hid (Node6 w g d ao ts.length cap at_ an ca cn) := N
  have hl6 : ts.length ≤ 1048576 := by obtain ⟨_, _, _, _, _, h3, _⟩ := h; exact h3
  have P : Hid (∀ W, Below w.heap.size w W → Calls Tryz.prog 84 #[.pointer (some ⟨g, 0, none⟩), .int .i64 1, .int .i64 50] W fun e w' => e = .returned (.bool (numbered d.n d.text d.names 1 50)) ∧ w' = W) := fun W hW => numbered_any g d ao ts.length cap at_ an ca cn 1 50 W (HN.out.below hW) hsz
  cases hnb : numbered d.n d.text d.names 1 50 with
  | false =>
    rw [hnb] at P
    clear N _hm hsz h hnb HN
    generalize ts.length = m at *
    go_enter Tryz.func82, Tryz.ntmps82
    go_wp2_with fail
    go_quiet ((go_at_call 84; exact Calls.quiet_of_same (P.out _ (by repeat (first | exact Below.refl _ _ | assumption | refine Below.drew ?_ | refine bel_drewN ?_ _)))))
    go_wp2_with fail
    go_ret
    exact ⟨rfl, by repeat (first | exact Below.refl _ _ | assumption | refine Below.drew ?_ | refine bel_drewN ?_ _)⟩
  | true =>
    rw [hnb] at P
    have hr : 1 ≤ d.n ∧ d.n ≤ 50 := by
      unfold numbered at hnb
      simp only [Bool.and_eq_true, decide_eq_true_eq] at hnb
      exact ⟨hnb.1, hnb.2.1⟩
    obtain ⟨n, hn⟩ : ∃ n : Nat, d.n = (n : Int) := ⟨d.n.toNat, by omega⟩
    rw [hn, Int.toNat_natCast]
    rw [hn] at c1 hr
    by_cases hle : n ≤ ts.length
    · have hS := h
      obtain ⟨ao2, cap2, e2, k1, k2, k3, hx⟩ := h
      simp only [Value.slice.injEq, true_and] at e2
      obtain ⟨rfl, rfl⟩ := e2
      obtain ⟨b, off, _, e3, _⟩ := hx 0 (by omega)
      subst e3
      have T : Hid (∀ W, Below w.heap.size w W → _) := fun W (hW : Below w.heap.size w W) => targets_any g b off ts.length cap n W (by have := (HN.out.below hW).c1; rwa [hn] at this) (HN.out.below hW).c5 hle k1 k2
      have V := fun W (hW : Below w.heap.size w W) => values_any g b off ts.length cap n W (by have := (HN.out.below hW).c1; rwa [hn] at this) (HN.out.below hW).c5 hle k1 k2
      have A1 := fun W (hW : Below w.heap.size w W) => takesAll_any 3 (by omega) _ (ts.take n) 1 50 W ((hS.kept hW).take n hle) (by omega) (by omega)
      have A2 := fun W (hW : Below w.heap.size w W) ra hra => takesAll_any 2 (by omega) _ (ts.drop n) 1 50 W ((hS.kept hW).drop n hle ra hra) (by omega) (by omega)
      have HV : Hid (∀ W, Below w.heap.size w W → _) := V
      have HA1 : Hid (∀ W, Below w.heap.size w W → _) := A1
      have HA2 : Hid (∀ W, Below w.heap.size w W → ∀ ra : Option Addr, (n < ts.length → ra = some (⟨b, off + n, none⟩ : Addr)) → _) := A2
      clear V A1 A2
      have e1 : decide ((ts.length : Int) < (n : Int)) = false := by simp; omega
      have e1' : decide (ts.length < n) = false := by simp; omega
      rw [decide_eq_true (show (n : Int) ≤ (ts.length : Int) by omega)]
      generalize takesAll 3 (ts.take n) 1 50 = t1 at HA1 ⊢
      generalize takesAll 2 (ts.drop n) 1 50 = t2 at HA2 ⊢
      clear hx hS N _hm hsz hnb
      generalize ts.length = m at *
      go_enter Tryz.func82, Tryz.ntmps82
      go_wp2_with fail
      go_quiet ((go_at_call 84; exact Calls.quiet_of_same (P.out _ (by repeat (first | exact Below.refl _ _ | assumption | refine Below.drew ?_ | refine bel_drewN ?_ _)))))
      go_wp2_with fail
      refine (T.out (w.drewN _) (bel_drewN (Below.refl _ _) _)).mono ?_
      rintro e w1 ⟨rfl, hb1⟩
      clear T
      have HB1 : Hid (Below w.heap.size w w1) := (bel_drewN (Below.refl _ _) _).trans hb1
      clear hb1
      go_wp2_with fail
      refine (HA1.out _ HB1.out).mono ?_
      rintro e w2 ⟨rfl, hb2⟩
      have HB2 : Hid (Below w.heap.size w w2) := HB1.out.trans (hb2.mono HB1.out.size)
      clear hb2
      cases t1 with
      | false =>
        go_wp2_with fail
        go_ret
        exact ⟨rfl, HB2.out⟩
      | true =>
        go_wp2_with fail
        refine (HV.out _ HB2.out).mono ?_
        rintro e w3 ⟨⟨ra, rfl, hra⟩, hb3⟩
        have HB3 : Hid (Below w.heap.size w w3) := HB2.out.trans (hb3.mono HB2.out.size)
        have HR : Hid (n < m → ra = some ⟨b, off + n, none⟩) := hra
        clear hb3 hra
        go_wp2_with fail
        refine (HA2.out _ HB3.out ra HR.out).mono ?_
        rintro e w4 ⟨rfl, hb4⟩
        have HB4 : Hid (Below w.heap.size w w4) := HB3.out.trans (hb4.mono HB3.out.size)
        clear hb4
        go_wp2_with fail
        go_ret
        exact ⟨ret_bool (by simp), HB4.out⟩
    · have e1 : decide ((ts.length : Int) < (n : Int)) = true := by simp; omega
      have e1' : decide (ts.length < n) = true := by simp; omega
      rw [decide_eq_false (show ¬ (n : Int) ≤ (ts.length : Int) by omega)]
      clear N _hm hsz h HN hnb
      generalize ts.length = m at *
      go_enter Tryz.func82, Tryz.ntmps82
      go_wp2_with fail
      go_quiet ((go_at_call 84; exact Calls.quiet_of_same (P.out _ (by repeat (first | exact Below.refl _ _ | assumption | refine Below.drew ?_ | refine bel_drewN ?_ _)))))
      go_wp2_with fail
      go_ret
      exact ⟨rfl, by repeat (first | exact Below.refl _ _ | assumption | refine Below.drew ?_ | refine bel_drewN ?_ _)⟩

set_option maxRecDepth 100000 in
set_option maxHeartbeats 4000000 in
theorem ft7 (g : Nat) (d : Nd) (ao : Option Addr) (cap : Nat) (at_ an : Option Addr) (ca cn : Nat) (w : World) (ts : List Int) (N : Node6 w g d ao ts.length cap at_ an ca cn) (hm : RcVV w (.slice an d.names.length cn) d.names) (hsz : d.text.length + sizeSS d.names ≤ 1048576) (h : RepS w (.slice ao ts.length cap) ts) :
    Calls Tryz.prog 100 #[.pointer (some ⟨g, 0, none⟩)] w fun e w' => e = .returned (.bool (named d.n d.text d.names 1 1 && (holds [2, 2, 0] ts || holds [2, 2, 2, 0] ts))) ∧ Below w.heap.size w w' := by
  have P := named_any g d ao ts.length cap at_ an ca cn 1 1 w N hm hsz (by omega) (by omega)
  have HN : Hid (Node6 w g d ao ts.length cap at_ an ca cn) := N
  have HS : Hid (RepS w (.slice ao ts.length cap) ts) := h
  have H1 : Hid (∀ W, Below w.heap.size w W → Calls Tryz.prog 80 #[.pointer (some ⟨g, 0, none⟩), .slice (some ⟨W.heap.size, 0, none⟩) 3 3] (W.alloc (.cells #[.int .i64 2, .int .i64 2, .int .i64 0] 69)) fun e w' => e = .returned (.bool (holds [2, 2, 0] ts)) ∧ Below (W.alloc (.cells #[.int .i64 2, .int .i64 2, .int .i64 0] 69)).heap.size (W.alloc (.cells #[.int .i64 2, .int .i64 2, .int .i64 0] 69)) w') :=
    fun W hW => holds_any g d ao cap at_ an ca cn _ ts (HN.out.below (hW.alloc hW.size _)) (HS.out.kept (hW.alloc hW.size _)) _ [2, 2, 0] (roles_new W [2, 2, 0] _ (by decide)) (by decide)
  have H2 : Hid (∀ W, Below w.heap.size w W → Calls Tryz.prog 80 #[.pointer (some ⟨g, 0, none⟩), .slice (some ⟨W.heap.size, 0, none⟩) 4 4] (W.alloc (.cells #[.int .i64 2, .int .i64 2, .int .i64 2, .int .i64 0] 69)) fun e w' => e = .returned (.bool (holds [2, 2, 2, 0] ts)) ∧ Below (W.alloc (.cells #[.int .i64 2, .int .i64 2, .int .i64 2, .int .i64 0] 69)).heap.size (W.alloc (.cells #[.int .i64 2, .int .i64 2, .int .i64 2, .int .i64 0] 69)) w') :=
    fun W hW => holds_any g d ao cap at_ an ca cn _ ts (HN.out.below (hW.alloc hW.size _)) (HS.out.kept (hW.alloc hW.size _)) _ [2, 2, 2, 0] (roles_new W [2, 2, 2, 0] _ (by decide)) (by decide)
  generalize named d.n d.text d.names 1 1 = nb at P ⊢
  generalize holds [2, 2, 0] ts = h1 at H1 ⊢
  generalize holds [2, 2, 2, 0] ts = h2 at H2 ⊢
  clear N hm hsz h HN HS
  cases nb with
  | false =>
    go_enter Tryz.func100, Tryz.ntmps100
    go_wp2_with fail
    refine P.mono ?_
    rintro e w' ⟨rfl, hw⟩
    replace hw := hw.symm
    subst hw
    clear P
    go_wp2_with fail
    go_ret
    exact ⟨rfl, Below.refl _ _⟩
  | true =>
    go_enter Tryz.func100, Tryz.ntmps100
    go_wp2_with fail
    refine P.mono ?_
    rintro e w' ⟨rfl, hw⟩
    replace hw := hw.symm
    subst hw
    clear P
    go_wp2_with fail
    refine (H1.out w (Below.refl _ _)).mono ?_
    rintro e w1 ⟨rfl, hw1⟩
    have HB : Hid (Below w.heap.size w w1) := ((Below.refl _ _).alloc (Nat.le_refl _) _).trans (hw1.mono (by simp))
    clear hw1
    cases h1 with
    | true =>
      go_wp2_with fail
      go_ret
      exact ⟨ret_bool (by simp), HB.out⟩
    | false =>
      go_wp2_with fail
      refine (H2.out w1 HB.out).mono ?_
      rintro e w2 ⟨rfl, hw2⟩
      have hz := HB.out.size
      have HB2 : Hid (Below w.heap.size w w2) := (HB.out.alloc HB.out.size _).trans (hw2.mono (by simp; omega))
      clear hw2
      go_wp2_with fail
      go_ret
      exact ⟨ret_bool (by simp), HB2.out⟩
end Go.Proofs.YtccnjmnafkfjdaaGreat.vt
