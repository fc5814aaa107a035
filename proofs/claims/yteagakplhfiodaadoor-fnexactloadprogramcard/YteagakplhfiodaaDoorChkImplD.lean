import Derived.Test.YteagakplhfiodaaDoorChkImplC
namespace Go.Proofs.YteagakplhfiodaaDoor.chk
open Go.RowKit Go.Proofs.YteagakplhfiodaaDoor.bts Go.Proofs.YteagakplhfiodaaDoor.pg

theorem shA_lt10 (op : Nat) (h : op < 28) : shA op < 10 ∧ shB op < 10 := by
  revert op; decide

set_option maxRecDepth 100000 in
set_option maxHeartbeats 4000000 in
theorem knowsAll_any (g : Nat) (p : Pg) (f : Pr) (ak ap ac ad : Option Addr) (ck cp cc cd : Nat) (vT vB : Value) (h0 : 0 ≤ f.slots) (h1 : f.slots ≤ 200) (w : World) (C : Ck w g (.slice ak p.consts.length ck) (.slice ap p.protos.length cp) f.params f.slots (.slice ac f.caps.length cc) (.slice ad f.code.length cd) vT vB)
    (hS : Shp w) (hp : RdP w ap p.protos) (hd : RdI w ad f.code) (hnd : f.code.length ≤ 1048576) (_hnp : p.protos.length ≤ 1048576) (hpos : ∀ i, i < p.protos.length → ∀ j, j < (p.protos.getD i pr0).caps.length → 0 ≤ ((p.protos.getD i pr0).caps.getD j cp0).index)
    (bb : Bool) (HBB : Hid (bb = true ↔ ∀ i, i < f.code.length → insOK p f (f.code.getD i in0) = true)) :
    Calls Tryd.prog 38 #[.pointer (some ⟨g, 0, none⟩)] w fun e w' => e = .returned (.bool bb) ∧ Below w.heap.size w w' := by
  obtain ⟨n, hn⟩ : ∃ n, n = f.code.length := ⟨_, rfl⟩
  have HN : Hid (f.code.length = n) := hn.symm
  obtain ⟨np, hnpE⟩ : ∃ n, n = p.protos.length := ⟨_, rfl⟩
  have HNP : Hid (p.protos.length = np) := hnpE.symm
  have hw0 := hS.lt
  have HCK : Hid (∀ W, Below w.heap.size w W → Ck W g (.slice ak p.consts.length ck) (.slice ap p.protos.length cp) f.params f.slots (.slice ac f.caps.length cc) (.slice ad f.code.length cd) vT vB) := fun W hW => C.below hW C.lt
  have HSH : Hid (∀ W, Below w.heap.size w W → Shp W) := fun W hW => hS.below hW hw0
  have HP : Hid (RdP w ap p.protos) := hp
  have HD : Hid (RdI w ad f.code) := hd
  have HPOS : Hid (∀ i, i < p.protos.length → ∀ j, j < (p.protos.getD i pr0).caps.length → 0 ≤ ((p.protos.getD i pr0).caps.getD j cp0).index) := hpos
  have c5 := C.at 5 _ rfl
  rw [← hn] at c5 hnd
  rw [← hnpE] at _hnp
  clear C hS hp hd hn hpos hnpE
  go_enter Tryd.func38, Tryd.ntmps38
  go_wp2_with fail
  go_loopw [11] (fun x wr => ∃ i : Nat, i ≤ n ∧ x = .int .i64 i ∧ Hid (∀ j, j < i → insOK p f (f.code.getD j in0) = true) ∧ Below w.heap.size w wr) (fun x _ => n - (intOf x).toNat)
  case atStart => exact ⟨0, Nat.zero_le _, rfl, fun j hj => absurd hj (by omega), Below.refl _ _⟩
  case round =>
    obtain ⟨i, hil, rfl, HOI, hbi⟩ := hrel
    have hsz := hbi.size
    by_cases hli : i < n
    · obtain ⟨b5, off5, rfl, e0, e1, e2⟩ := (HD.out.below hbi) i (by rw [HN.out]; exact hli)
      have hli' : (i : Int) < (n : Int) := by omega
      generalize hX : f.code.getD i in0 = X at e0 e1 e2
      have HX : Hid (f.code.getD i in0 = X) := hX
      clear hX
      have fin : Hid (insOK p f X = false → false = bb) := by
        intro h
        cases bb with
        | false => rfl
        | true =>
          have := HBB.out.1 rfl i (by rw [HN.out]; exact hli)
          rw [HX.out, h] at this
          cases this
      have goes : Hid (insOK p f X = true → ∀ j, j < i + 1 → insOK p f (f.code.getD j in0) = true) := by
        intro h j hj
        by_cases e : j = i
        · rw [e, HX.out]; exact h
        · exact HOI.out j (by omega)
      clear HOI
      by_cases hlo : X.op < 0
      · have d1 : decide (X.op < 0) = true := by simpa using hlo
        have HF : Hid (false = bb) := fin.out (by unfold insOK; rw [decide_eq_false (by omega)]; rfl)
        obtain ⟨xo, xa, xb⟩ := X
        simp only at e0 e1 e2 d1
        clear fin goes
        go_wp2_with fail
        go_returns
        exact ⟨ret_bI HF.out, hbi.alloc hsz _⟩
      have d1 : decide (X.op < 0) = false := by simp; omega
      by_cases hhi : 28 ≤ X.op
      · have d2 : decide (28 ≤ X.op) = true := by simpa using hhi
        have HF : Hid (false = bb) := fin.out (by unfold insOK; rw [decide_eq_false (show ¬ X.op ≤ 27 by omega)]; simp)
        obtain ⟨xo, xa, xb⟩ := X
        simp only at e0 e1 e2 d1 d2
        clear fin goes
        go_wp2_with fail
        go_returns
        exact ⟨ret_bI HF.out, hbi.alloc hsz _⟩
      have d2 : decide (28 ≤ X.op) = false := by simp; omega
      obtain ⟨op, hop, eop⟩ := op_cases (z := X.op) (by omega) (by omega)
      have HI : Hid (insOK p f X = (knows p f (shA op) X.a && (knows p f (shB op) X.b && (if X.op = 10 then (p.protos.getD X.a.toNat pr0).caps.all (capOK f) else true)))) := by
        show _ = _
        unfold insOK
        rw [decide_eq_true (show 0 ≤ X.op by omega), decide_eq_true (show X.op ≤ 27 by omega), eop]
        rfl
      have HKA6 : Hid (knows p f (shA op) X.a = true → shA op = 6 → 1 ≤ X.a ∧ X.a < (p.protos.length : Int)) := by
        intro h e
        have := knows_at h
        rw [e] at this
        exact this
      have H10 : Hid (X.op = 10 → shA op = 6) := by
        intro e
        have : op = 10 := by omega
        subst this; rfl
      have hab := shA_lt10 op hop
      obtain ⟨W1, hW1⟩ : ∃ W1, W1 = wr.alloc (.cells #[.int .i64 X.op, .int .i64 X.a, .int .i64 X.b] 50) := ⟨_, rfl⟩
      have hb1 : Below w.heap.size w W1 := by rw [hW1]; exact hbi.alloc hsz _
      have KA : Hid (∀ W, Below w.heap.size w W → Calls Tryd.prog 61 #[.pointer (some ⟨g, 0, none⟩), .int .i64 (shA op), .int .i64 X.a] W fun e w' => e = .returned (.bool (knows p f (shA op) X.a)) ∧ ∃ m, w' = W.drewN m) := fun W hW => knows_any g (shA op) hab.1 _ _ _ _ _ _ _ _ _ _ _ _ _ _ X.a vT vB h0 h1 W (HCK.out W hW)
      have KB : Hid (∀ W, Below w.heap.size w W → Calls Tryd.prog 61 #[.pointer (some ⟨g, 0, none⟩), .int .i64 (shB op), .int .i64 X.b] W fun e w' => e = .returned (.bool (knows p f (shB op) X.b)) ∧ ∃ m, w' = W.drewN m) := fun W hW => knows_any g (shB op) hab.2 _ _ _ _ _ _ _ _ _ _ _ _ _ _ X.b vT vB h0 h1 W (HCK.out W hW)
      obtain ⟨s0, s1, s2, s3⟩ := HSH.out W1 hb1 op hop
      generalize knows p f (shA op) X.a = ka at KA HI HKA6
      generalize knows p f (shB op) X.b = kb at KB HI
      have HB1 : Hid (Below w.heap.size w W1) := hb1
      obtain ⟨xo, xa, xb⟩ := X
      simp only at e0 e1 e2 d1 d2 eop HI HKA6 H10 KA KB hW1 fin goes
      subst eop
      have x0 : W1.cell? ⟨wr.heap.size, 0, none⟩ = some (.int .i64 op) := by rw [hW1]; exact cellNew rfl
      have x1 : W1.cell? ⟨wr.heap.size, 1, none⟩ = some (.int .i64 xa) := by rw [hW1]; exact cellNew rfl
      have x2 : W1.cell? ⟨wr.heap.size, 2, none⟩ = some (.int .i64 xb) := by rw [hW1]; exact cellNew rfl
      have ho' : (op : Int) < 28 := by omega
      generalize hsa : ((shA op : Nat) : Int) = sa at s0 KA
      generalize hsb : ((shB op : Nat) : Int) = sb at s1 KB
      have HW1 : Hid (W1 = wr.alloc (.cells #[.int .i64 op, .int .i64 xa, .int .i64 xb] 50)) := hW1
      clear hhi hlo hb1 s2 s3 hsa hsb hW1
      cases ka with
      | false =>
        have HF : Hid (false = bb) := fin.out (by rw [HI.out]; rfl)
        clear fin goes HI HKA6 H10
        go_wp2_with fail
        rw [← HW1.out]
        go_quiet (first | (go_at_call 61; with_reducible exact Calls.quiet_of (KA.out _ (bel_drewN HB1.out _))) | (go_at_call 61; with_reducible exact Calls.quiet_of (KB.out _ (bel_drewN HB1.out _))))
        go_wp2_with fail
        go_returns
        exact ⟨ret_bI HF.out, bel_drewN HB1.out _⟩
      | true =>
      cases kb with
      | false =>
        have HF : Hid (false = bb) := fin.out (by rw [HI.out]; rfl)
        clear fin goes HI HKA6 H10
        go_wp2_with fail
        rw [← HW1.out]
        go_quiet (first | (go_at_call 61; with_reducible exact Calls.quiet_of (KA.out _ (bel_drewN HB1.out _))) | (go_at_call 61; with_reducible exact Calls.quiet_of (KB.out _ (bel_drewN HB1.out _))))
        go_wp2_with fail
        go_returns
        exact ⟨ret_bI HF.out, bel_drewN HB1.out _⟩
      | true =>
        by_cases h10 : (op : Int) = 10
        · have hk := HKA6.out (by first | rfl | trivial) (H10.out h10)
          obtain ⟨k, hkx⟩ : ∃ k : Nat, xa = (k : Int) := ⟨xa.toNat, by omega⟩
          subst hkx
          have hkl : k < p.protos.length := by omega
          have o10 : ((op : Int) == 10) = true := by simpa using h10
          obtain ⟨b6, off6, uc2, ud2, rfl, z0, z1, z2, z3, hc2, hd2⟩ := (HP.out.below HB1.out) k hkl
          have c1 := (HCK.out W1 HB1.out).at 1 _ rfl
          have HE : Hid (insOK p f ⟨(op : Int), (k : Int), xb⟩ = (p.protos.getD k pr0).caps.all (capOK f)) := by show _ = _; rw [HI.out, if_pos h10]; rfl
          have hpos := HPOS.out k hkl
          rw [HNP.out] at c1
          generalize p.protos.getD k pr0 = q at z0 z1 hc2 hd2 HE hpos
          have DL : Hid (∀ W, Below W1.heap.size W1 W → Calls Tryd.prog 62 #[.pointer (some ⟨g, 0, none⟩), uc2] W fun e w' => e = .returned (.bool (q.caps.all (capOK f))) ∧ Below W1.heap.size W1 w') := fun W hW =>
            (lends_any g f q.caps _ _ _ _ _ _ _ _ _ _ uc2 vT vB h0 h1 W (HCK.out W (HB1.out.trans (hW.mono HB1.out.size))) (hc2.below hW) hpos).mono fun _ _ ⟨a, b⟩ => ⟨a, hW.trans (b.mono hW.size)⟩
          obtain ⟨a2, c2, rfl, l2, _⟩ := hc2
          obtain ⟨n2, hn2⟩ : ∃ n, n = q.caps.length := ⟨_, rfl⟩
          rw [← hn2] at z2 DL l2
          have hk1 : (k : Int) < (np : Int) := by have := HNP.out; omega
          have HCC : Hid (∀ W, Below W1.heap.size W1 W → W.cell? ⟨g, 1, none⟩ = some (.slice (some ⟨b6, off6, none⟩) np cp) ∧ W.cell? ⟨wr.heap.size, 0, none⟩ = some (.int .i64 op) ∧ W.cell? ⟨wr.heap.size, 1, none⟩ = some (.int .i64 k) ∧ W.cell? ⟨b6, off6 + k * 4 + 2, none⟩ = some (.slice a2 n2 c2)) := fun W hW => ⟨cellB c1 hW, cellB x0 hW, cellB x1 hW, cellB z2 hW⟩
          generalize q.caps.all (capOK f) = lr at DL HE
          clear hpos HI HKA6 H10 h10 hk hn2 z0 z1 z3 hd2
          cases lr with
          | false =>
            have HF : Hid (false = bb) := fin.out HE.out
            clear fin goes
            go_wp2_with fail
            rw [← HW1.out]
            go_quiet (first | (go_at_call 61; with_reducible exact Calls.quiet_of (KA.out _ (bel_drewN HB1.out _))) | (go_at_call 61; with_reducible exact Calls.quiet_of (KB.out _ (bel_drewN HB1.out _))))
            go_wp2_with fail
            go_region_held3 (fun W => (W.cell? ⟨g, 1, none⟩ = some (.slice (some ⟨b6, off6, none⟩) np cp) ∧ W.cell? ⟨wr.heap.size, 0, none⟩ = some (.int .i64 op) ∧ W.cell? ⟨wr.heap.size, 1, none⟩ = some (.int .i64 k) ∧ W.cell? ⟨b6, off6 + k * 4 + 2, none⟩ = some (.slice a2 n2 c2)) ∧ Below W1.heap.size W1 W) (refine ⟨?_, ?_⟩ <;> first | (refine HCC.out _ ?_; repeat (first | exact Below.refl _ _ | assumption | refine Below.drew ?_ | refine bel_drewN ?_ _)) | (repeat (first | exact Below.refl _ _ | assumption | refine Below.drew ?_ | refine bel_drewN ?_ _)))
              ((go_at_call 62; with_reducible refine (DL.out _ ?_).mono ?_; (repeat (first | exact Below.refl _ _ | assumption | refine Below.drew ?_ | refine bel_drewN ?_ _)); rintro e w' ⟨rfl, hb'⟩))
            go_wp2_with fail
            go_returns
            exact ⟨ret_bI HF.out, HB1.out.trans (Below.mono (by assumption) HB1.out.size)⟩
          | true =>
            have HG : Hid (∀ j, j < i + 1 → insOK p f (f.code.getD j in0) = true) := goes.out HE.out
            clear fin goes
            go_wp2_with fail
            rw [← HW1.out]
            go_quiet (first | (go_at_call 61; with_reducible exact Calls.quiet_of (KA.out _ (bel_drewN HB1.out _))) | (go_at_call 61; with_reducible exact Calls.quiet_of (KB.out _ (bel_drewN HB1.out _))))
            go_wp2_with fail
            go_region_held3 (fun W => (W.cell? ⟨g, 1, none⟩ = some (.slice (some ⟨b6, off6, none⟩) np cp) ∧ W.cell? ⟨wr.heap.size, 0, none⟩ = some (.int .i64 op) ∧ W.cell? ⟨wr.heap.size, 1, none⟩ = some (.int .i64 k) ∧ W.cell? ⟨b6, off6 + k * 4 + 2, none⟩ = some (.slice a2 n2 c2)) ∧ Below W1.heap.size W1 W) (refine ⟨?_, ?_⟩ <;> first | (refine HCC.out _ ?_; repeat (first | exact Below.refl _ _ | assumption | refine Below.drew ?_ | refine bel_drewN ?_ _)) | (repeat (first | exact Below.refl _ _ | assumption | refine Below.drew ?_ | refine bel_drewN ?_ _)))
              ((go_at_call 62; with_reducible refine (DL.out _ ?_).mono ?_; (repeat (first | exact Below.refl _ _ | assumption | refine Below.drew ?_ | refine bel_drewN ?_ _)); rintro e w' ⟨rfl, hb'⟩))
            go_wp2_with fail
            go_roundw
            case rel => exact ⟨i + 1, by omega, by go_num, HG.out, HB1.out.trans (Below.mono (by assumption) HB1.out.size)⟩
            case measure => simp [intOf]; omega
        · have o10 : ((op : Int) == 10) = false := by simpa using h10
          have HG : Hid (∀ j, j < i + 1 → insOK p f (f.code.getD j in0) = true) := goes.out (by rw [HI.out, if_neg h10]; rfl)
          clear fin goes HI HKA6 H10
          go_wp2_with fail
          rw [← HW1.out]
          go_quiet (first | (go_at_call 61; with_reducible exact Calls.quiet_of (KA.out _ (bel_drewN HB1.out _))) | (go_at_call 61; with_reducible exact Calls.quiet_of (KB.out _ (bel_drewN HB1.out _))))
          go_wp2_with fail
          first
            | go_roundw
            | (go_quiet (fail)
               go_wp2_with fail
               go_roundw)
          case rel => exact ⟨i + 1, by omega, by go_num, HG.out, by repeat (first | exact HB1.out | refine bel_drewN ?_ _)⟩
          case measure => simp [intOf]; omega
    · have HF : Hid (true = bb) := (HBB.out.2 (fun j hj => HOI.out j (by have := HN.out; omega))).symm
      clear HOI
      go_wp2_with fail
      go_returns
      exact ⟨ret_bI HF.out, hbi⟩
end Go.Proofs.YteagakplhfiodaaDoor.chk
