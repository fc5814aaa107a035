import Derived.Test.YteagakplhfiodaaDoorChkSpecB
namespace Go.Proofs.YteagakplhfiodaaDoor.chk
open Go.RowKit Go.Proofs.YteagakplhfiodaaDoor.bts Go.Proofs.YteagakplhfiodaaDoor.pg

set_option maxRecDepth 100000 in
set_option maxHeartbeats 4000000 in
theorem l4insOK_any (p : Pg) (f : Pr) (x : In) (uk up uc ud : Value) (w : World) (hk : RdKV w uk p.consts) (hp : RdPV w up p.protos) (hc : RdCV w uc f.caps) (hd : RdIV w ud f.code) (h0 : 0 ≤ f.slots) (h1 : f.slots ≤ 200) :
    Calls Tryd.prog 25 #[.agg #[uk, up], .agg #[.int .i64 f.params, .int .i64 f.slots, uc, ud], .agg #[.int .i64 x.op, .int .i64 x.a, .int .i64 x.b]] w fun e w' => e = .returned (.bool (insOK p f x)) ∧ Below w.heap.size w w' := by
  by_cases hlo : x.op < 0
  · have HE : insOK p f x = false := by unfold insOK; rw [decide_eq_false (by omega)]; rfl
    rw [HE]
    obtain ⟨xo, xa, xb⟩ := x
    simp only at hlo ⊢
    clear HE hk hp hc hd
    go_enter Tryd.func25, Tryd.ntmps25
    go_wp2
    go_returns
    exact ⟨rfl, by go_grown⟩
  by_cases hhi : 27 < x.op
  · have HE : insOK p f x = false := by unfold insOK; rw [decide_eq_false (show ¬ x.op ≤ 27 by omega)]; simp
    rw [HE]
    obtain ⟨xo, xa, xb⟩ := x
    simp only at hlo hhi ⊢
    clear HE hk hp hc hd
    go_enter Tryd.func25, Tryd.ntmps25
    go_wp2
    go_returns
    exact ⟨rfl, by go_grown⟩
  obtain ⟨op, hop, eop⟩ := op_cases (z := x.op) (by omega) (by omega)
  have hab := shA_lt op hop
  obtain ⟨ak, ck, rfl, _, rk⟩ := hk
  obtain ⟨ap, cp, rfl, _, rp⟩ := hp
  obtain ⟨ac, cc, rfl, _, rc⟩ := hc
  obtain ⟨ad, cd, rfl, _, rd⟩ := hd
  have C : Hid (∀ W, Below w.heap.size w W → Calls Tryd.prog 47 #[.int .i64 op] W fun e w' => e = .returned (.tuple #[.string { data := #[chU (shA op), chU (shB op)] }, .int .i64 (tk op), .int .i64 (lvS op)]) ∧ Below W.heap.size W w') := fun W _ => l4row_any op hop W
  have CA : Hid (∀ W, Below w.heap.size w W → Calls Tryd.prog 48 #[.agg #[.slice ak p.consts.length ck, .slice ap p.protos.length cp], .agg #[.int .i64 f.params, .int .i64 f.slots, .slice ac f.caps.length cc, .slice ad f.code.length cd], .int .u8 (chU (shA op)).toNat, .int .i64 x.a] W
      fun e w' => e = .returned (.bool (knows p f (shA op) x.a)) ∧ Below W.heap.size W w') := fun W _ => (l4operand_any (shA op) hab.1 ak ap ac ad _ ck _ cp _ cc _ cd f.params f.slots x.a h0 h1 W)
  have CB : Hid (∀ W, Below w.heap.size w W → Calls Tryd.prog 48 #[.agg #[.slice ak p.consts.length ck, .slice ap p.protos.length cp], .agg #[.int .i64 f.params, .int .i64 f.slots, .slice ac f.caps.length cc, .slice ad f.code.length cd], .int .u8 (chU (shB op)).toNat, .int .i64 x.b] W
      fun e w' => e = .returned (.bool (knows p f (shB op) x.b)) ∧ Below W.heap.size W w') := fun W _ => (l4operand_any (shB op) hab.2 ak ap ac ad _ ck _ cp _ cc _ cd f.params f.slots x.b h0 h1 W)
  have HI : Hid (insOK p f x = (knows p f (shA op) x.a && (knows p f (shB op) x.b && (if x.op = 10 then (p.protos.getD x.a.toNat pr0).caps.all (capOK f) else true)))) := by
    show _ = _
    unfold insOK
    rw [decide_eq_true (show 0 ≤ x.op by omega), decide_eq_true (show x.op ≤ 27 by omega), eop]
    rfl
  generalize insOK p f x = res at HI ⊢
  have HKA : Hid (knows p f (shA op) x.a = true → shA op = 6 → 1 ≤ x.a ∧ x.a < (p.protos.length : Int)) := by
    intro h e
    have := knows_at h
    rw [e] at this
    exact this
  have H10 : Hid (x.op = 10 → shA op = 6) := by intro e; have : op = 10 := by omega
                                                subst this; rfl
  generalize knows p f (shA op) x.a = ka at CA HKA HI
  generalize knows p f (shB op) x.b = kb at CB HI
  generalize hca : chU (shA op) = ca at C CA
  generalize hcb : chU (shB op) = cb at C CB
  generalize tk op = t at C
  generalize lvS op = ls at C
  clear hca hcb hab hlo hhi
  obtain ⟨xo, xa, xb⟩ := x
  simp only at eop CA CB HKA H10 HI ⊢
  subst eop
  have HRP : Hid (RdP w ap p.protos) := rp
  have hop' : (op : Int) ≤ 27 := by omega
  clear rk rp rc rd
  go_enter Tryd.func25, Tryd.ntmps25
  go_wp2_with fail
  refine (C.out _ (by go_grown)).mono ?_
  rintro e w1 ⟨rfl, hb1⟩
  have HB1 : Hid (Below w.heap.size w w1) := Below.trans (by go_grown) (hb1.mono (by simp only [World.size_alloc]; omega))
  have p0 := cellB (cellOld (o := .cells #[.int .i64 op, .int .i64 xa, .int .i64 xb] 50) (cellOld (o := .cells #[.int .i64 f.params, .int .i64 f.slots, .slice ac f.caps.length cc, .slice ad f.code.length cd] 46) (cellNew (w := w) (cs := #[.slice ak p.consts.length ck, .slice ap p.protos.length cp]) (t := 26) (j := 0) (v := .slice ak p.consts.length ck) rfl))) hb1
  have p1 := cellB (cellOld (o := .cells #[.int .i64 op, .int .i64 xa, .int .i64 xb] 50) (cellOld (o := .cells #[.int .i64 f.params, .int .i64 f.slots, .slice ac f.caps.length cc, .slice ad f.code.length cd] 46) (cellNew (w := w) (cs := #[.slice ak p.consts.length ck, .slice ap p.protos.length cp]) (t := 26) (j := 1) (v := .slice ap p.protos.length cp) rfl))) hb1
  have f0 := cellB (cellOld (o := .cells #[.int .i64 op, .int .i64 xa, .int .i64 xb] 50) (cellNew (w := w.alloc (.cells #[.slice ak p.consts.length ck, .slice ap p.protos.length cp] 26)) (cs := #[.int .i64 f.params, .int .i64 f.slots, .slice ac f.caps.length cc, .slice ad f.code.length cd]) (t := 46) (j := 0) (v := .int .i64 f.params) rfl)) hb1
  have f1 := cellB (cellOld (o := .cells #[.int .i64 op, .int .i64 xa, .int .i64 xb] 50) (cellNew (w := w.alloc (.cells #[.slice ak p.consts.length ck, .slice ap p.protos.length cp] 26)) (cs := #[.int .i64 f.params, .int .i64 f.slots, .slice ac f.caps.length cc, .slice ad f.code.length cd]) (t := 46) (j := 1) (v := .int .i64 f.slots) rfl)) hb1
  have f2 := cellB (cellOld (o := .cells #[.int .i64 op, .int .i64 xa, .int .i64 xb] 50) (cellNew (w := w.alloc (.cells #[.slice ak p.consts.length ck, .slice ap p.protos.length cp] 26)) (cs := #[.int .i64 f.params, .int .i64 f.slots, .slice ac f.caps.length cc, .slice ad f.code.length cd]) (t := 46) (j := 2) (v := .slice ac f.caps.length cc) rfl)) hb1
  have f3 := cellB (cellOld (o := .cells #[.int .i64 op, .int .i64 xa, .int .i64 xb] 50) (cellNew (w := w.alloc (.cells #[.slice ak p.consts.length ck, .slice ap p.protos.length cp] 26)) (cs := #[.int .i64 f.params, .int .i64 f.slots, .slice ac f.caps.length cc, .slice ad f.code.length cd]) (t := 46) (j := 3) (v := .slice ad f.code.length cd) rfl)) hb1
  have x0 := cellB (cellNew (w := (w.alloc (.cells #[.slice ak p.consts.length ck, .slice ap p.protos.length cp] 26)).alloc (.cells #[.int .i64 f.params, .int .i64 f.slots, .slice ac f.caps.length cc, .slice ad f.code.length cd] 46)) (cs := #[.int .i64 op, .int .i64 xa, .int .i64 xb]) (t := 50) (j := 0) (v := .int .i64 op) rfl) hb1
  have x1 := cellB (cellNew (w := (w.alloc (.cells #[.slice ak p.consts.length ck, .slice ap p.protos.length cp] 26)).alloc (.cells #[.int .i64 f.params, .int .i64 f.slots, .slice ac f.caps.length cc, .slice ad f.code.length cd] 46)) (cs := #[.int .i64 op, .int .i64 xa, .int .i64 xb]) (t := 50) (j := 1) (v := .int .i64 xa) rfl) hb1
  have x2 := cellB (cellNew (w := (w.alloc (.cells #[.slice ak p.consts.length ck, .slice ap p.protos.length cp] 26)).alloc (.cells #[.int .i64 f.params, .int .i64 f.slots, .slice ac f.caps.length cc, .slice ad f.code.length cd] 46)) (cs := #[.int .i64 op, .int .i64 xa, .int .i64 xb]) (t := 50) (j := 2) (v := .int .i64 xb) rfl) hb1
  simp only [World.size_alloc] at p0 p1 f0 f1 f2 f3 x0 x1 x2
  clear hb1 C
  generalize hg0 : w.heap.size + 1 = g0 at *
  have HC : Hid (∀ W, Below w1.heap.size w1 W → W.cell? ⟨w.heap.size, 0, none⟩ = some (.slice ak p.consts.length ck) ∧ W.cell? ⟨w.heap.size, 1, none⟩ = some (.slice ap p.protos.length cp) ∧ W.cell? ⟨g0, 0, none⟩ = some (.int .i64 f.params) ∧ W.cell? ⟨g0, 1, none⟩ = some (.int .i64 f.slots) ∧ W.cell? ⟨g0, 2, none⟩ = some (.slice ac f.caps.length cc) ∧ W.cell? ⟨g0, 3, none⟩ = some (.slice ad f.code.length cd) ∧ W.cell? ⟨g0 + 1, 0, none⟩ = some (.int .i64 op) ∧ W.cell? ⟨g0 + 1, 1, none⟩ = some (.int .i64 xa) ∧ W.cell? ⟨g0 + 1, 2, none⟩ = some (.int .i64 xb)) :=
    fun W hW => ⟨cellB p0 hW, cellB p1 hW, cellB f0 hW, cellB f1 hW, cellB f2 hW, cellB f3 hW, cellB x0 hW, cellB x1 hW, cellB x2 hW⟩
  have DA : Hid (∀ W, Below w1.heap.size w1 W → Calls Tryd.prog 48 #[.agg #[.slice ak p.consts.length ck, .slice ap p.protos.length cp], .agg #[.int .i64 f.params, .int .i64 f.slots, .slice ac f.caps.length cc, .slice ad f.code.length cd], .int .u8 (({ data := #[ca, cb] } : ByteArray)[0]'(show 0 < 2 by omega)).toNat, .int .i64 xa] W
      fun e w' => e = .returned (.bool ka) ∧ Below w1.heap.size w1 w') := fun W hW => (CA.out W (HB1.out.trans (hW.mono HB1.out.size))).mono fun _ _ ⟨a, b⟩ => ⟨a, hW.trans (b.mono hW.size)⟩
  have DB : Hid (∀ W, Below w1.heap.size w1 W → Calls Tryd.prog 48 #[.agg #[.slice ak p.consts.length ck, .slice ap p.protos.length cp], .agg #[.int .i64 f.params, .int .i64 f.slots, .slice ac f.caps.length cc, .slice ad f.code.length cd], .int .u8 (({ data := #[ca, cb] } : ByteArray)[1]'(show 1 < 2 by omega)).toNat, .int .i64 xb] W
      fun e w' => e = .returned (.bool kb) ∧ Below w1.heap.size w1 w') := fun W hW => (CB.out W (HB1.out.trans (hW.mono HB1.out.size))).mono fun _ _ ⟨a, b⟩ => ⟨a, hW.trans (b.mono hW.size)⟩
  clear CA CB
  cases ka with
  | false =>
    go_wp2_with fail
    refine wp_region_noPanic ?_
    refine wp_region_held_drew (S := (fun W => (W.cell? ⟨w.heap.size, 0, none⟩ = some (.slice ak p.consts.length ck) ∧ W.cell? ⟨w.heap.size, 1, none⟩ = some (.slice ap p.protos.length cp) ∧ W.cell? ⟨g0, 0, none⟩ = some (.int .i64 f.params) ∧ W.cell? ⟨g0, 1, none⟩ = some (.int .i64 f.slots) ∧ W.cell? ⟨g0, 2, none⟩ = some (.slice ac f.caps.length cc) ∧ W.cell? ⟨g0, 3, none⟩ = some (.slice ad f.code.length cd) ∧ W.cell? ⟨g0 + 1, 0, none⟩ = some (.int .i64 op) ∧ W.cell? ⟨g0 + 1, 1, none⟩ = some (.int .i64 xa) ∧ W.cell? ⟨g0 + 1, 2, none⟩ = some (.int .i64 xb)) ∧ Below w1.heap.size w1 W)) (by kernel_rfl) ?_ (fun hHeld => ?_)
    (exact ⟨HC.out _ (Below.drew (Below.refl _ _)), Below.drew (Below.refl _ _)⟩)
    refine wpAnyH_take (i := 0) (v := ?_) rfl (by kernel_rfl) (by kernel_rfl) (by kernel_rfl) (fun _ _ _ h => h) (Or.inl ⟨by rfl, ?_⟩) (by assumption) ?_
    rotate_left
    (intro W hSw; obtain ⟨⟨q0, q1, q2, q3, q4, q5, q6, q7, q8⟩, q9⟩ := hSw; go_simp; try with_reducible rfl)
    try simp only [Act.put, List.setIfInBounds_toArray]
    refine wpAnyH_take (i := 1) (v := ?_) rfl (by kernel_rfl) (by kernel_rfl) (by kernel_rfl) (fun _ _ _ h => h) (Or.inl ⟨by rfl, ?_⟩) (by assumption) ?_
    rotate_left
    (intro W hSw; obtain ⟨⟨q0, q1, q2, q3, q4, q5, q6, q7, q8⟩, q9⟩ := hSw; go_simp; try with_reducible rfl)
    try simp only [Act.put]
    refine wpAnyH_take (i := 2) (v := ?_) rfl (by kernel_rfl) (by kernel_rfl) (by kernel_rfl) (fun _ _ _ h => h) (Or.inl ⟨by rfl, ?_⟩) (by assumption) ?_
    rotate_left
    (intro W hSw; obtain ⟨⟨q0, q1, q2, q3, q4, q5, q6, q7, q8⟩, q9⟩ := hSw; go_simp; try with_reducible rfl)
    try simp only [Act.put]
    refine wpAnyH_take (i := 4) (v := ?_) rfl (by kernel_rfl) (by kernel_rfl) (by kernel_rfl) (fun _ _ _ h => h) (Or.inl ⟨by rfl, ?_⟩) (by assumption) ?_
    rotate_left
    (intro W hSw; obtain ⟨⟨q0, q1, q2, q3, q4, q5, q6, q7, q8⟩, q9⟩ := hSw; go_simp; try with_reducible rfl)
    try simp only [Act.put]
    refine wpAnyH_take (i := 5) (v := ?_) rfl (by kernel_rfl) (by kernel_rfl) (by kernel_rfl) (fun _ _ _ h => h) (Or.inl ⟨by rfl, ?_⟩) (by assumption) ?_
    rotate_left
    (intro W hSw; obtain ⟨⟨q0, q1, q2, q3, q4, q5, q6, q7, q8⟩, q9⟩ := hSw; go_simp; try with_reducible rfl)
    try simp only [Act.put]
    refine wpAnyH_ready (rs := [3]) (by kernel_rfl) (by simp) ?_
    refine AllReadyH.cons rfl (fun K hK => ?_) AllReadyH.nil
    go_simp
    refine hK.out _ _ hHeld (fun hHeld2 => ?_)
    clear hK K hHeld
    try simp only [Act.put, List.setIfInBounds_toArray, List.set_cons_zero, List.set_cons_succ]
    refine wpAnyH_ready (rs := [6]) (by kernel_rfl) (by simp) ?_
    refine AllReadyH.cons rfl (fun K hK => ?_) AllReadyH.nil
    go_simp
    with_reducible refine (DA.out _ hHeld2.2).mono ?_
    rintro e w2 ⟨rfl, hb2⟩
    dsimp only
    refine hK.out _ _ ⟨HC.out _ hb2, hb2⟩ (fun hHeld => ?_)
    clear hK K hHeld2
    try simp only [Act.put, List.setIfInBounds_toArray, List.set_cons_zero, List.set_cons_succ]
    refine wpAnyH_take (i := 7) (v := ?_) rfl (by kernel_rfl) (by kernel_rfl) (by kernel_rfl) (fun _ _ _ h => h) (Or.inl ⟨by rfl, ?_⟩) (by assumption) ?_
    rotate_left
    (intro W hSw; obtain ⟨⟨q0, q1, q2, q3, q4, q5, q6, q7, q8⟩, q9⟩ := hSw; go_simp; try with_reducible rfl)
    try simp only [Act.put, List.setIfInBounds_toArray]
    refine wpAnyH_take (i := 8) (v := ?_) rfl (by kernel_rfl) (by kernel_rfl) (by kernel_rfl) (fun _ _ _ h => h) (Or.inl ⟨by rfl, ?_⟩) (by assumption) ?_
    rotate_left
    (intro W hSw; obtain ⟨⟨q0, q1, q2, q3, q4, q5, q6, q7, q8⟩, q9⟩ := hSw; go_simp; try with_reducible rfl)
    try simp only [Act.put]
    refine wpAnyH_take (i := 9) (v := undef) rfl (by kernel_rfl) (by kernel_rfl) (by kernel_rfl) (fun _ _ _ h => h) (Or.inr ⟨by rfl, rfl⟩) (by assumption) ?_
    try simp only [Act.put]
    refine wpAnyH_take (i := 10) (v := undef) rfl (by kernel_rfl) (by kernel_rfl) (by kernel_rfl) (fun _ _ _ h => h) (Or.inr ⟨by rfl, rfl⟩) (by assumption) ?_
    try simp only [Act.put]
    refine wpAnyH_take (i := 11) (v := undef) rfl (by kernel_rfl) (by kernel_rfl) (by kernel_rfl) (fun _ _ _ h => h) (Or.inr ⟨by rfl, rfl⟩) (by assumption) ?_
    try simp only [Act.put]
    refine wpAnyH_take (i := 13) (v := undef) rfl (by kernel_rfl) (by kernel_rfl) (by kernel_rfl) (fun _ _ _ h => h) (Or.inr ⟨by rfl, rfl⟩) (by assumption) ?_
    try simp only [Act.put]
    refine wpAnyH_take (i := 14) (v := undef) rfl (by kernel_rfl) (by kernel_rfl) (by kernel_rfl) (fun _ _ _ h => h) (Or.inr ⟨by rfl, rfl⟩) (by assumption) ?_
    try simp only [Act.put]
    refine wpAnyH_ready (rs := [12]) (by kernel_rfl) (by simp) ?_
    refine AllReadyH.cons rfl (fun K hK => ?_) AllReadyH.nil
    go_simp
    refine hK.out _ _ hHeld (fun hHeld2 => ?_)
    clear hK K hHeld
    have hHeld := hHeld2
    clear hHeld2
    try simp only [Act.put, List.setIfInBounds_toArray, List.set_cons_zero, List.set_cons_succ]
    refine wpAnyH_ready (rs := [15]) (by kernel_rfl) (by simp) ?_
    refine AllReadyH.cons rfl (fun K hK => ?_) AllReadyH.nil
    go_simp
    refine hK.out _ _ hHeld (fun hHeld2 => ?_)
    clear hK K hHeld
    have hHeld := hHeld2
    clear hHeld2
    try simp only [Act.put, List.setIfInBounds_toArray, List.set_cons_zero, List.set_cons_succ]
    refine wpAnyH_take (i := 16) (v := undef) rfl (by kernel_rfl) (by kernel_rfl) (by kernel_rfl) (fun _ _ _ h => h) (Or.inr ⟨by rfl, rfl⟩) (by assumption) ?_
    try simp only [Act.put, List.setIfInBounds_toArray]
    refine wpAnyH_take (i := 17) (v := ?_) rfl (by kernel_rfl) (by kernel_rfl) (by kernel_rfl) (fun _ _ _ h => h) (Or.inl ⟨by rfl, ?_⟩) (by assumption) ?_
    rotate_left
    (intro W hSw; obtain ⟨⟨q0, q1, q2, q3, q4, q5, q6, q7, q8⟩, q9⟩ := hSw; go_simp; try with_reducible rfl)
    try simp only [Act.put]
    refine wpAnyH_done (by kernel_rfl) ?_ _
    refine NoPanic.normal ?_
    go_wp2_with fail
    all_goals
      go_returns
      exact ⟨ret_b (by rw [HI.out]; rfl), HB1.out.trans (hb2.mono HB1.out.size)⟩
  | true =>
    go_wp2_with fail
    go_region_held3 (fun W => (W.cell? ⟨w.heap.size, 0, none⟩ = some (.slice ak p.consts.length ck) ∧ W.cell? ⟨w.heap.size, 1, none⟩ = some (.slice ap p.protos.length cp) ∧ W.cell? ⟨g0, 0, none⟩ = some (.int .i64 f.params) ∧ W.cell? ⟨g0, 1, none⟩ = some (.int .i64 f.slots) ∧ W.cell? ⟨g0, 2, none⟩ = some (.slice ac f.caps.length cc) ∧ W.cell? ⟨g0, 3, none⟩ = some (.slice ad f.code.length cd) ∧ W.cell? ⟨g0 + 1, 0, none⟩ = some (.int .i64 op) ∧ W.cell? ⟨g0 + 1, 1, none⟩ = some (.int .i64 xa) ∧ W.cell? ⟨g0 + 1, 2, none⟩ = some (.int .i64 xb)) ∧ Below w1.heap.size w1 W) (refine ⟨?_, ?_⟩ <;> first | (refine HC.out _ ?_; repeat (first | exact Below.refl _ _ | assumption | refine Below.drew ?_ | refine bel_drewN ?_ _)) | (repeat (first | exact Below.refl _ _ | assumption | refine Below.drew ?_ | refine bel_drewN ?_ _)))
        (first | (go_at_call 48; with_reducible refine (DA.out _ ?_).mono ?_; clear DA; (repeat (first | exact Below.refl _ _ | assumption | refine Below.drew ?_ | refine bel_drewN ?_ _)); rintro e w' ⟨rfl, hb'⟩) | (go_at_call 48; with_reducible refine (DB.out _ ?_).mono ?_; clear DB; (repeat (first | exact Below.refl _ _ | assumption | refine Below.drew ?_ | refine bel_drewN ?_ _)); rintro e w' ⟨rfl, hb'⟩))
    have HB2 : Hid (Below w.heap.size w w') := HB1.out.trans (Below.mono (by assumption) HB1.out.size)
    have hW2 : Below w1.heap.size w1 w' := by assumption
    obtain ⟨y0, y1, y2, y3, y4, y5, y6, y7, y8⟩ := HC.out w' hW2
    clear p0 p1 f0 f1 f2 f3 x0 x1 x2 hW2 HC
    cases kb with
    | false =>
      go_wp2_with fail
      all_goals
        go_returns
        exact ⟨ret_b (by rw [HI.out]; rfl), HB2.out⟩
    | true =>
      by_cases h10 : (op : Int) = 10
      · have hk := HKA.out (by first | rfl | trivial) (H10.out h10)
        obtain ⟨k, hkx⟩ : ∃ k : Nat, xa = (k : Int) := ⟨xa.toNat, by omega⟩
        subst hkx
        have hkl : k < p.protos.length := by omega
        obtain ⟨b, off, uc2, ud2, rfl, z0, z1, z2, z3, hc2, hd2⟩ := (HRP.out.below HB2.out) k hkl
        have HE : Hid (res = (p.protos.getD k pr0).caps.all (capOK f)) := by show _ = _; rw [HI.out, if_pos h10]; rfl
        clear HI
        generalize p.protos.getD k pr0 = q at z0 z1 hc2 hd2 HE
        have HRC : Hid (RdCV w' uc2 q.caps) := hc2
        obtain ⟨a2, c2, rfl, l2, _⟩ := hc2
        obtain ⟨a3, c3, rfl, l3, _⟩ := hd2
        rw [h10] at y6 ⊢
        have hk1 : (k : Int) < (p.protos.length : Int) := by omega
        clear HKA H10 HRP hk h10 DA DB
        obtain ⟨qp, qs, qc, qi⟩ := q
        simp only at z0 z1 l2 l3 HE HRC ⊢
        have HRC2 : Hid (RdC w' a2 qc) := by
          obtain ⟨_, _, e, _, h⟩ := HRC.out
          simp only [Value.slice.injEq] at e
          obtain ⟨rfl, _, _⟩ := e
          exact h
        obtain ⟨n, hn⟩ : ∃ n, n = qc.length := ⟨_, rfl⟩
        have HN : Hid (qc.length = n) := hn.symm
        rw [← hn] at z2 l2
        obtain ⟨nc, hnc⟩ : ∃ n, n = f.caps.length := ⟨_, rfl⟩
        have HCAP : Hid (∀ c : Cp, capOK f c = if c.up then decide (c.index < (nc : Int)) else decide (c.index < f.slots)) := by intro c; rw [hnc]; rfl
        rw [← hnc] at y4
        clear HRC hn
        go_wp2_with fail
        have B0 : Hid (Below w.heap.size w (w'.alloc (.cells #[.int .i64 qp, .int .i64 qs, .slice a2 n c2, .slice a3 qi.length c3] 46))) := HB2.out.alloc HB2.out.size _
        have t0 := cellNew (w := w') (cs := #[.int .i64 qp, .int .i64 qs, .slice a2 n c2, .slice a3 qi.length c3]) (t := 46) (j := 2) (v := .slice a2 n c2) rfl
        have t1 := cellOld (o := .cells #[.int .i64 qp, .int .i64 qs, .slice a2 n c2, .slice a3 qi.length c3] 46) y3
        have t2 := cellOld (o := .cells #[.int .i64 qp, .int .i64 qs, .slice a2 n c2, .slice a3 qi.length c3] 46) y4
        have HR3 : Hid (RdC (w'.alloc (.cells #[.int .i64 qp, .int .i64 qs, .slice a2 n c2, .slice a3 qi.length c3] 46)) a2 qc) := HRC2.out.below ((Below.refl _ _).alloc (Nat.le_refl _) _)
        go_loopw [11] (fun i wr => ∃ j : Nat, j ≤ n ∧ i = .int .i64 j ∧ Hid (∀ i, i < j → capOK f (qc.getD i cp0) = true) ∧ Below (w'.alloc (.cells #[.int .i64 qp, .int .i64 qs, .slice a2 n c2, .slice a3 qi.length c3] 46)).heap.size (w'.alloc (.cells #[.int .i64 qp, .int .i64 qs, .slice a2 n c2, .slice a3 qi.length c3] 46)) wr) (fun i _ => n - (intOf i).toNat)
        case atStart => exact ⟨0, Nat.zero_le _, rfl, fun i hi => absurd hi (by omega), Below.refl _ _⟩
        case round =>
          obtain ⟨j, hj, rfl, HOK, hbl⟩ := hrel
          have r0 := cellB t0 hbl
          have r1 := cellB t1 hbl
          have r2 := cellB t2 hbl
          have HBW : Hid (Below w.heap.size w wr) := B0.out.trans (hbl.mono B0.out.size)
          have hsz := HBW.out.size
          generalize w'.alloc (.cells #[.int .i64 qp, .int .i64 qs, .slice a2 n c2, .slice a3 qi.length c3] 46) = W1 at *
          clear t0 t1 t2 y0 y1 y2 y3 y4 y5 y6 y7 y8 z0 z1 z2 z3
          by_cases hlt : j < n
          · obtain ⟨b5, off5, rfl, u0, u1⟩ := (HR3.out.below hbl) j (by rw [HN.out]; exact hlt)
            have HCJ := HCAP.out (qc.getD j cp0)
            have HD : Hid (capOK f (qc.getD j cp0) = if (qc.getD j cp0).up then decide ((qc.getD j cp0).index < (nc : Int)) else decide ((qc.getD j cp0).index < f.slots)) := HCJ
            clear HCJ
            have HX : Hid (capOK f (qc.getD j cp0) = false → qc.all (capOK f) = false) := by
              intro h
              rw [List.all_eq_false]
              refine ⟨qc.getD j cp0, ?_, by rw [h]; simp⟩
              have hj2 : j < qc.length := by rw [HN.out]; exact hlt
              rw [List.getD_eq_getElem?_getD, List.getElem?_eq_getElem hj2]
              exact List.getElem_mem hj2
            have HY : Hid (capOK f (qc.getD j cp0) = true → ∀ i, i < j + 1 → capOK f (qc.getD i cp0) = true) := by
              intro h i hi
              by_cases e : i = j
              · rw [e]; exact h
              · exact HOK.out i (by omega)
            have hlt' : (j : Int) < (n : Int) := by omega
            generalize qc.getD j cp0 = cj at u0 u1 HD HX HY
            obtain ⟨cu, ci⟩ := cj
            simp only at u0 u1 HD
            cases cu with
            | true =>
              rw [if_pos rfl] at HD
              have r1' := cellOld (o := .cells #[.bool true, .int .i64 ci] 48) r1
              have r2' := cellOld (o := .cells #[.bool true, .int .i64 ci] 48) r2
              by_cases hlt2 : ci < (nc : Int)
              · have hge : decide ((nc : Int) ≤ ci) = false := by simp; omega
                have hOK := HY.out (by rw [HD.out, decide_eq_true hlt2])
                have HOK2 : Hid _ := hOK
                clear HX HY HD hOK HOK
                go_wp2_with fail
                go_roundw
                case rel => exact ⟨j + 1, by omega, by go_num, HOK2.out, hbl.alloc hbl.size _⟩
                case measure => simp [intOf]; omega
              · have hge : decide ((nc : Int) ≤ ci) = true := by simp; omega
                have hbad := HX.out (by rw [HD.out, decide_eq_false hlt2])
                have HBAD : Hid _ := hbad
                clear HX HY HD hbad HOK
                go_wp2_with fail
                go_returns
                exact ⟨ret_b (HE.out.trans HBAD.out).symm, HBW.out.alloc hsz _⟩
            | false =>
              rw [if_neg (by simp)] at HD
              have r1' := cellOld (o := .cells #[.bool false, .int .i64 ci] 48) r1
              have r2' := cellOld (o := .cells #[.bool false, .int .i64 ci] 48) r2
              by_cases hlt2 : ci < f.slots
              · have hge : decide (f.slots ≤ ci) = false := by simp; omega
                have hOK := HY.out (by rw [HD.out, decide_eq_true hlt2])
                have HOK2 : Hid _ := hOK
                clear HX HY HD hOK HOK
                go_wp2_with fail
                go_roundw
                case rel => exact ⟨j + 1, by omega, by go_num, HOK2.out, hbl.alloc hbl.size _⟩
                case measure => simp [intOf]; omega
              · have hge : decide (f.slots ≤ ci) = true := by simp; omega
                have hbad := HX.out (by rw [HD.out, decide_eq_false hlt2])
                have HBAD : Hid _ := hbad
                clear HX HY HD hbad HOK
                go_wp2_with fail
                go_returns
                exact ⟨ret_b (HE.out.trans HBAD.out).symm, HBW.out.alloc hsz _⟩
          · have hjn : j = n := by omega
            subst hjn
            have HF : Hid (qc.all (capOK f) = true) := by
              show _ = _
              rw [List.all_eq_true]
              intro x hx
              obtain ⟨i, hi, rfl⟩ := List.getElem_of_mem hx
              have := HOK.out i (by rw [← HN.out]; exact hi)
              rwa [List.getD_eq_getElem?_getD, List.getElem?_eq_getElem hi] at this
            go_wp2_with fail
            go_returns
            exact ⟨ret_b (HE.out.trans HF.out).symm, HBW.out⟩
      · have o10 : ((op : Int) != 10) = true := by simp; omega
        have HE : Hid (res = true) := by show _ = _; rw [HI.out, if_neg h10]; rfl
        go_wp2_with fail
        all_goals
          go_returns
          exact ⟨ret_b HE.out.symm, HB2.out⟩
end Go.Proofs.YteagakplhfiodaaDoor.chk
