import Derived.Test.YtpkgibdbkmddiaaDoorThSpecA
import Derived.Deep.RegionHeld3
namespace Go.Proofs.YtpkgibdbkmddiaaDoor.th
open Go.RowKit Go.Proofs.YtpkgibdbkmddiaaDoor.bts Go.Proofs.YtpkgibdbkmddiaaDoor.pg Go.Proofs.YtpkgibdbkmddiaaDoor.chk Go.Proofs.YtpkgibdbkmddiaaDoor.sv

theorem cell_far {w : World} {b o b' o' : Nat} {v : Value} (h : b ≠ b') : (w.setCell ⟨b, o, none⟩ v).cell? ⟨b', o', none⟩ = w.cell? ⟨b', o', none⟩ := World.cell?_setCell_other _ _ _ _ (by intro e; cases e; exact h rfl)

set_option maxRecDepth 100000 in
set_option maxHeartbeats 4000000 in
theorem l5copy_any (p : Pg) (uk up : Value) (w : World) (hk : RdKV w uk p.consts) (hp : RdPV w up p.protos) (hs : sizePg p ≤ 1048576) :
    Calls Tryd.prog 32 #[.agg #[uk, up]] w (Prog w p) := by
  have HK : Hid (∀ W, Below w.heap.size w W → RdKV W uk p.consts) := fun W h => hk.below h
  have HP : Hid (∀ W, Below w.heap.size w W → RdPV W up p.protos) := fun W h => hp.below h
  have hnk : p.consts.length ≤ 1048576 := by unfold sizePg sizeK at hs; omega
  have hnp : p.protos.length ≤ 1048576 := by unfold sizePg sizeP at hs; omega
  have HSZ : Hid (∀ i, i < p.protos.length → (p.protos.getD i pr0).caps.length ≤ 1048576 ∧ (p.protos.getD i pr0).code.length ≤ 1048576) := fun i hi => by
    have hz := sumsF_at (f := sizePr) pr0 hi
    unfold sizePg sizeP at hs
    have e : sizePr (p.protos.getD i pr0) = (p.protos.getD i pr0).caps.length + (p.protos.getD i pr0).code.length := rfl
    exact ⟨by omega, by omega⟩
  have HTZ : Hid (∀ i, i < p.consts.length → (p.consts.getD i cn0).text.length ≤ 1048576) := fun i hi => by
    have hz := sumsF_at (f := sizeCn) cn0 hi
    unfold sizePg sizeK at hs
    have e : sizeCn (p.consts.getD i cn0) = (p.consts.getD i cn0).text.length := rfl
    omega
  obtain ⟨ak, ck, rfl, _, _⟩ := hk
  obtain ⟨ap, cp, rfl, _, _⟩ := hp
  clear hs
  obtain ⟨W1, hW1⟩ : ∃ W1, W1 = ((w.alloc (.cells #[.slice ak p.consts.length ck, .slice ap p.protos.length cp] 32)).alloc (.cells #[.slice none 0 0, .slice none 0 0] 32)).alloc (.cells #[.slice none 0 0, .slice none 0 0] 32) := ⟨_, rfl⟩
  have HBW : Hid (Below w.heap.size w W1) := by rw [hW1]; show Below _ _ _; go_grown
  have LR : Hid (Lone 32 2 W1 (w.heap.size + 1) [.slice none 0 0, .slice none 0 0]) := by
    rw [hW1]
    refine Lone.of ?_ rfl
    rw [heap_alloc_old _ _ (by simp only [World.size_alloc]; omega)]
    have := heap_alloc_new (w.alloc (.cells #[.slice ak p.consts.length ck, .slice ap p.protos.length cp] 32)) (.cells #[.slice none 0 0, .slice none 0 0] 32)
    simpa only [World.size_alloc] using this
  have LO : Hid (Lone 32 2 W1 (w.heap.size + 2) [.slice none 0 0, .slice none 0 0]) := by
    rw [hW1]
    refine Lone.of ?_ rfl
    have := heap_alloc_new ((w.alloc (.cells #[.slice ak p.consts.length ck, .slice ap p.protos.length cp] 32)).alloc (.cells #[.slice none 0 0, .slice none 0 0] 32)) (.cells #[.slice none 0 0, .slice none 0 0] 32)
    simpa only [World.size_alloc] using this
  have hsW : W1.heap.size = w.heap.size + 3 := by rw [hW1]; simp
  have HWX : Hid (W1 = ((w.alloc (.cells #[.slice ak p.consts.length ck, .slice ap p.protos.length cp] 32)).alloc (.cells #[.slice none 0 0, .slice none 0 0] 32)).alloc (.cells #[.slice none 0 0, .slice none 0 0] 32)) := hW1
  have HZ0 : Hid (W1.cell? ⟨w.heap.size, 0, none⟩ = some (.slice ak p.consts.length ck)) := by rw [hW1]; exact cellOld (cellOld (cellNew rfl))
  have HZ1 : Hid (W1.cell? ⟨w.heap.size, 1, none⟩ = some (.slice ap p.protos.length cp)) := by rw [hW1]; exact cellOld (cellOld (cellNew rfl))
  clear hW1
  obtain ⟨ik, hik, hkz0, hkz1, hkz2⟩ := info_parts info_const
  obtain ⟨ip, hip, hpz0, hpz1, hpz2⟩ := info_parts info_proto
  obtain ⟨ic0, hic, hcz0, hcz1, hcz2⟩ := info_parts info_cap
  obtain ⟨ii, hii, hiz0, hiz1, hiz2⟩ := info_parts info_ins
  go_enter Tryd.func32, Tryd.ntmps32
  go_wp2_with fail
  rw [← HWX.out]
  go_loopw [4] (fun x wr => ∃ (k : Nat) (av : Option Addr) (cv : Nat) (ut : Nat → Value), k ≤ p.consts.length ∧ x = .int .i64 (k : Int) ∧ Hid (Lone 32 2 wr (w.heap.size + 1 + 1) [.slice av k cv, .slice none 0 0]) ∧ Hid (BK wr (w.heap.size + 3) (.slice av k cv) k (fun j => p.consts.getD j cn0) ut) ∧ Hid (Below (w.heap.size + 2) W1 wr)) (fun x _ => p.consts.length - (intOf x).toNat)
  case atStart => exact ⟨0, none, 0, fun _ => .slice none 0 0, by omega, rfl, LO.out, bk_nil _ _ _ _, Below.refl _ _⟩
  case round =>
    clear LO
    obtain ⟨k, av, cv, ut, hk, rfl, HLO, HBK, HB⟩ := hrel
    have HBw : Hid (Below w.heap.size w wr) := HBW.out.trans (HB.out.mono (by omega))
    have hsr : w.heap.size + 3 ≤ wr.heap.size := by have := HB.out.size; omega
    have z0 := cellL HZ0.out HB.out (by omega)
    have z1 := cellL HZ1.out HB.out (by omega)
    by_cases hlt : k < p.consts.length
    · obtain ⟨_, _, eK, _, rK⟩ := HK.out w (Below.refl _ _)
      simp only [Value.slice.injEq] at eK
      obtain ⟨rfl, -, rfl⟩ := eK
      obtain ⟨b, off, ux, rfl, c0', c1', c2', ht⟩ := rK k hlt
      have c0 := cellB c0' HBw.out
      have c1 := cellB c1' HBw.out
      have c2 := cellB c2' HBw.out
      clear rK c0' c1' c2'
      have htl : (p.consts.getD k cn0).text.length ≤ 1048576 := HTZ.out k hlt
      generalize hdd : p.consts.getD k cn0 = d at c0 c1 ht htl
      have HD : Hid (p.consts.getD k cn0 = d) := hdd
      obtain ⟨kb, nn, tx⟩ := d
      simp only at c0 c1 ht htl
      have CB : Hid (∀ W, Below w.heap.size w W → Calls Tryd.prog 56 #[ux] W fun e w' => ∃ av cv, e = .returned (.slice av tx.length cv) ∧ w'.ownsRow W.heap.size 5 1 (.slice av tx.length cv) tx.length (bcells tx) ∧ Below W.heap.size W w') := fun W hW => l1copy_any ux tx W (ht.below hW) htl
      obtain ⟨aX, cX, rfl, _, _⟩ := ht
      have hlt' : (k : Int) < (p.consts.length : Int) := by omega
      clear hdd
      obtain ⟨Wa, hWa⟩ : ∃ Wa, Wa = wr.alloc (.cells #[.bool kb, .int .i64 nn, .slice aX tx.length cX] 51) := ⟨_, rfl⟩
      have HWa : Hid (Below w.heap.size w Wa) := by rw [hWa]; exact HBw.out.alloc HBw.out.size _
      have HLa : Hid (Lone 32 2 Wa (w.heap.size + 1 + 1) [.slice av k cv, .slice none 0 0]) := by rw [hWa]; exact HLO.out.below ((Below.refl wr.heap.size wr).alloc (Nat.le_refl _) _) (by omega)
      have HBa : Hid (Below (w.heap.size + 2) W1 Wa) := by rw [hWa]; exact HB.out.alloc (by omega) _
      have HBKa : Hid (BK Wa (w.heap.size + 3) (.slice av k cv) k (fun j => p.consts.getD j cn0) ut) := by rw [hWa]; exact HBK.out.hold (fun b _ h2 => heap_alloc_old _ _ h2)
      have hsa : Wa.heap.size = wr.heap.size + 1 := by rw [hWa]; simp
      have a0 : Wa.cell? ⟨wr.heap.size, 0, none⟩ = some (.bool kb) := by rw [hWa]; exact cellNew rfl
      have a1 : Wa.cell? ⟨wr.heap.size, 1, none⟩ = some (.int .i64 nn) := by rw [hWa]; exact cellNew rfl
      have a2 : Wa.cell? ⟨wr.heap.size, 2, none⟩ = some (.slice aX tx.length cX) := by rw [hWa]; exact cellNew rfl
      have o0 := HLa.out.at (j := 0) (by omega)
      simp only [List.getElem?_cons_zero] at o0
      have HWXa : Hid (Wa = wr.alloc (.cells #[.bool kb, .int .i64 nn, .slice aX tx.length cX] 51)) := hWa
      have HBKr : Hid (BK wr (w.heap.size + 3) (.slice av k cv) k (fun j => p.consts.getD j cn0) ut) := HBK.out
      have HWd : Hid (Below w.heap.size w Wa.drew) := HWa.out.drew
      have o0d : Wa.drew.cell? ⟨w.heap.size + 1 + 1, 0, none⟩ = some (.slice av k cv) := o0
      have HNB : Hid (some wr.heap.size ≠ (Value.slice av k cv).ownBlock) := fun e => by have := (HBK.out.lt _ e.symm).2; omega
      clear hWa HLO HBK HB HBw
      go_wp2_with fail
      rw [← HWXa.out]
      clear c0 c1 c2 z0 z1
      refine wp_region_noPanic ?_
      refine wp_region_held_drew (S := (fun W => W.cell? ⟨wr.heap.size, 0, none⟩ = some (.bool kb) ∧ W.cell? ⟨wr.heap.size, 1, none⟩ = some (.int .i64 nn) ∧ W.cell? ⟨wr.heap.size, 2, none⟩ = some (.slice aX tx.length cX))) (by kernel_rfl) ?_ (fun hHeld => ?_)
      (exact ⟨a0, a1, a2⟩)
      refine wpAnyH_take (i := 0) (v := ?_) rfl (by kernel_rfl) (by kernel_rfl) (by kernel_rfl) (fun _ _ _ h => h) (Or.inl ⟨by rfl, ?_⟩) (by assumption) ?_
      rotate_left
      (intro W hSw; obtain ⟨q0, q1, q2⟩ := hSw; go_simp; try with_reducible rfl)
      try simp only [Act.put, List.setIfInBounds_toArray]
      refine wpAnyH_take (i := 2) (v := ?_) rfl (by kernel_rfl) (by kernel_rfl) (by kernel_rfl) (fun _ _ _ h => h) (Or.inl ⟨by rfl, ?_⟩) (by assumption) ?_
      rotate_left
      (intro W hSw; obtain ⟨q0, q1, q2⟩ := hSw; go_simp; try with_reducible rfl)
      try simp only [Act.put]
      refine wpAnyH_take (i := 3) (v := ?_) rfl (by kernel_rfl) (by kernel_rfl) (by kernel_rfl) (fun _ _ _ h => h) (Or.inl ⟨by rfl, ?_⟩) (by assumption) ?_
      rotate_left
      (intro W hSw; obtain ⟨q0, q1, q2⟩ := hSw; go_simp; try with_reducible rfl)
      try simp only [Act.put]
      refine wpAnyH_take (i := 4) (v := ?_) rfl (by kernel_rfl) (by kernel_rfl) (by kernel_rfl) (fun _ _ _ h => h) (Or.inl ⟨by rfl, ?_⟩) (by assumption) ?_
      rotate_left
      (intro W hSw; obtain ⟨q0, q1, q2⟩ := hSw; go_simp; try with_reducible rfl)
      try simp only [Act.put]
      refine wpAnyH_take (i := 5) (v := ?_) rfl (by kernel_rfl) (by kernel_rfl) (by kernel_rfl) (fun _ _ _ h => h) (Or.inl ⟨by rfl, ?_⟩) (by assumption) ?_
      rotate_left
      (intro W hSw; obtain ⟨q0, q1, q2⟩ := hSw; go_simp; try with_reducible rfl)
      try simp only [Act.put]
      refine wpAnyH_take (i := 6) (v := ?_) rfl (by kernel_rfl) (by kernel_rfl) (by kernel_rfl) (fun _ _ _ h => h) (Or.inl ⟨by rfl, ?_⟩) (by assumption) ?_
      rotate_left
      (intro W hSw; obtain ⟨q0, q1, q2⟩ := hSw; go_simp; try with_reducible rfl)
      try simp only [Act.put]
      refine wpAnyH_take (i := 7) (v := ?_) rfl (by kernel_rfl) (by kernel_rfl) (by kernel_rfl) (fun _ _ _ h => h) (Or.inl ⟨by rfl, ?_⟩) (by assumption) ?_
      rotate_left
      (intro W hSw; obtain ⟨q0, q1, q2⟩ := hSw; go_simp; try with_reducible rfl)
      try simp only [Act.put]
      refine wpAnyH_ready (rs := [1, 8]) (by kernel_rfl) (by simp) ?_
      refine (AllReadyH.cons rfl (fun K hK => ?_) (AllReadyH.cons rfl (fun K hK => ?_) AllReadyH.nil))
      · go_simp
        refine hK.out _ _ hHeld (fun hHeld2 => ?_)
        clear hK K hHeld
        have hHeld := hHeld2
        clear hHeld2
        try simp only [Act.put, List.setIfInBounds_toArray, List.set_cons_zero, List.set_cons_succ]
        refine wpAnyH_ready (rs := [8]) (by kernel_rfl) (by simp) ?_
        refine (AllReadyH.cons rfl (fun K hK => ?_) AllReadyH.nil)
        go_simp
        with_reducible refine (CB.out _ HWd.out).mono ?_
        rintro e w2 ⟨aT, cT, rfl, oT, b2⟩
        have HB2 : Hid (Below Wa.heap.size Wa w2) := (Below.trans (Below.drew (Below.refl _ _)) b2 : Below Wa.heap.size Wa w2)
        have HOT : Hid (w2.ownsRow (wr.heap.size + 1) 5 1 (.slice aT tx.length cT) tx.length (bcells tx)) := (hsa ▸ (oT : w2.ownsRow Wa.heap.size 5 1 (.slice aT tx.length cT) tx.length (bcells tx)))
        have e0 := cellB a0 HB2.out
        have e1 := cellB a1 HB2.out
        have e2 := cellB a2 HB2.out
        have p0 := cellB o0 HB2.out
        have p1 := cellOld (o := (.cells #[.bool kb, .int .i64 nn, .slice aT tx.length cT] 51)) p0
        have hs2 := HB2.out.size
        have HP2 : Hid (Lone 32 2 w2 (w.heap.size + 1 + 1) [.slice av k cv, .slice none 0 0]) := HLa.out.below HB2.out (by omega)
        have HBK3 : Hid (BK (w2.alloc (.cells #[.bool kb, .int .i64 nn, .slice aT tx.length cT] 51)) (w.heap.size + 3) (.slice av k cv) k (fun j => p.consts.getD j cn0) ut) := HBKa.out.hold (fun b _ h2 => (heap_alloc_old _ _ (by omega)).trans (HB2.out.block b h2))
        obtain ⟨us, ho, hux⟩ := HBK3.out.row
        have HUS : Hid ((w2.alloc (.cells #[.bool kb, .int .i64 nn, .slice aT tx.length cT] 51)).ownsRow (w.heap.size + 3) 51 3 (.slice av k cv) k us) := ho
        have HUX : Hid _ := hux
        have NW : Hid (0 < 1 → ∃ ad, some ⟨w2.heap.size, 0, none⟩ = some ad ∧ ∀ j u, [Value.bool kb, .int .i64 nn, .slice aT tx.length cT][j]? = some u → (w2.alloc (.cells #[.bool kb, .int .i64 nn, .slice aT tx.length cT] 51)).cell? (Addr.add ad j) = some u) := (fun _ => ⟨_, rfl, World.news_of_block (cs := #[.bool kb, .int .i64 nn, .slice aT tx.length cT]) (t := 51) (fr := (0, 0)) (heap_alloc_new w2 (.cells #[.bool kb, .int .i64 nn, .slice aT tx.length cT] 51))⟩)
        clear oT b2 ho hux
        dsimp only
        refine hK.out _ _ ⟨e0, e1, e2⟩ (fun hHeld2 => ?_)
        clear hK K hHeld
        have hHeld := hHeld2
        clear hHeld2
        try simp only [Act.put, List.setIfInBounds_toArray, List.set_cons_zero, List.set_cons_succ]
        refine wpAnyH_take (i := 9) (v := ?_) rfl (by kernel_rfl) (by kernel_rfl) (by kernel_rfl) (fun _ _ _ h => h) (Or.inl ⟨by rfl, ?_⟩) (by assumption) ?_
        rotate_left
        (intro W hSw; obtain ⟨q0, q1, q2⟩ := hSw; go_simp; try with_reducible rfl)
        try simp only [Act.put, List.setIfInBounds_toArray]
        refine wpAnyH_ready (rs := [10]) (by kernel_rfl) (by simp) ?_
        refine (AllReadyH.cons rfl (fun K hK => ?_) AllReadyH.nil)
        go_simp
        refine hK.out _ _ ⟨cellOld e0, cellOld e1, cellOld e2⟩ (fun hHeld2 => ?_)
        clear hK K hHeld
        have hHeld := hHeld2
        clear hHeld2
        try simp only [Act.put, List.setIfInBounds_toArray, List.set_cons_zero, List.set_cons_succ]
        refine wpAnyH_ready (rs := [11]) (by kernel_rfl) (by simp) ?_
        refine (AllReadyH.cons rfl (fun K hK => ?_) AllReadyH.nil)
        refine step_append_row (by rfl) _ _ _ (by rfl) 51 ik (.agg #[.bool false, .int .i64 0, .slice none 0 0]) 3 40 Tryd.underlying29 hik hkz0 hkz1 hkz2 rfl (by omega) (w.heap.size + 3) av k cv us (by rfl) HUS.out (some ⟨w2.heap.size, 0, none⟩) 1 1 [.bool kb, .int .i64 nn, .slice aT tx.length cT] (by rfl) (by rfl) NW.out (by simp [Value.oneCell']) (by unfold maxLen; omega) (by omega) (by simp only [World.size_alloc]; omega) ?_
        intro av' cv' w4 hA
        have HA : Hid (AppR 51 3 (w2.alloc (.cells #[.bool kb, .int .i64 nn, .slice aT tx.length cT] 51)) (w.heap.size + 3) av k cv (us ++ [.bool kb, .int .i64 nn, .slice aT tx.length cT]) av' (k + 1) cv' w4) := hA
        have HP5 : Hid (Lone 32 2 w4 (w.heap.size + 1 + 1) [.slice av k cv, .slice none 0 0]) := (Lone.of ((hA.grow.block (w.heap.size + 1 + 1) (by simp only [World.size_alloc]; omega) (fun e => by have := (HUS.out.lt _ e.symm).1; omega)).trans ((heap_alloc_old _ _ (by omega)).trans (Lone.back HP2.out))) rfl)
        have t0 := HP5.out.at (j := 0) (by omega)
        have tf := HP5.out.free 0
        simp only [List.getElem?_cons_zero] at t0
        have g0 := hA.grow.cell (cellOld (o := (.cells #[.bool kb, .int .i64 nn, .slice aT tx.length cT] 51)) e0) HNB.out
        have g1 := hA.grow.cell (cellOld (o := (.cells #[.bool kb, .int .i64 nn, .slice aT tx.length cT] 51)) e1) HNB.out
        have g2 := hA.grow.cell (cellOld (o := (.cells #[.bool kb, .int .i64 nn, .slice aT tx.length cT] 51)) e2) HNB.out
        clear hA
        refine hK.out _ _ ⟨g0, g1, g2⟩ (fun hHeld2 => ?_)
        clear hK K hHeld
        have hHeld := hHeld2
        clear hHeld2
        try simp only [Act.put, List.setIfInBounds_toArray]
        refine wpAnyH_take (i := 12) (v := ?_) rfl (by kernel_rfl) (by kernel_rfl) (by kernel_rfl) (fun _ _ _ h => h) (Or.inl ⟨by rfl, ?_⟩) (by assumption) ?_
        rotate_left
        (intro W hSw; obtain ⟨q0, q1, q2⟩ := hSw; go_simp; try with_reducible rfl)
        try simp only [Act.put]
        refine wpAnyH_ready (rs := [13]) (by kernel_rfl) (by simp) ?_
        refine (AllReadyH.cons rfl (fun K hK => ?_) AllReadyH.nil)
        go_simp
        refine hK.out _ _ ⟨(cell_far (by omega)).trans g0, (cell_far (by omega)).trans g1, (cell_far (by omega)).trans g2⟩ (fun hHeld2 => ?_)
        clear hK K hHeld
        have hHeld := hHeld2
        clear hHeld2
        try simp only [Act.put, List.setIfInBounds_toArray, List.set_cons_zero, List.set_cons_succ]
        refine wpAnyH_done (by kernel_rfl) ?_ _
        refine NoPanic.normal ?_
        have HBK5 : Hid (BK w4 (w.heap.size + 3) (.slice av' (k + 1) cv') (k + 1) (fun j => p.consts.getD j cn0) (ext ut k (.slice aT tx.length cT))) := by
          have h := BK.snoc (x := ⟨kb, nn, tx⟩) HBK3.out (RwS.weaken (RwS.hold ⟨⟨_, _, rfl⟩, HOT.out⟩ (fun b _ h2 _ => heap_alloc_old _ _ h2)) (by omega)) (fun j hj b e e' => by have h1 := ((HBKr.out.texts j hj).lt b e).2; have h2 := (HOT.out.lt b e').1; omega) (fun b e e' => by have h1 := (HBKr.out.lt b e).2; have h2 := (HOT.out.lt b e').1; omega) us HUS.out HUX.out HA.out
          have e : ext (fun j => p.consts.getD j cn0) k (⟨kb, nn, tx⟩ : Cn) = fun j => p.consts.getD j cn0 := by
            funext j
            by_cases e : j = k
            · subst e; rw [ext_at, HD.out]
            · simp only [ext]; rw [if_neg e]
          rw [e] at h
          exact h
        have HBK6 : Hid (BK (w4.setCell ⟨w.heap.size + 1 + 1, 0, none⟩ (.slice av' (k + 1) cv')) (w.heap.size + 3) (.slice av' (k + 1) cv') (k + 1) (fun j => p.consts.getD j cn0) (ext ut k (.slice aT tx.length cT))) := HBK5.out.hold (fun b h1 _ => Below.heap_setCell w4 ⟨w.heap.size + 1 + 1, 0, none⟩ _ b (by show b ≠ w.heap.size + 1 + 1; omega))
        have HLO6 : Hid (Lone 32 2 (w4.setCell ⟨w.heap.size + 1 + 1, 0, none⟩ (.slice av' (k + 1) cv')) (w.heap.size + 1 + 1) [.slice av' (k + 1) cv', .slice none 0 0]) := HP5.out.set 0 (.slice av' (k + 1) cv')
        have HB6 : Hid (Below (w.heap.size + 2) W1 (w4.setCell ⟨w.heap.size + 1 + 1, 0, none⟩ (.slice av' (k + 1) cv'))) := (((HBa.out.trans (HB2.out.mono (by omega))).alloc (by omega) _).grown HA.out.grow (by simp only [World.size_alloc]; omega) (fun k' hk' => by have := (HUS.out.lt k' hk').1; omega)).setCell (p := ⟨w.heap.size + 1 + 1, 0, none⟩) (Nat.le_refl _) _
        clear t0 tf g0 g1 g2 e0 e1 e2 p0 p1 a0 a1 a2 o0
        go_wp2_with fail
        go_roundw
        case rel => exact ⟨k + 1, av', cv', _, by omega, by go_num, HLO6.out, HBK6.out, HB6.out⟩
        case measure => simp [intOf]; omega
      · go_simp
        with_reducible refine (CB.out _ HWd.out).mono ?_
        rintro e w2 ⟨aT, cT, rfl, oT, b2⟩
        have HB2 : Hid (Below Wa.heap.size Wa w2) := (Below.trans (Below.drew (Below.refl _ _)) b2 : Below Wa.heap.size Wa w2)
        have HOT : Hid (w2.ownsRow (wr.heap.size + 1) 5 1 (.slice aT tx.length cT) tx.length (bcells tx)) := (hsa ▸ (oT : w2.ownsRow Wa.heap.size 5 1 (.slice aT tx.length cT) tx.length (bcells tx)))
        have e0 := cellB a0 HB2.out
        have e1 := cellB a1 HB2.out
        have e2 := cellB a2 HB2.out
        have p0 := cellB o0 HB2.out
        have p1 := cellOld (o := (.cells #[.bool kb, .int .i64 nn, .slice aT tx.length cT] 51)) p0
        have hs2 := HB2.out.size
        have HP2 : Hid (Lone 32 2 w2 (w.heap.size + 1 + 1) [.slice av k cv, .slice none 0 0]) := HLa.out.below HB2.out (by omega)
        have HBK3 : Hid (BK (w2.alloc (.cells #[.bool kb, .int .i64 nn, .slice aT tx.length cT] 51)) (w.heap.size + 3) (.slice av k cv) k (fun j => p.consts.getD j cn0) ut) := HBKa.out.hold (fun b _ h2 => (heap_alloc_old _ _ (by omega)).trans (HB2.out.block b h2))
        obtain ⟨us, ho, hux⟩ := HBK3.out.row
        have HUS : Hid ((w2.alloc (.cells #[.bool kb, .int .i64 nn, .slice aT tx.length cT] 51)).ownsRow (w.heap.size + 3) 51 3 (.slice av k cv) k us) := ho
        have HUX : Hid _ := hux
        have NW : Hid (0 < 1 → ∃ ad, some ⟨w2.heap.size, 0, none⟩ = some ad ∧ ∀ j u, [Value.bool kb, .int .i64 nn, .slice aT tx.length cT][j]? = some u → (w2.alloc (.cells #[.bool kb, .int .i64 nn, .slice aT tx.length cT] 51)).cell? (Addr.add ad j) = some u) := (fun _ => ⟨_, rfl, World.news_of_block (cs := #[.bool kb, .int .i64 nn, .slice aT tx.length cT]) (t := 51) (fr := (0, 0)) (heap_alloc_new w2 (.cells #[.bool kb, .int .i64 nn, .slice aT tx.length cT] 51))⟩)
        clear oT b2 ho hux
        dsimp only
        refine hK.out _ _ ⟨e0, e1, e2⟩ (fun hHeld2 => ?_)
        clear hK K hHeld
        have hHeld := hHeld2
        clear hHeld2
        try simp only [Act.put, List.setIfInBounds_toArray, List.set_cons_zero, List.set_cons_succ]
        refine wpAnyH_take (i := 9) (v := ?_) rfl (by kernel_rfl) (by kernel_rfl) (by kernel_rfl) (fun _ _ _ h => h) (Or.inl ⟨by rfl, ?_⟩) (by assumption) ?_
        rotate_left
        (intro W hSw; obtain ⟨q0, q1, q2⟩ := hSw; go_simp; try with_reducible rfl)
        try simp only [Act.put, List.setIfInBounds_toArray]
        refine wpAnyH_ready (rs := [1, 10]) (by kernel_rfl) (by simp) ?_
        refine (AllReadyH.cons rfl (fun K hK => ?_) (AllReadyH.cons rfl (fun K hK => ?_) AllReadyH.nil))
        · go_simp
          refine hK.out _ _ hHeld (fun hHeld2 => ?_)
          clear hK K hHeld
          have hHeld := hHeld2
          clear hHeld2
          try simp only [Act.put, List.setIfInBounds_toArray, List.set_cons_zero, List.set_cons_succ]
          refine wpAnyH_ready (rs := [10]) (by kernel_rfl) (by simp) ?_
          refine (AllReadyH.cons rfl (fun K hK => ?_) AllReadyH.nil)
          go_simp
          refine hK.out _ _ ⟨cellOld e0, cellOld e1, cellOld e2⟩ (fun hHeld2 => ?_)
          clear hK K hHeld
          have hHeld := hHeld2
          clear hHeld2
          try simp only [Act.put, List.setIfInBounds_toArray, List.set_cons_zero, List.set_cons_succ]
          refine wpAnyH_ready (rs := [11]) (by kernel_rfl) (by simp) ?_
          refine (AllReadyH.cons rfl (fun K hK => ?_) AllReadyH.nil)
          refine step_append_row (by rfl) _ _ _ (by rfl) 51 ik (.agg #[.bool false, .int .i64 0, .slice none 0 0]) 3 40 Tryd.underlying29 hik hkz0 hkz1 hkz2 rfl (by omega) (w.heap.size + 3) av k cv us (by rfl) HUS.out (some ⟨w2.heap.size, 0, none⟩) 1 1 [.bool kb, .int .i64 nn, .slice aT tx.length cT] (by rfl) (by rfl) NW.out (by simp [Value.oneCell']) (by unfold maxLen; omega) (by omega) (by simp only [World.size_alloc]; omega) ?_
          intro av' cv' w4 hA
          have HA : Hid (AppR 51 3 (w2.alloc (.cells #[.bool kb, .int .i64 nn, .slice aT tx.length cT] 51)) (w.heap.size + 3) av k cv (us ++ [.bool kb, .int .i64 nn, .slice aT tx.length cT]) av' (k + 1) cv' w4) := hA
          have HP5 : Hid (Lone 32 2 w4 (w.heap.size + 1 + 1) [.slice av k cv, .slice none 0 0]) := (Lone.of ((hA.grow.block (w.heap.size + 1 + 1) (by simp only [World.size_alloc]; omega) (fun e => by have := (HUS.out.lt _ e.symm).1; omega)).trans ((heap_alloc_old _ _ (by omega)).trans (Lone.back HP2.out))) rfl)
          have t0 := HP5.out.at (j := 0) (by omega)
          have tf := HP5.out.free 0
          simp only [List.getElem?_cons_zero] at t0
          have g0 := hA.grow.cell (cellOld (o := (.cells #[.bool kb, .int .i64 nn, .slice aT tx.length cT] 51)) e0) HNB.out
          have g1 := hA.grow.cell (cellOld (o := (.cells #[.bool kb, .int .i64 nn, .slice aT tx.length cT] 51)) e1) HNB.out
          have g2 := hA.grow.cell (cellOld (o := (.cells #[.bool kb, .int .i64 nn, .slice aT tx.length cT] 51)) e2) HNB.out
          clear hA
          refine hK.out _ _ ⟨g0, g1, g2⟩ (fun hHeld2 => ?_)
          clear hK K hHeld
          have hHeld := hHeld2
          clear hHeld2
          try simp only [Act.put, List.setIfInBounds_toArray]
          refine wpAnyH_take (i := 12) (v := ?_) rfl (by kernel_rfl) (by kernel_rfl) (by kernel_rfl) (fun _ _ _ h => h) (Or.inl ⟨by rfl, ?_⟩) (by assumption) ?_
          rotate_left
          (intro W hSw; obtain ⟨q0, q1, q2⟩ := hSw; go_simp; try with_reducible rfl)
          try simp only [Act.put]
          refine wpAnyH_ready (rs := [13]) (by kernel_rfl) (by simp) ?_
          refine (AllReadyH.cons rfl (fun K hK => ?_) AllReadyH.nil)
          go_simp
          refine hK.out _ _ ⟨(cell_far (by omega)).trans g0, (cell_far (by omega)).trans g1, (cell_far (by omega)).trans g2⟩ (fun hHeld2 => ?_)
          clear hK K hHeld
          have hHeld := hHeld2
          clear hHeld2
          try simp only [Act.put, List.setIfInBounds_toArray, List.set_cons_zero, List.set_cons_succ]
          refine wpAnyH_done (by kernel_rfl) ?_ _
          refine NoPanic.normal ?_
          have HBK5 : Hid (BK w4 (w.heap.size + 3) (.slice av' (k + 1) cv') (k + 1) (fun j => p.consts.getD j cn0) (ext ut k (.slice aT tx.length cT))) := by
            have h := BK.snoc (x := ⟨kb, nn, tx⟩) HBK3.out (RwS.weaken (RwS.hold ⟨⟨_, _, rfl⟩, HOT.out⟩ (fun b _ h2 _ => heap_alloc_old _ _ h2)) (by omega)) (fun j hj b e e' => by have h1 := ((HBKr.out.texts j hj).lt b e).2; have h2 := (HOT.out.lt b e').1; omega) (fun b e e' => by have h1 := (HBKr.out.lt b e).2; have h2 := (HOT.out.lt b e').1; omega) us HUS.out HUX.out HA.out
            have e : ext (fun j => p.consts.getD j cn0) k (⟨kb, nn, tx⟩ : Cn) = fun j => p.consts.getD j cn0 := by
              funext j
              by_cases e : j = k
              · subst e; rw [ext_at, HD.out]
              · simp only [ext]; rw [if_neg e]
            rw [e] at h
            exact h
          have HBK6 : Hid (BK (w4.setCell ⟨w.heap.size + 1 + 1, 0, none⟩ (.slice av' (k + 1) cv')) (w.heap.size + 3) (.slice av' (k + 1) cv') (k + 1) (fun j => p.consts.getD j cn0) (ext ut k (.slice aT tx.length cT))) := HBK5.out.hold (fun b h1 _ => Below.heap_setCell w4 ⟨w.heap.size + 1 + 1, 0, none⟩ _ b (by show b ≠ w.heap.size + 1 + 1; omega))
          have HLO6 : Hid (Lone 32 2 (w4.setCell ⟨w.heap.size + 1 + 1, 0, none⟩ (.slice av' (k + 1) cv')) (w.heap.size + 1 + 1) [.slice av' (k + 1) cv', .slice none 0 0]) := HP5.out.set 0 (.slice av' (k + 1) cv')
          have HB6 : Hid (Below (w.heap.size + 2) W1 (w4.setCell ⟨w.heap.size + 1 + 1, 0, none⟩ (.slice av' (k + 1) cv'))) := (((HBa.out.trans (HB2.out.mono (by omega))).alloc (by omega) _).grown HA.out.grow (by simp only [World.size_alloc]; omega) (fun k' hk' => by have := (HUS.out.lt k' hk').1; omega)).setCell (p := ⟨w.heap.size + 1 + 1, 0, none⟩) (Nat.le_refl _) _
          clear t0 tf g0 g1 g2 e0 e1 e2 p0 p1 a0 a1 a2 o0
          go_wp2_with fail
          go_roundw
          case rel => exact ⟨k + 1, av', cv', _, by omega, by go_num, HLO6.out, HBK6.out, HB6.out⟩
          case measure => simp [intOf]; omega
        · go_simp
          refine hK.out _ _ ⟨cellOld e0, cellOld e1, cellOld e2⟩ (fun hHeld2 => ?_)
          clear hK K hHeld
          have hHeld := hHeld2
          clear hHeld2
          try simp only [Act.put, List.setIfInBounds_toArray, List.set_cons_zero, List.set_cons_succ]
          refine wpAnyH_ready (rs := [1]) (by kernel_rfl) (by simp) ?_
          refine (AllReadyH.cons rfl (fun K hK => ?_) AllReadyH.nil)
          go_simp
          refine hK.out _ _ hHeld (fun hHeld2 => ?_)
          clear hK K hHeld
          have hHeld := hHeld2
          clear hHeld2
          try simp only [Act.put, List.setIfInBounds_toArray, List.set_cons_zero, List.set_cons_succ]
          refine wpAnyH_ready (rs := [11]) (by kernel_rfl) (by simp) ?_
          refine (AllReadyH.cons rfl (fun K hK => ?_) AllReadyH.nil)
          refine step_append_row (by rfl) _ _ _ (by rfl) 51 ik (.agg #[.bool false, .int .i64 0, .slice none 0 0]) 3 40 Tryd.underlying29 hik hkz0 hkz1 hkz2 rfl (by omega) (w.heap.size + 3) av k cv us (by rfl) HUS.out (some ⟨w2.heap.size, 0, none⟩) 1 1 [.bool kb, .int .i64 nn, .slice aT tx.length cT] (by rfl) (by rfl) NW.out (by simp [Value.oneCell']) (by unfold maxLen; omega) (by omega) (by simp only [World.size_alloc]; omega) ?_
          intro av' cv' w4 hA
          have HA : Hid (AppR 51 3 (w2.alloc (.cells #[.bool kb, .int .i64 nn, .slice aT tx.length cT] 51)) (w.heap.size + 3) av k cv (us ++ [.bool kb, .int .i64 nn, .slice aT tx.length cT]) av' (k + 1) cv' w4) := hA
          have HP5 : Hid (Lone 32 2 w4 (w.heap.size + 1 + 1) [.slice av k cv, .slice none 0 0]) := (Lone.of ((hA.grow.block (w.heap.size + 1 + 1) (by simp only [World.size_alloc]; omega) (fun e => by have := (HUS.out.lt _ e.symm).1; omega)).trans ((heap_alloc_old _ _ (by omega)).trans (Lone.back HP2.out))) rfl)
          have t0 := HP5.out.at (j := 0) (by omega)
          have tf := HP5.out.free 0
          simp only [List.getElem?_cons_zero] at t0
          have g0 := hA.grow.cell (cellOld (o := (.cells #[.bool kb, .int .i64 nn, .slice aT tx.length cT] 51)) e0) HNB.out
          have g1 := hA.grow.cell (cellOld (o := (.cells #[.bool kb, .int .i64 nn, .slice aT tx.length cT] 51)) e1) HNB.out
          have g2 := hA.grow.cell (cellOld (o := (.cells #[.bool kb, .int .i64 nn, .slice aT tx.length cT] 51)) e2) HNB.out
          clear hA
          refine hK.out _ _ ⟨g0, g1, g2⟩ (fun hHeld2 => ?_)
          clear hK K hHeld
          have hHeld := hHeld2
          clear hHeld2
          try simp only [Act.put, List.setIfInBounds_toArray]
          refine wpAnyH_take (i := 12) (v := ?_) rfl (by kernel_rfl) (by kernel_rfl) (by kernel_rfl) (fun _ _ _ h => h) (Or.inl ⟨by rfl, ?_⟩) (by assumption) ?_
          rotate_left
          (intro W hSw; obtain ⟨q0, q1, q2⟩ := hSw; go_simp; try with_reducible rfl)
          try simp only [Act.put]
          refine wpAnyH_ready (rs := [13]) (by kernel_rfl) (by simp) ?_
          refine (AllReadyH.cons rfl (fun K hK => ?_) AllReadyH.nil)
          go_simp
          refine hK.out _ _ ⟨(cell_far (by omega)).trans g0, (cell_far (by omega)).trans g1, (cell_far (by omega)).trans g2⟩ (fun hHeld2 => ?_)
          clear hK K hHeld
          have hHeld := hHeld2
          clear hHeld2
          try simp only [Act.put, List.setIfInBounds_toArray, List.set_cons_zero, List.set_cons_succ]
          refine wpAnyH_done (by kernel_rfl) ?_ _
          refine NoPanic.normal ?_
          have HBK5 : Hid (BK w4 (w.heap.size + 3) (.slice av' (k + 1) cv') (k + 1) (fun j => p.consts.getD j cn0) (ext ut k (.slice aT tx.length cT))) := by
            have h := BK.snoc (x := ⟨kb, nn, tx⟩) HBK3.out (RwS.weaken (RwS.hold ⟨⟨_, _, rfl⟩, HOT.out⟩ (fun b _ h2 _ => heap_alloc_old _ _ h2)) (by omega)) (fun j hj b e e' => by have h1 := ((HBKr.out.texts j hj).lt b e).2; have h2 := (HOT.out.lt b e').1; omega) (fun b e e' => by have h1 := (HBKr.out.lt b e).2; have h2 := (HOT.out.lt b e').1; omega) us HUS.out HUX.out HA.out
            have e : ext (fun j => p.consts.getD j cn0) k (⟨kb, nn, tx⟩ : Cn) = fun j => p.consts.getD j cn0 := by
              funext j
              by_cases e : j = k
              · subst e; rw [ext_at, HD.out]
              · simp only [ext]; rw [if_neg e]
            rw [e] at h
            exact h
          have HBK6 : Hid (BK (w4.setCell ⟨w.heap.size + 1 + 1, 0, none⟩ (.slice av' (k + 1) cv')) (w.heap.size + 3) (.slice av' (k + 1) cv') (k + 1) (fun j => p.consts.getD j cn0) (ext ut k (.slice aT tx.length cT))) := HBK5.out.hold (fun b h1 _ => Below.heap_setCell w4 ⟨w.heap.size + 1 + 1, 0, none⟩ _ b (by show b ≠ w.heap.size + 1 + 1; omega))
          have HLO6 : Hid (Lone 32 2 (w4.setCell ⟨w.heap.size + 1 + 1, 0, none⟩ (.slice av' (k + 1) cv')) (w.heap.size + 1 + 1) [.slice av' (k + 1) cv', .slice none 0 0]) := HP5.out.set 0 (.slice av' (k + 1) cv')
          have HB6 : Hid (Below (w.heap.size + 2) W1 (w4.setCell ⟨w.heap.size + 1 + 1, 0, none⟩ (.slice av' (k + 1) cv'))) := (((HBa.out.trans (HB2.out.mono (by omega))).alloc (by omega) _).grown HA.out.grow (by simp only [World.size_alloc]; omega) (fun k' hk' => by have := (HUS.out.lt k' hk').1; omega)).setCell (p := ⟨w.heap.size + 1 + 1, 0, none⟩) (Nat.le_refl _) _
          clear t0 tf g0 g1 g2 e0 e1 e2 p0 p1 a0 a1 a2 o0
          go_wp2_with fail
          go_roundw
          case rel => exact ⟨k + 1, av', cv', _, by omega, by go_num, HLO6.out, HBK6.out, HB6.out⟩
          case measure => simp [intOf]; omega
    · have hkn : k = p.consts.length := by omega
      rw [hkn] at HLO HBK
      have HUN : Hid (UnderK wr.heap.size (.slice av p.consts.length cv) p.consts.length ut) := ⟨fun b e => (HBK.out.lt b e).2, fun j hj b e => ((HBK.out.texts j hj).lt b e).2⟩
      clear hkn hk
      go_wp2_with fail
      go_loopw [6] (fun x wz => ∃ (k : Nat) (av2 : Option Addr) (cv2 : Nat) (uc ud : Nat → Value), k ≤ p.protos.length ∧ x = .int .i64 (k : Int) ∧ Hid (Lone 32 2 wz (w.heap.size + 1 + 1) [.slice av p.consts.length cv, .slice av2 k cv2]) ∧ Hid (BK wz (w.heap.size + 3) (.slice av p.consts.length cv) p.consts.length (fun j => p.consts.getD j cn0) ut) ∧ Hid (BP wz wr.heap.size (.slice av2 k cv2) k (fun j => p.protos.getD j pr0) uc ud) ∧ Hid (wr.heap.size ≤ wz.heap.size) ∧ Hid (Below (w.heap.size + 2) W1 wz)) (fun x _ => p.protos.length - (intOf x).toNat)
      case atStart => exact ⟨0, none, 0, fun _ => .slice none 0 0, fun _ => .slice none 0 0, by omega, rfl, HLO.out, HBK.out, bp_nil _ _ _ _ _, Nat.le_refl _, HB.out⟩
      case round =>
        rename World => wz
        clear HLO HBK HB HBw z0 z1
        obtain ⟨k, av2, cv2, uc, ud, hk, rfl, HLO, HBK, HBP, HM, HB⟩ := hrel
        have HBw : Hid (Below w.heap.size w wz) := HBW.out.trans (HB.out.mono (by omega))
        have hM := HM.out
        have z1 := cellL HZ1.out HB.out (by omega)
        by_cases hlt : k < p.protos.length
        · obtain ⟨_, _, eP, _, rP⟩ := HP.out w (Below.refl _ _)
          simp only [Value.slice.injEq] at eP
          obtain ⟨rfl, -, rfl⟩ := eP
          obtain ⟨b, off, xc, xd, rfl, c0', c1', c2', c3', hc, hd⟩ := rP k hlt
          have c0 := cellB c0' HBw.out
          have c1 := cellB c1' HBw.out
          have c2 := cellB c2' HBw.out
          have c3 := cellB c3' HBw.out
          clear rP c0' c1' c2' c3'
          obtain ⟨hcl, hdl⟩ := HSZ.out k hlt
          generalize hdd : p.protos.getD k pr0 = d at c0 c1 hc hd hcl hdl
          have HD : Hid (p.protos.getD k pr0 = d) := hdd
          obtain ⟨fp, fs, fa, fo⟩ := d
          simp only at c0 c1 hc hd hcl hdl
          have HC : Hid (∀ W, Below w.heap.size w W → RdCV W xc fa) := fun W h => hc.below h
          have HDc : Hid (∀ W, Below w.heap.size w W → RdIV W xd fo) := fun W h => hd.below h
          obtain ⟨aC, cC, rfl, _, _⟩ := hc
          obtain ⟨aD, cD, rfl, _, _⟩ := hd
          have hlt' : (k : Int) < (p.protos.length : Int) := by omega
          clear hdd
          have HLf : Hid (Lone 56 4 ((wz.alloc (.cells #[.int .i64 fp, .int .i64 fs, .slice aC fa.length cC, .slice aD fo.length cD] 56)).alloc (.cells #[.int .i64 fp, .int .i64 fs, .slice none 0 0, .slice none 0 0] 56)) wz.heap.size [.int .i64 fp, .int .i64 fs, .slice aC fa.length cC, .slice aD fo.length cD]) := Lone.of ((heap_alloc_old _ _ (by simp)).trans (heap_alloc_new _ _)) rfl
          have HLg : Hid (Lone 56 4 ((wz.alloc (.cells #[.int .i64 fp, .int .i64 fs, .slice aC fa.length cC, .slice aD fo.length cD] 56)).alloc (.cells #[.int .i64 fp, .int .i64 fs, .slice none 0 0, .slice none 0 0] 56)) (wz.heap.size + 1) [.int .i64 fp, .int .i64 fs, .slice none 0 0, .slice none 0 0]) := by
            have := heap_alloc_new (wz.alloc (.cells #[.int .i64 fp, .int .i64 fs, .slice aC fa.length cC, .slice aD fo.length cD] 56)) (.cells #[.int .i64 fp, .int .i64 fs, .slice none 0 0, .slice none 0 0] 56)
            simp only [World.size_alloc] at this
            exact Lone.of this rfl
          have HT0 : Hid (Below wz.heap.size wz ((wz.alloc (.cells #[.int .i64 fp, .int .i64 fs, .slice aC fa.length cC, .slice aD fo.length cD] 56)).alloc (.cells #[.int .i64 fp, .int .i64 fs, .slice none 0 0, .slice none 0 0] 56))) := ((Below.refl _ _).alloc (Nat.le_refl _) _).alloc (by simp) _
          have HTw : Hid (Below w.heap.size w ((wz.alloc (.cells #[.int .i64 fp, .int .i64 fs, .slice aC fa.length cC, .slice aD fo.length cD] 56)).alloc (.cells #[.int .i64 fp, .int .i64 fs, .slice none 0 0, .slice none 0 0] 56))) := HBw.out.trans (HT0.out.mono HBw.out.size)
          have HRC : Hid (0 < fa.length → ∃ ad, aC = some ad ∧ ∀ j u, (cpRow fa)[j]? = some u → ((wz.alloc (.cells #[.int .i64 fp, .int .i64 fs, .slice aC fa.length cC, .slice aD fo.length cD] 56)).alloc (.cells #[.int .i64 fp, .int .i64 fs, .slice none 0 0, .slice none 0 0] 56)).cell? (Addr.add ad j) = some u) := by
            obtain ⟨_, _, e, _, h⟩ := HC.out _ HTw.out
            simp only [Value.slice.injEq] at e
            obtain ⟨rfl, -, rfl⟩ := e
            exact rdC_news h
          have HRD : Hid (∀ W, Below w.heap.size w W → 0 < fo.length → ∃ ad, aD = some ad ∧ ∀ j u, (inRow fo)[j]? = some u → W.cell? (Addr.add ad j) = some u) := fun W hW => by
            obtain ⟨_, _, e, _, h⟩ := HDc.out W hW
            simp only [Value.slice.injEq] at e
            obtain ⟨rfl, -, rfl⟩ := e
            exact rdI_news h
          have HSW : Hid (w.heap.size ≤ wz.heap.size) := HBw.out.size
          go_wp2_with (first | (at_builtin; refine wpList_append_row rfl _ _ _ rfl 70 ic0 (.agg #[.bool false, .int .i64 0]) 2 16 Tryd.underlying53 hic hcz0 hcz1 hcz2 rfl (by omega) (wz.heap.size + 2) none 0 0 [] rfl (World.ownsRow_nil _ _ _ _) aC fa.length cC (cpRow fa) rfl (cpRow_len fa) HRC.out cpRow_one (by unfold maxLen; omega) (by omega) (by simp) ?_; intro aT cT w2 hA; have b2 : Below ((wz.alloc (.cells #[.int .i64 fp, .int .i64 fs, .slice aC fa.length cC, .slice aD fo.length cD] 56)).alloc (.cells #[.int .i64 fp, .int .i64 fs, .slice none 0 0, .slice none 0 0] 56)).heap.size ((wz.alloc (.cells #[.int .i64 fp, .int .i64 fs, .slice aC fa.length cC, .slice aD fo.length cD] 56)).alloc (.cells #[.int .i64 fp, .int .i64 fs, .slice none 0 0, .slice none 0 0] 56)) w2 := (Below.refl _ _).grown hA.grow (Nat.le_refl _) (fun k hk => by cases hk); simp only [World.size_alloc] at b2; have HL2 : Hid (Lone 56 4 w2 (wz.heap.size + 1) [.int .i64 fp, .int .i64 fs, .slice none 0 0, .slice none 0 0]) := HLg.out.below b2 (by omega); have HF2 : Hid (Lone 56 4 w2 wz.heap.size [.int .i64 fp, .int .i64 fs, .slice aC fa.length cC, .slice aD fo.length cD]) := HLf.out.below b2 (by omega); have hs2 : wz.heap.size + 2 ≤ w2.heap.size := (by have := b2.size; simp only [World.size_alloc] at this; omega); have HH2 : Hid (∀ b, b < wz.heap.size → w2.heap[b]? = wz.heap[b]?) := (fun b hb => (b2.block b (by omega)).trans (HT0.out.block b hb)); have HOT : Hid (RwC w2 (wz.heap.size + 2) (.slice aT fa.length cT) fa) := ⟨⟨_, _, rfl⟩, _, (by have := hA.own; rw [Nat.zero_add] at this; exact this), fun j hj => cpRow_at hj⟩; have HBw2 : Hid (Below w.heap.size w (w2.setCell ⟨wz.heap.size + 1, 2, none⟩ (.slice aT fa.length cT))) := (HTw.out.trans (b2.mono (by have := HSW.out; omega))).setCell (p := ⟨wz.heap.size + 1, 2, none⟩) (by show w.heap.size ≤ wz.heap.size + 1; have := HSW.out; omega) _; have f2 := HL2.out.free 2; have g2 := HL2.out.at (j := 2) (by omega); simp only [List.getElem?_cons_succ, List.getElem?_cons_zero] at g2; have HL3 : Hid (Lone 56 4 (w2.setCell ⟨wz.heap.size + 1, 2, none⟩ (.slice aT fa.length cT)) (wz.heap.size + 1) [.int .i64 fp, .int .i64 fs, .slice aT fa.length cT, .slice none 0 0]) := HL2.out.set 2 (.slice aT fa.length cT); have HF3 : Hid (Lone 56 4 (w2.setCell ⟨wz.heap.size + 1, 2, none⟩ (.slice aT fa.length cT)) wz.heap.size [.int .i64 fp, .int .i64 fs, .slice aC fa.length cC, .slice aD fo.length cD]) := HF2.out.other (by omega); have q3 := HL3.out.at (j := 3) (by omega); have k3 := HF3.out.at (j := 3) (by omega); simp only [List.getElem?_cons_succ, List.getElem?_cons_zero] at q3 k3; have HH3 : Hid (∀ b, b ≠ wz.heap.size + 1 → (w2.setCell ⟨wz.heap.size + 1, 2, none⟩ (.slice aT fa.length cT)).heap[b]? = w2.heap[b]?) := (fun b hne => Below.heap_setCell w2 ⟨wz.heap.size + 1, 2, none⟩ _ b hne); have HB20 : Hid (Below 0 ((wz.alloc (.cells #[.int .i64 fp, .int .i64 fs, .slice aC fa.length cC, .slice aD fo.length cD] 56)).alloc (.cells #[.int .i64 fp, .int .i64 fs, .slice none 0 0, .slice none 0 0] 56)) w2) := b2.mono (Nat.zero_le _); clear hA b2) | (at_builtin; refine wpList_append_row rfl _ _ _ rfl 65 ii (.agg #[.int .i64 0, .int .i64 0, .int .i64 0]) 3 24 Tryd.underlying54 hii hiz0 hiz1 hiz2 rfl (by omega) w2.heap.size none 0 0 [] rfl (World.ownsRow_nil _ _ _ _) aD fo.length cD (inRow fo) rfl (inRow_len fo) (HRD.out _ HBw2.out) inRow_one (by unfold maxLen; omega) (by omega) (by simp) ?_; intro aU cU w3 hA; have b3 : Below (w2.setCell ⟨wz.heap.size + 1, 2, none⟩ (.slice aT fa.length cT)).heap.size (w2.setCell ⟨wz.heap.size + 1, 2, none⟩ (.slice aT fa.length cT)) w3 := (Below.refl _ _).grown hA.grow (Nat.le_refl _) (fun k hk => by cases hk); simp only [World.size_setCell] at b3; have HL4 : Hid (Lone 56 4 w3 (wz.heap.size + 1) [.int .i64 fp, .int .i64 fs, .slice aT fa.length cT, .slice none 0 0]) := HL3.out.below b3 (by omega); have hs3 : w2.heap.size ≤ w3.heap.size := (by have := b3.size; simp only [World.size_setCell] at this; exact this); have HH4 : Hid (∀ b, b < w2.heap.size → b ≠ wz.heap.size + 1 → w3.heap[b]? = w2.heap[b]?) := (fun b hb hne => (b3.block b hb).trans (HH3.out b hne)); have HOU : Hid (RwI w3 w2.heap.size (.slice aU fo.length cU) fo) := ⟨⟨_, _, rfl⟩, _, (by have := hA.own; rw [Nat.zero_add] at this; exact this), fun j hj => inRow_at hj⟩; have f3 := HL4.out.free 3; have g3 := HL4.out.at (j := 3) (by omega); simp only [List.getElem?_cons_succ, List.getElem?_cons_zero] at g3; have HL5 : Hid (Lone 56 4 (w3.setCell ⟨wz.heap.size + 1, 3, none⟩ (.slice aU fo.length cU)) (wz.heap.size + 1) [.int .i64 fp, .int .i64 fs, .slice aT fa.length cT, .slice aU fo.length cU]) := HL4.out.set 3 (.slice aU fo.length cU); have HH5 : Hid (∀ b, b < w3.heap.size → b ≠ wz.heap.size + 1 → ((w3.setCell ⟨wz.heap.size + 1, 3, none⟩ (.slice aU fo.length cU)).alloc (.cells #[.int .i64 fp, .int .i64 fs, .slice aT fa.length cT, .slice aU fo.length cU] 56)).heap[b]? = w3.heap[b]?) := (fun b hb hne => (heap_alloc_old _ _ (by simp only [World.size_setCell]; exact hb)).trans (Below.heap_setCell w3 ⟨wz.heap.size + 1, 3, none⟩ _ b hne)); have HH6 : Hid (∀ b, b < wz.heap.size → ((w3.setCell ⟨wz.heap.size + 1, 3, none⟩ (.slice aU fo.length cU)).alloc (.cells #[.int .i64 fp, .int .i64 fs, .slice aT fa.length cT, .slice aU fo.length cU] 56)).heap[b]? = wz.heap[b]?) := (fun b hb => (HH5.out b (by omega) (by omega)).trans ((HH4.out b (by omega) (by omega)).trans (HH2.out b hb))); have HP5 : Hid (Lone 32 2 (w3.setCell ⟨wz.heap.size + 1, 3, none⟩ (.slice aU fo.length cU)) (w.heap.size + 1 + 1) [.slice av p.consts.length cv, .slice av2 k cv2]) := (Lone.of ((Below.heap_setCell w3 ⟨wz.heap.size + 1, 3, none⟩ _ (w.heap.size + 1 + 1) (by show w.heap.size + 1 + 1 ≠ wz.heap.size + 1; omega)).trans ((HH4.out (w.heap.size + 1 + 1) (by omega) (by omega)).trans ((HH2.out (w.heap.size + 1 + 1) (by omega)).trans (Lone.back HLO.out)))) rfl); have q0 := HL5.out.at (j := 0) (by omega); have q1 := HL5.out.at (j := 1) (by omega); have q2 := HL5.out.at (j := 2) (by omega); have q4 := HL5.out.at (j := 3) (by omega); have r1 := HP5.out.at (j := 1) (by omega); simp only [List.getElem?_cons_succ, List.getElem?_cons_zero] at q0 q1 q2 q4 r1; have HBK4 : Hid (BK ((w3.setCell ⟨wz.heap.size + 1, 3, none⟩ (.slice aU fo.length cU)).alloc (.cells #[.int .i64 fp, .int .i64 fs, .slice aT fa.length cT, .slice aU fo.length cU] 56)) (w.heap.size + 3) (.slice av p.consts.length cv) p.consts.length (fun j => p.consts.getD j cn0) ut) := HBK.out.hold (fun b _ h2 => HH6.out b h2); have HBP4 : Hid (BP ((w3.setCell ⟨wz.heap.size + 1, 3, none⟩ (.slice aU fo.length cU)).alloc (.cells #[.int .i64 fp, .int .i64 fs, .slice aT fa.length cT, .slice aU fo.length cU] 56)) wr.heap.size (.slice av2 k cv2) k (fun j => p.protos.getD j pr0) uc ud) := HBP.out.hold (fun b _ h2 => HH6.out b h2); have HC4 : Hid (RwC ((w3.setCell ⟨wz.heap.size + 1, 3, none⟩ (.slice aU fo.length cU)).alloc (.cells #[.int .i64 fp, .int .i64 fs, .slice aT fa.length cT, .slice aU fo.length cU] 56)) (wz.heap.size + 2) (.slice aT fa.length cT) fa) := HOT.out.hold (fun b h1 h2 _ => (HH5.out b (by omega) (by omega)).trans (HH4.out b h2 (by omega))); have HI4 : Hid (RwI ((w3.setCell ⟨wz.heap.size + 1, 3, none⟩ (.slice aU fo.length cU)).alloc (.cells #[.int .i64 fp, .int .i64 fs, .slice aT fa.length cT, .slice aU fo.length cU] 56)) w2.heap.size (.slice aU fo.length cU) fo) := HOU.out.hold (fun b h1 h2 _ => HH5.out b h2 (by omega)); have HCL : Hid (∀ b, (Value.slice aT fa.length cT).ownBlock = some b → b < w2.heap.size) := (fun b e => (HOT.out.lt b e).2); have NW : Hid (0 < 1 → ∃ ad, some ⟨w3.heap.size, 0, none⟩ = some ad ∧ ∀ j u, [Value.int .i64 fp, .int .i64 fs, .slice aT fa.length cT, .slice aU fo.length cU][j]? = some u → ((w3.setCell ⟨wz.heap.size + 1, 3, none⟩ (.slice aU fo.length cU)).alloc (.cells #[.int .i64 fp, .int .i64 fs, .slice aT fa.length cT, .slice aU fo.length cU] 56)).cell? (Addr.add ad j) = some u) := (fun _ => ⟨_, rfl, by have := World.news_of_block (cs := #[.int .i64 fp, .int .i64 fs, .slice aT fa.length cT, .slice aU fo.length cU]) (t := 56) (fr := (0, 0)) (heap_alloc_new (w3.setCell ⟨wz.heap.size + 1, 3, none⟩ (.slice aU fo.length cU)) (.cells #[.int .i64 fp, .int .i64 fs, .slice aT fa.length cT, .slice aU fo.length cU] 56)); simpa using this⟩); obtain ⟨us, ho, hux⟩ := HBP4.out.row; have HUS : Hid (((w3.setCell ⟨wz.heap.size + 1, 3, none⟩ (.slice aU fo.length cU)).alloc (.cells #[.int .i64 fp, .int .i64 fs, .slice aT fa.length cT, .slice aU fo.length cU] 56)).ownsRow wr.heap.size 56 4 (.slice av2 k cv2) k us) := ho; have HUX : Hid _ := hux; have HGL : Hid (Below 0 wz ((w3.setCell ⟨wz.heap.size + 1, 3, none⟩ (.slice aU fo.length cU)).alloc (.cells #[.int .i64 fp, .int .i64 fs, .slice aT fa.length cT, .slice aU fo.length cU] 56))) := (((((HT0.out.mono (Nat.zero_le _)).trans HB20.out)).trans ((Below.refl 0 _).setCell (p := ⟨wz.heap.size + 1, 2, none⟩) (Nat.zero_le _) _)).trans (b3.mono (Nat.zero_le _))).trans (((Below.refl 0 _).setCell (p := ⟨wz.heap.size + 1, 3, none⟩) (Nat.zero_le _) _).alloc (Nat.zero_le _) _); clear hA b3 ho hux f2 g2 q3 k3 c0 c1 c2 c3 z1) | (at_builtin; refine wpList_append_row rfl _ _ _ rfl 56 ip (.agg #[.int .i64 0, .int .i64 0, .slice none 0 0, .slice none 0 0]) 4 64 Tryd.underlying30 hip hpz0 hpz1 hpz2 rfl (by omega) wr.heap.size av2 k cv2 us rfl HUS.out (some ⟨w3.heap.size, 0, none⟩) 1 1 [.int .i64 fp, .int .i64 fs, .slice aT fa.length cT, .slice aU fo.length cU] rfl rfl NW.out (by simp [Value.oneCell']) (by unfold maxLen; omega) (by omega) (by simp only [World.size_alloc, World.size_setCell]; omega) ?_; intro av' cv' w4 hA; have HA : Hid (AppR 56 4 ((w3.setCell ⟨wz.heap.size + 1, 3, none⟩ (.slice aU fo.length cU)).alloc (.cells #[.int .i64 fp, .int .i64 fs, .slice aT fa.length cT, .slice aU fo.length cU] 56)) wr.heap.size av2 k cv2 (us ++ [.int .i64 fp, .int .i64 fs, .slice aT fa.length cT, .slice aU fo.length cU]) av' (k + 1) cv' w4) := hA; have HP7 : Hid (Lone 32 2 w4 (w.heap.size + 1 + 1) [.slice av p.consts.length cv, .slice av2 k cv2]) := (Lone.of ((hA.grow.block (w.heap.size + 1 + 1) (by simp only [World.size_alloc, World.size_setCell]; omega) (fun e => by have := (HUS.out.lt _ e.symm).1; omega)).trans ((heap_alloc_old _ _ (by simp only [World.size_setCell]; omega)).trans (Lone.back HP5.out))) rfl); have t1 := HP7.out.at (j := 1) (by omega); have tf := HP7.out.free 1; simp only [List.getElem?_cons_zero, List.getElem?_cons_succ] at t1; clear hA))
          have HBP5 : Hid (BP w4 wr.heap.size (.slice av' (k + 1) cv') (k + 1) (fun j => p.protos.getD j pr0) (ext uc k (.slice aT fa.length cT)) (ext ud k (.slice aU fo.length cU))) := by
            have h := BP.snoc (x := ⟨fp, fs, fa, fo⟩) HBP4.out (HC4.out.weaken (by omega)) (HI4.out.weaken (by omega))
              (fun j hj b e e' => by have h1 := ((HBP.out.caps j hj).lt b e).2; have h2 := (HC4.out.lt b e').1; omega)
              (fun j hj b e e' => by have h1 := ((HBP.out.code j hj).lt b e).2; have h2 := (HI4.out.lt b e').1; omega)
              (fun j hj b e e' => by have h1 := ((HBP.out.caps j hj).lt b e).2; have h2 := (HI4.out.lt b e').1; omega)
              (fun j hj b e e' => by have h1 := ((HBP.out.code j hj).lt b e').2; have h2 := (HC4.out.lt b e).1; omega)
              (fun b e e' => by have h1 := HCL.out b e; have h2 := (HI4.out.lt b e').1; omega)
              (fun b e e' => by have h1 := (HBP.out.lt b e).2; have h2 := (HC4.out.lt b e').1; omega)
              (fun b e e' => by have h1 := (HBP.out.lt b e).2; have h2 := (HI4.out.lt b e').1; omega) us HUS.out HUX.out HA.out
            have e : ext (fun j => p.protos.getD j pr0) k (⟨fp, fs, fa, fo⟩ : Pr) = fun j => p.protos.getD j pr0 := by
              funext j
              by_cases e : j = k
              · subst e; rw [ext_at, HD.out]
              · simp only [ext]; rw [if_neg e]
            rw [e] at h
            exact h
          have HBP6 : Hid (BP (w4.setCell ⟨w.heap.size + 1 + 1, 1, none⟩ (.slice av' (k + 1) cv')) wr.heap.size (.slice av' (k + 1) cv') (k + 1) (fun j => p.protos.getD j pr0) (ext uc k (.slice aT fa.length cT)) (ext ud k (.slice aU fo.length cU))) := HBP5.out.hold (fun b h1 _ => Below.heap_setCell w4 ⟨w.heap.size + 1 + 1, 1, none⟩ _ b (by show b ≠ w.heap.size + 1 + 1; omega))
          have HBK6 : Hid (BK (w4.setCell ⟨w.heap.size + 1 + 1, 1, none⟩ (.slice av' (k + 1) cv')) (w.heap.size + 3) (.slice av p.consts.length cv) p.consts.length (fun j => p.consts.getD j cn0) ut) := by
            have hK : ∀ b, w.heap.size + 3 ≤ b → b < wr.heap.size → (w4.setCell ⟨w.heap.size + 1 + 1, 1, none⟩ (.slice av' (k + 1) cv')).heap[b]? = ((w3.setCell ⟨wz.heap.size + 1, 3, none⟩ (.slice aU fo.length cU)).alloc (.cells #[.int .i64 fp, .int .i64 fs, .slice aT fa.length cT, .slice aU fo.length cU] 56)).heap[b]? := fun b h1 h2 => by
              rw [Below.heap_setCell w4 ⟨w.heap.size + 1 + 1, 1, none⟩ _ b (by show b ≠ w.heap.size + 1 + 1; omega)]
              exact HA.out.grow.block b (by simp only [World.size_alloc, World.size_setCell]; omega) (fun e => by have := (HUS.out.lt b e.symm).1; omega)
            obtain ⟨us', ho', hx'⟩ := HBK4.out.row
            exact ⟨⟨us', own_hold ho' (fun b h1 _ e => hK b h1 (HUN.out.1 b e)), hx'⟩, fun j hj => (HBK4.out.texts j hj).hold (fun b h1 _ e => hK b h1 (HUN.out.2 j hj b e)), HBK4.out.apart, HBK4.out.spine⟩
          have HLO6 : Hid (Lone 32 2 (w4.setCell ⟨w.heap.size + 1 + 1, 1, none⟩ (.slice av' (k + 1) cv')) (w.heap.size + 1 + 1) [.slice av p.consts.length cv, .slice av' (k + 1) cv']) := HP7.out.set 1 (.slice av' (k + 1) cv')
          have HB6 : Hid (Below (w.heap.size + 2) W1 (w4.setCell ⟨w.heap.size + 1 + 1, 1, none⟩ (.slice av' (k + 1) cv'))) := by
            have h1 : Below (w.heap.size + 2) wz w4 := ⟨HA.out.grow.os.trans HGL.out.os, HA.out.grow.tape.trans HGL.out.tape, HA.out.grow.output.trans HGL.out.output, Nat.le_trans HGL.out.size HA.out.grow.size, fun b hb => (HA.out.grow.block b (by simp only [World.size_alloc, World.size_setCell]; omega) (fun e => by have := (HUS.out.lt b e.symm).1; omega)).trans (HH6.out b (by omega))⟩
            exact (HB.out.trans h1).setCell (p := ⟨w.heap.size + 1 + 1, 1, none⟩) (Nat.le_refl _) _
          have HM6 : Hid (wr.heap.size ≤ (w4.setCell ⟨w.heap.size + 1 + 1, 1, none⟩ (.slice av' (k + 1) cv')).heap.size) := by have := HA.out.grow.size; simp only [World.size_alloc, World.size_setCell] at this; show _ ≤ _; simp only [World.size_setCell]; omega
          clear q0 q1 q2 q4 r1 f3 g3 t1 tf
          go_roundw
          case rel => exact ⟨k + 1, av', cv', _, _, by omega, by go_num, HLO6.out, HBK6.out, HBP6.out, HM6.out, HB6.out⟩
          case measure => simp [intOf]; omega
        · have hkn : k = p.protos.length := by omega
          rw [hkn] at HLO HBP
          have o0 := HLO.out.at (j := 0) (by omega)
          have o1 := HLO.out.at (j := 1) (by omega)
          simp only [List.getElem?_cons_zero, List.getElem?_cons_succ] at o0 o1
          have LRz : Hid (Lone 32 2 wz (w.heap.size + 1) [.slice none 0 0, .slice none 0 0]) := LR.out.below HB.out (by omega)
          have f0 := LRz.out.free 0
          have f1 := LRz.out.free 1
          have c0 := LRz.out.at (j := 0) (by omega)
          have c1 := LRz.out.at (j := 1) (by omega)
          simp only [List.getElem?_cons_zero, List.getElem?_cons_succ] at c0 c1
          clear hkn hk
          go_wp2_with fail
          have MG := (LRz.out.set 0 (.slice av p.consts.length cv)).set 1 (.slice av2 p.protos.length cv2)
          refine bodyPost_ret (results_cell_row Tryd.results32 _ _ (w.heap.size + 1) 32 _ _ _ rfl (Lone.back MG) Tryd.underlying32 rfl rfl) rfl ?_
          have P2 : w.heap.size ≤ w.heap.size + 1 := by omega
          have hH : ∀ b, w.heap.size + 3 ≤ b → ((wz.setCell ⟨w.heap.size + 1, 0, none⟩ (.slice av p.consts.length cv)).setCell ⟨w.heap.size + 1, 1, none⟩ (.slice av2 p.protos.length cv2)).heap[b]? = wz.heap[b]? := fun b hb => by
            rw [Below.heap_setCell _ ⟨w.heap.size + 1, 1, none⟩ _ b (by show b ≠ w.heap.size + 1; omega), Below.heap_setCell _ ⟨w.heap.size + 1, 0, none⟩ _ b (by show b ≠ w.heap.size + 1; omega)]
          have hKK := (HBK.out.hold (w' := (wz.setCell ⟨w.heap.size + 1, 0, none⟩ (.slice av p.consts.length cv)).setCell ⟨w.heap.size + 1, 1, none⟩ (.slice av2 p.protos.length cv2)) (fun b h1 _ => hH b h1))
          have hPP := (HBP.out.hold (w' := (wz.setCell ⟨w.heap.size + 1, 0, none⟩ (.slice av p.consts.length cv)).setCell ⟨w.heap.size + 1, 1, none⟩ (.slice av2 p.protos.length cv2)) (fun b h1 _ => hH b (by omega)))
          refine ⟨av, av2, cv, cv2, wr.heap.size, ut, uc, ud, rfl, ?_, HUN.out, by omega, hPP, by simp only [World.size_setCell]; exact HM.out, (HBw.out.setCell (p := ⟨w.heap.size + 1, 0, none⟩) P2 _).setCell (p := ⟨w.heap.size + 1, 1, none⟩) P2 _⟩
          obtain ⟨us', ho', hx'⟩ := hKK.row
          exact ⟨⟨us', own_weaken ho' (by omega), hx'⟩, fun j hj => (hKK.texts j hj).weaken (by omega), hKK.apart, hKK.spine⟩
end Go.Proofs.YtpkgibdbkmddiaaDoor.th
