import Derived.Test.YteagakplhfiodaaDoorChkHeights
namespace Go.Proofs.YteagakplhfiodaaDoor.chk
open Go.RowKit Go.Proofs.YteagakplhfiodaaDoor.bts Go.Proofs.YteagakplhfiodaaDoor.pg

theorem codes_succ {l : List Pr} {k : Nat} (h : k < l.length) : codes l (k + 1) = codes l k + (l.getD k pr0).code.length := by
  unfold codes
  rw [List.take_succ_eq_append_getElem h, List.map_append, List.sum_append]
  simp [List.getD_eq_getElem?_getD, List.getElem?_eq_getElem h]
theorem codes_le (l : List Pr) : ∀ k, k ≤ l.length → codes l k ≤ sizeP l
  | 0, _ => by unfold codes; simp
  | k + 1, h => by
    have h1 : ∀ j, j ≤ l.length → codes l j ≤ sumsF sizePr l j := by
      intro j
      induction j with
      | zero => intro _; simp [codes]
      | succ j ih =>
        intro hj
        rw [codes_succ (by omega), sumsF_succ pr0 (by omega)]
        have := ih (by omega)
        have e : sizePr (l.getD j pr0) = (l.getD j pr0).caps.length + (l.getD j pr0).code.length := rfl
        omega
    have h2 := h1 (k + 1) h
    have h3 := sumsF_le (f := sizePr) pr0 l (l.length - (k + 1)) (k + 1) (by omega)
    unfold sizeP
    omega

set_option maxRecDepth 100000 in
set_option maxHeartbeats 4000000 in
theorem specCheck_any (p : Pg) (uk up : Value) (w : World) (hk : RdKV w uk p.consts) (hp : RdPV w up p.protos) (hs : sizePg p ≤ 1048576) (bS : Bool) (HBS : Hid (bS = true ↔ Sound p)) :
    Calls Tryd.prog 14 #[.agg #[uk, up]] w fun e w' => e = .returned (.bool bS) ∧ Below w.heap.size w w' := by
  have HKV : Hid (RdKV w uk p.consts) := hk
  have HPV : Hid (RdPV w up p.protos) := hp
  have hsK : sizeK p.consts ≤ 1048576 := by unfold sizePg at hs; omega
  have hsP : sizeP p.protos ≤ 1048576 := by unfold sizePg at hs; omega
  have hnk : p.consts.length ≤ 1048576 := by unfold sizeK at hsK; omega
  have hnp : p.protos.length ≤ 1048576 := by unfold sizeP at hsP; omega
  have HSP : Hid (sizeP p.protos ≤ 1048576) := hsP
  obtain ⟨ak, ck, rfl, _, _⟩ := hk
  obtain ⟨ap, cp, rfl, _, _⟩ := hp
  obtain ⟨nk, hnkE⟩ : ∃ n, n = p.consts.length := ⟨_, rfl⟩
  obtain ⟨np, hnpE⟩ : ∃ n, n = p.protos.length := ⟨_, rfl⟩
  have HNK : Hid (p.consts.length = nk) := hnkE.symm
  have HNP : Hid (p.protos.length = np) := hnpE.symm
  rw [← hnkE] at hnk HKV ⊢
  rw [← hnpE] at hnp HPV ⊢
  clear hs hsK hsP hnkE hnpE
  have fin : Hid (¬ Sound p → false = bS) := by
    intro h
    cases bS with
    | false => rfl
    | true => exact absurd (HBS.out.1 rfl) h
  by_cases q1 : np < 1
  · have BAD : Hid (¬ Sound p) := by show ¬ _; intro h; have := h.1.1.1; have := HNP.out; omega
    have d1 : decide ((np : Int) < 1) = true := by simp; omega
    go_enter Tryd.func14, Tryd.ntmps14
    go_wp2_with fail
    go_returns
    exact ⟨ret_b (fin.out BAD.out), by go_grown⟩
  by_cases q2 : 500 < np
  · have BAD : Hid (¬ Sound p) := by show ¬ _; intro h; have := h.1.1.2.1; have := HNP.out; omega
    have d1 : decide ((np : Int) < 1) = false := by simp; omega
    have d2 : decide ((500 : Int) < (np : Int)) = true := by simp; omega
    go_enter Tryd.func14, Tryd.ntmps14
    go_wp2_with fail
    go_returns
    exact ⟨ret_b (fin.out BAD.out), by go_grown⟩
  by_cases q3 : 20000 < nk
  · have BAD : Hid (¬ Sound p) := by show ¬ _; intro h; have := h.1.1.2.2; have := HNK.out; omega
    have d1 : decide ((np : Int) < 1) = false := by simp; omega
    have d2 : decide ((500 : Int) < (np : Int)) = false := by simp; omega
    have d3 : decide ((20000 : Int) < (nk : Int)) = true := by simp; omega
    go_enter Tryd.func14, Tryd.ntmps14
    go_wp2_with fail
    go_returns
    exact ⟨ret_b (fin.out BAD.out), by go_grown⟩
  have d1 : decide ((np : Int) < 1) = false := by simp; omega
  have d2 : decide ((500 : Int) < (np : Int)) = false := by simp; omega
  have d3 : decide ((20000 : Int) < (nk : Int)) = false := by simp; omega
  obtain ⟨W0, hW0⟩ : ∃ W0, W0 = w.alloc (.cells #[.slice ak nk ck, .slice ap np cp] 26) := ⟨_, rfl⟩
  have z0 : W0.cell? ⟨w.heap.size, 0, none⟩ = some (.slice ak nk ck) := by rw [hW0]; exact cellNew rfl
  have z1 : W0.cell? ⟨w.heap.size, 1, none⟩ = some (.slice ap np cp) := by rw [hW0]; exact cellNew rfl
  have HW0 : Hid (Below w.heap.size w W0) := by rw [hW0]; exact (Below.refl _ _).alloc (Nat.le_refl _) _
  have HK0 : Hid (RdKV W0 (.slice ak nk ck) p.consts) := HKV.out.below HW0.out
  have HP0 : Hid (RdPV W0 (.slice ap np cp) p.protos) := HPV.out.below HW0.out
  clear HKV HPV
  go_enter Tryd.func14, Tryd.ntmps14
  go_wp2_with fail
  rw [← hW0]
  clear hW0
  -- LOOPS
  go_loopw [3] (fun i wr => ∃ k : Nat, k ≤ nk ∧ i = .int .i64 k ∧ Hid (∀ j, j < k → FitsK (p.consts.getD j cn0)) ∧ Below W0.heap.size W0 wr) (fun i _ => nk - (intOf i).toNat)
  case atStart => exact ⟨0, Nat.zero_le _, rfl, fun j hj => absurd hj (by omega), Below.refl _ _⟩
  case round =>
    obtain ⟨k, hk, rfl, HOK, hbl⟩ := hrel
    have r0 := cellB z0 hbl
    have r1 := cellB z1 hbl
    have HBW : Hid (Below w.heap.size w wr) := HW0.out.trans (hbl.mono HW0.out.size)
    have hsz := HBW.out.size
    by_cases hlt : k < nk
    · obtain ⟨_, _, eK, _, rK⟩ := HK0.out.below hbl
      simp only [Value.slice.injEq] at eK
      obtain ⟨rfl, -, rfl⟩ := eK
      obtain ⟨b, off, ut, rfl, c0, c1, c2, ht⟩ := rK k (by rw [HNK.out]; exact hlt)
      clear rK
      generalize hD : p.consts.getD k cn0 = d at c0 c1 ht
      have HD : Hid (p.consts.getD k cn0 = d) := hD
      clear hD
      obtain ⟨kb, nn, tx⟩ := d
      simp only at c0 c1 ht
      obtain ⟨aX, cX, rfl, hXl, _, _⟩ := ht
      have hlt' : (k : Int) < (nk : Int) := by omega
      have v0 := cellOld (o := .cells #[.bool kb, .int .i64 nn, .slice aX tx.length cX] 40) r1
      by_cases hT : 5000 < tx.length
      · have t1 : decide ((5000 : Int) < (tx.length : Int)) = true := by simp; omega
        have BAD : Hid (¬ Sound p) := by
          show ¬ _
          intro h
          have := h.1.2.1 k (by rw [HNK.out]; exact hlt)
          rw [HD.out] at this
          exact absurd this (by unfold FitsK; simp only; omega)
        clear HOK
        go_wp2_with fail
        go_returns
        exact ⟨ret_b (fin.out BAD.out), HBW.out.alloc hsz _⟩
      · have t1 : decide ((5000 : Int) < (tx.length : Int)) = false := by simp; omega
        cases kb with
        | true =>
          by_cases hn0 : nn = 0
          · subst hn0
            have HOK2 : Hid (∀ j, j < k + 1 → FitsK (p.consts.getD j cn0)) := by
              intro j hj
              by_cases e : j = k
              · rw [e, HD.out]; unfold FitsK; simp; omega
              · exact HOK.out j (by omega)
            clear HOK
            go_wp2_with fail
            go_roundw
            case rel => exact ⟨k + 1, by omega, by go_num, HOK2.out, hbl.alloc hbl.size _⟩
            case measure => simp [intOf]; omega
          · have t2 : (nn != 0) = true := by simpa using hn0
            have BAD : Hid (¬ Sound p) := by
              show ¬ _
              intro h
              have := h.1.2.1 k (by rw [HNK.out]; exact hlt)
              rw [HD.out] at this
              exact absurd this (by unfold FitsK; simp [hn0])
            clear HOK
            go_wp2_with fail
            go_returns
            exact ⟨ret_b (fin.out BAD.out), HBW.out.alloc hsz _⟩
        | false =>
          by_cases hl0 : tx.length = 0
          · have t3 : ((tx.length : Int) != 0) = false := by rw [hl0]; rfl
            have HOK2 : Hid (∀ j, j < k + 1 → FitsK (p.consts.getD j cn0)) := by
              intro j hj
              by_cases e : j = k
              · rw [e, HD.out]; unfold FitsK; simp only [hl0]; simp
              · exact HOK.out j (by omega)
            clear HOK
            go_wp2_with fail
            go_roundw
            case rel => exact ⟨k + 1, by omega, by go_num, HOK2.out, hbl.alloc hbl.size _⟩
            case measure => simp [intOf]; omega
          · have t3 : ((tx.length : Int) != 0) = true := by simp; intro e; simp [e] at hl0
            have BAD : Hid (¬ Sound p) := by
              show ¬ _
              intro h
              have := h.1.2.1 k (by rw [HNK.out]; exact hlt)
              rw [HD.out] at this
              exact absurd this (by unfold FitsK; intro h3; have := h3.2.2 rfl; simp only at this; omega)
            clear HOK
            go_wp2_with fail
            go_returns
            exact ⟨ret_b (fin.out BAD.out), HBW.out.alloc hsz _⟩
    · have hkn : nk = k := by omega
      subst hkn
      have HFK : Hid (∀ i, i < p.consts.length → FitsK (p.consts.getD i cn0)) := by intro i hi; exact HOK.out i (by rw [← HNK.out]; exact hi)
      clear HOK
      go_wp2_with fail
      go_loopw [5, 6] (fun tt i wr => ∃ k : Nat, k ≤ np ∧ i = .int .i64 k ∧ (∃ c : Nat, c ≤ 1048576 ∧ tt = .int .i64 c ∧ Hid (codes p.protos k = c)) ∧ Hid ((∀ j, j < k → FitsP (p.protos.getD j pr0)) ∧ (0 < k → (p.protos.getD 0 pr0).params = 0 ∧ (p.protos.getD 0 pr0).caps.length = 0)) ∧ Below W0.heap.size W0 wr) (fun _ i _ => np - (intOf i).toNat)
      case atStart => exact ⟨0, Nat.zero_le _, rfl, ⟨0, by omega, rfl, by show _ = _; simp [codes]⟩, ⟨fun j hj => absurd hj (by omega), fun h => absurd h (by omega)⟩, hbl⟩
      case round =>
        clear r0 r1 HBW hsz hbl hk hlt
        obtain ⟨k, hk, rfl, ⟨c, hcb, rfl, HC⟩, HOK, hbl⟩ := hrel
        have r0 := cellB z0 hbl
        have r1 := cellB z1 hbl
        have HBW : Hid (Below w.heap.size w wr) := HW0.out.trans (hbl.mono HW0.out.size)
        have hsz := HBW.out.size
        by_cases hlt : k < np
        · obtain ⟨_, _, eP, _, rP⟩ := HP0.out.below hbl
          simp only [Value.slice.injEq] at eP
          obtain ⟨rfl, -, rfl⟩ := eP
          obtain ⟨b, off, uc, ud, rfl, c0, c1, c2, c3, hc, hd⟩ := rP k (by rw [HNP.out]; exact hlt)
          clear rP
          have HC2 : Hid (codes p.protos (k + 1) = c + (p.protos.getD k pr0).code.length) := by show _ = _; rw [codes_succ (by rw [HNP.out]; exact hlt), HC.out]
          have hcl : c + (p.protos.getD k pr0).code.length ≤ 1048576 := by
            rw [← HC2.out]
            exact Nat.le_trans (codes_le p.protos (k + 1) (by rw [HNP.out]; omega)) HSP.out
          generalize hD : p.protos.getD k pr0 = d at c0 c1 hc hd HC2 hcl
          have HD : Hid (p.protos.getD k pr0 = d) := hD
          clear hD
          obtain ⟨fp, fs, fc, fd⟩ := d
          simp only at c0 c1 hc hd HC2 hcl
          have HRC : Hid (RdCV wr uc fc) := hc
          obtain ⟨aC, cC, rfl, hCl, _⟩ := hc
          obtain ⟨aD, cD, rfl, hDl, _⟩ := hd
          have hlt' : (k : Int) < (np : Int) := by omega
          have hsm : (c : Int) + (fd.length : Int) ≤ 1048576 := by omega
          have v1 := cellOld (o := .cells #[.int .i64 fp, .int .i64 fs, .slice aC fc.length cC, .slice aD fd.length cD] 46) r1
          by_cases b1 : fp < 0
          · have t1 : decide (fp < 0) = true := by simp; omega
            have BAD : Hid (¬ Sound p) := by
              show ¬ _
              intro h
              have := h.1.2.2.1 k (by rw [HNP.out]; exact hlt)
              rw [HD.out] at this
              obtain ⟨e1, e2, e3, e4, e5, _⟩ := this
              simp only at e1 e2 e3 e4 e5
              omega
            clear HOK
            go_wp2_with fail
            go_returns
            exact ⟨ret_b (fin.out BAD.out), HBW.out.alloc hsz _⟩
          have t1 : decide (fp < 0) = false := by simp; omega
          by_cases b2 : fs < fp
          · have t2 : decide (fs < fp) = true := by simp; omega
            have BAD : Hid (¬ Sound p) := by
              show ¬ _
              intro h
              have := h.1.2.2.1 k (by rw [HNP.out]; exact hlt)
              rw [HD.out] at this
              obtain ⟨e1, e2, e3, e4, e5, _⟩ := this
              simp only at e1 e2 e3 e4 e5
              omega
            clear HOK
            go_wp2_with fail
            go_returns
            exact ⟨ret_b (fin.out BAD.out), HBW.out.alloc hsz _⟩
          have t2 : decide (fs < fp) = false := by simp; omega
          by_cases b3 : 200 < fs
          · have t3 : decide (200 < fs) = true := by simp; omega
            have BAD : Hid (¬ Sound p) := by
              show ¬ _
              intro h
              have := h.1.2.2.1 k (by rw [HNP.out]; exact hlt)
              rw [HD.out] at this
              obtain ⟨e1, e2, e3, e4, e5, _⟩ := this
              simp only at e1 e2 e3 e4 e5
              omega
            clear HOK
            go_wp2_with fail
            go_returns
            exact ⟨ret_b (fin.out BAD.out), HBW.out.alloc hsz _⟩
          have t3 : decide (200 < fs) = false := by simp; omega
          by_cases b4 : 100 < fc.length
          · have t4 : decide ((100 : Int) < (fc.length : Int)) = true := by simp; omega
            have BAD : Hid (¬ Sound p) := by
              show ¬ _
              intro h
              have := h.1.2.2.1 k (by rw [HNP.out]; exact hlt)
              rw [HD.out] at this
              obtain ⟨e1, e2, e3, e4, e5, _⟩ := this
              simp only at e1 e2 e3 e4 e5
              omega
            clear HOK
            go_wp2_with fail
            go_returns
            exact ⟨ret_b (fin.out BAD.out), HBW.out.alloc hsz _⟩
          have t4 : decide ((100 : Int) < (fc.length : Int)) = false := by simp; omega
          by_cases b5 : fd.length = 0
          · have t5 : ((fd.length : Int) == 0) = true := by rw [b5]; rfl
            have BAD : Hid (¬ Sound p) := by
              show ¬ _
              intro h
              have := h.1.2.2.1 k (by rw [HNP.out]; exact hlt)
              rw [HD.out] at this
              obtain ⟨e1, e2, e3, e4, e5, _⟩ := this
              simp only at e1 e2 e3 e4 e5
              omega
            clear HOK
            go_wp2_with fail
            go_returns
            exact ⟨ret_b (fin.out BAD.out), HBW.out.alloc hsz _⟩
          have t5 : ((fd.length : Int) == 0) = false := by simp; intro e; simp [e] at b5
          obtain ⟨lc, hlc⟩ : ∃ n, n = fc.length := ⟨_, rfl⟩
          obtain ⟨ld, hld⟩ : ∃ n, n = fd.length := ⟨_, rfl⟩
          have HLC : Hid (fc.length = lc) := hlc.symm
          have HLD : Hid (fd.length = ld) := hld.symm
          rw [← hlc] at c2 v1 t4 b4 hCl
          rw [← hld] at c3 v1 t5 b5 hcl hsm hDl
          clear hlc hld
          by_cases hk0 : k = 0
          · have HK00 : Hid (k = 0) := hk0
            have t6 : ((k : Int) == 0) = true := by rw [hk0]; rfl
            clear hk0
            by_cases p0 : fp = 0
            · by_cases l0 : lc = 0
              · have t7 : (fp != 0) = false := by rw [p0]; rfl
                have t8 : ((lc : Int) != 0) = false := by rw [l0]; rfl
                have HZ : Hid (0 < k + 1 → (p.protos.getD 0 pr0).params = 0 ∧ (p.protos.getD 0 pr0).caps.length = 0) := by
                  intro _
                  have e0 : p.protos.getD 0 pr0 = p.protos.getD k pr0 := by rw [HK00.out]
                  rw [e0, HD.out]
                  exact ⟨p0, HLC.out.trans l0⟩
                clear p0 l0
                have HRC2 : Hid (RdC wr aC fc) := by
                  obtain ⟨_, _, e, _, h⟩ := HRC.out
                  simp only [Value.slice.injEq] at e
                  obtain ⟨rfl, _, _⟩ := e
                  exact h
                clear HRC
                go_wp2_with fail
                have B0 : Hid (Below W0.heap.size W0 (wr.alloc (.cells #[.int .i64 fp, .int .i64 fs, .slice aC lc cC, .slice aD ld cD] 46))) := hbl.alloc hbl.size _
                have s0 := cellNew (w := wr) (cs := #[.int .i64 fp, .int .i64 fs, .slice aC lc cC, .slice aD ld cD]) (t := 46) (j := 2) (v := .slice aC lc cC) rfl
                have HR3 : Hid (RdC (wr.alloc (.cells #[.int .i64 fp, .int .i64 fs, .slice aC lc cC, .slice aD ld cD] 46)) aC fc) := HRC2.out.below ((Below.refl _ _).alloc (Nat.le_refl _) _)
                obtain ⟨g1, hg1⟩ : ∃ g, g = wr.heap.size := ⟨_, rfl⟩
                rw [← hg1] at s0 ⊢
                generalize wr.alloc (.cells #[.int .i64 fp, .int .i64 fs, .slice aC lc cC, .slice aD ld cD] 46) = W1 at *
                clear r0 r1 v1 c0 c1 c2 c3 HBW hbl hsz HRC2 hg1
                go_loopw [8] (fun x wr => ∃ i : Nat, i ≤ lc ∧ x = .int .i64 i ∧ Hid (∀ j, j < i → 0 ≤ (fc.getD j cp0).index ∧ (fc.getD j cp0).index < 200) ∧ Below W1.heap.size W1 wr) (fun x _ => lc - (intOf x).toNat)
                case atStart => exact ⟨0, Nat.zero_le _, rfl, fun j hj => absurd hj (by omega), Below.refl _ _⟩
                case round =>
                  obtain ⟨i, hil, rfl, HOI, hbi⟩ := hrel
                  have u0 := cellB s0 hbi
                  have HBV0 : Hid (Below W0.heap.size W0 wr) := B0.out.trans (hbi.mono B0.out.size)
                  have HBV : Hid (Below w.heap.size w wr) := HW0.out.trans (HBV0.out.mono HW0.out.size)
                  by_cases hli : i < lc
                  · obtain ⟨b5, off5, rfl, e0, e1⟩ := (HR3.out.below hbi) i (by rw [HLC.out]; exact hli)
                    have hli' : (i : Int) < (lc : Int) := by omega
                    generalize hix : (fc.getD i cp0).index = ix at e1
                    have HE : Hid ((fc.getD i cp0).index = ix) := hix
                    clear hix e0
                    by_cases n1 : ix < 0
                    · have m1 : decide (ix < 0) = true := by simp; omega
                      have BAD : Hid (¬ Sound p) := by
                        show ¬ _
                        intro h
                        have h6 := (h.1.2.2.1 k (by rw [HNP.out]; exact hlt)).2.2.2.2.2
                        rw [HD.out] at h6
                        have h7 := h6 i (by simp only; rw [HLC.out]; exact hli)
                        simp only at h7
                        rw [HE.out] at h7
                        omega
                      clear HOI
                      go_wp2_with fail
                      go_returns
                      exact ⟨ret_b (fin.out BAD.out), HBV.out⟩
                    have m1 : decide (ix < 0) = false := by simp; omega
                    by_cases n2 : 200 ≤ ix
                    · have m2 : decide (200 ≤ ix) = true := by simp; omega
                      have BAD : Hid (¬ Sound p) := by
                        show ¬ _
                        intro h
                        have h6 := (h.1.2.2.1 k (by rw [HNP.out]; exact hlt)).2.2.2.2.2
                        rw [HD.out] at h6
                        have h7 := h6 i (by simp only; rw [HLC.out]; exact hli)
                        simp only at h7
                        rw [HE.out] at h7
                        omega
                      clear HOI
                      go_wp2_with fail
                      go_returns
                      exact ⟨ret_b (fin.out BAD.out), HBV.out⟩
                    have m2 : decide (200 ≤ ix) = false := by simp; omega
                    have HOI2 : Hid (∀ j, j < i + 1 → 0 ≤ (fc.getD j cp0).index ∧ (fc.getD j cp0).index < 200) := by
                      intro j hj
                      by_cases e : j = i
                      · rw [e, HE.out]; omega
                      · exact HOI.out j (by omega)
                    clear HOI
                    go_wp2_with fail
                    go_roundw
                    case rel => exact ⟨i + 1, by omega, by go_num, HOI2.out, hbi⟩
                    case measure => simp [intOf]; omega
                  · have hin : i = lc := by omega
                    subst hin
                    have HOK2 : Hid ((∀ j, j < k + 1 → FitsP (p.protos.getD j pr0)) ∧ (0 < k + 1 → (p.protos.getD 0 pr0).params = 0 ∧ (p.protos.getD 0 pr0).caps.length = 0)) := by
                      refine ⟨fun j hj => ?_, HZ.out⟩
                      by_cases e : j = k
                      · rw [e, HD.out]
                        refine ⟨by simp only; omega, by simp only; omega, by simp only; omega, by simp only; have := HLC.out; omega, by simp only; have := HLD.out; omega, fun j hj => HOI.out j (by rw [← HLC.out]; exact hj)⟩
                      · exact HOK.out.1 j (by omega)
                    have HC3 : Hid (codes p.protos (k + 1) = c + ld) := by show _ = _; rw [HC2.out, HLD.out]
                    clear HOK HOI HC2
                    go_wp2_with fail
                    go_roundw
                    case rel => exact ⟨k + 1, by omega, by go_num, ⟨c + ld, by omega, by go_num, HC3.out⟩, HOK2.out, HBV0.out⟩
                    case measure => simp [intOf]; omega
              · have t8 : ((lc : Int) != 0) = true := by simp; omega
                have t7 : (fp != 0) = false := by rw [p0]; rfl
                have BAD : Hid (¬ Sound p) := by
                  show ¬ _
                  intro h
                  have h5 := h.1.2.2.2.2
                  have e0 : p.protos.getD 0 pr0 = p.protos.getD k pr0 := by rw [HK00.out]
                  rw [e0, HD.out] at h5
                  simp only at h5
                  have := HLC.out
                  omega
                clear HOK
                go_wp2_with fail
                go_returns
                exact ⟨ret_b (fin.out BAD.out), HBW.out.alloc hsz _⟩
            · have t7 : (fp != 0) = true := by simpa using p0
              have BAD : Hid (¬ Sound p) := by
                show ¬ _
                intro h
                have h5 := h.1.2.2.2.2
                have e0 : p.protos.getD 0 pr0 = p.protos.getD k pr0 := by rw [HK00.out]
                rw [e0, HD.out] at h5
                simp only at h5
                have := HLC.out
                omega
              clear HOK
              go_wp2_with fail
              go_returns
              exact ⟨ret_b (fin.out BAD.out), HBW.out.alloc hsz _⟩
          · have t6 : ((k : Int) == 0) = false := by simp; omega
            have HZ : Hid (0 < k + 1 → (p.protos.getD 0 pr0).params = 0 ∧ (p.protos.getD 0 pr0).caps.length = 0) := fun _ => HOK.out.2 (by omega)
            have HRC2 : Hid (RdC wr aC fc) := by
              obtain ⟨_, _, e, _, h⟩ := HRC.out
              simp only [Value.slice.injEq] at e
              obtain ⟨rfl, _, _⟩ := e
              exact h
            clear HRC
            go_wp2_with fail
            have B0 : Hid (Below W0.heap.size W0 (wr.alloc (.cells #[.int .i64 fp, .int .i64 fs, .slice aC lc cC, .slice aD ld cD] 46))) := hbl.alloc hbl.size _
            have s0 := cellNew (w := wr) (cs := #[.int .i64 fp, .int .i64 fs, .slice aC lc cC, .slice aD ld cD]) (t := 46) (j := 2) (v := .slice aC lc cC) rfl
            have HR3 : Hid (RdC (wr.alloc (.cells #[.int .i64 fp, .int .i64 fs, .slice aC lc cC, .slice aD ld cD] 46)) aC fc) := HRC2.out.below ((Below.refl _ _).alloc (Nat.le_refl _) _)
            obtain ⟨g1, hg1⟩ : ∃ g, g = wr.heap.size := ⟨_, rfl⟩
            rw [← hg1] at s0 ⊢
            generalize wr.alloc (.cells #[.int .i64 fp, .int .i64 fs, .slice aC lc cC, .slice aD ld cD] 46) = W1 at *
            clear r0 r1 v1 c0 c1 c2 c3 HBW hbl hsz HRC2 hg1
            go_loopw [8] (fun x wr => ∃ i : Nat, i ≤ lc ∧ x = .int .i64 i ∧ Hid (∀ j, j < i → 0 ≤ (fc.getD j cp0).index ∧ (fc.getD j cp0).index < 200) ∧ Below W1.heap.size W1 wr) (fun x _ => lc - (intOf x).toNat)
            case atStart => exact ⟨0, Nat.zero_le _, rfl, fun j hj => absurd hj (by omega), Below.refl _ _⟩
            case round =>
              obtain ⟨i, hil, rfl, HOI, hbi⟩ := hrel
              have u0 := cellB s0 hbi
              have HBV0 : Hid (Below W0.heap.size W0 wr) := B0.out.trans (hbi.mono B0.out.size)
              have HBV : Hid (Below w.heap.size w wr) := HW0.out.trans (HBV0.out.mono HW0.out.size)
              by_cases hli : i < lc
              · obtain ⟨b5, off5, rfl, e0, e1⟩ := (HR3.out.below hbi) i (by rw [HLC.out]; exact hli)
                have hli' : (i : Int) < (lc : Int) := by omega
                generalize hix : (fc.getD i cp0).index = ix at e1
                have HE : Hid ((fc.getD i cp0).index = ix) := hix
                clear hix e0
                by_cases n1 : ix < 0
                · have m1 : decide (ix < 0) = true := by simp; omega
                  have BAD : Hid (¬ Sound p) := by
                    show ¬ _
                    intro h
                    have h6 := (h.1.2.2.1 k (by rw [HNP.out]; exact hlt)).2.2.2.2.2
                    rw [HD.out] at h6
                    have h7 := h6 i (by simp only; rw [HLC.out]; exact hli)
                    simp only at h7
                    rw [HE.out] at h7
                    omega
                  clear HOI
                  go_wp2_with fail
                  go_returns
                  exact ⟨ret_b (fin.out BAD.out), HBV.out⟩
                have m1 : decide (ix < 0) = false := by simp; omega
                by_cases n2 : 200 ≤ ix
                · have m2 : decide (200 ≤ ix) = true := by simp; omega
                  have BAD : Hid (¬ Sound p) := by
                    show ¬ _
                    intro h
                    have h6 := (h.1.2.2.1 k (by rw [HNP.out]; exact hlt)).2.2.2.2.2
                    rw [HD.out] at h6
                    have h7 := h6 i (by simp only; rw [HLC.out]; exact hli)
                    simp only at h7
                    rw [HE.out] at h7
                    omega
                  clear HOI
                  go_wp2_with fail
                  go_returns
                  exact ⟨ret_b (fin.out BAD.out), HBV.out⟩
                have m2 : decide (200 ≤ ix) = false := by simp; omega
                have HOI2 : Hid (∀ j, j < i + 1 → 0 ≤ (fc.getD j cp0).index ∧ (fc.getD j cp0).index < 200) := by
                  intro j hj
                  by_cases e : j = i
                  · rw [e, HE.out]; omega
                  · exact HOI.out j (by omega)
                clear HOI
                go_wp2_with fail
                go_roundw
                case rel => exact ⟨i + 1, by omega, by go_num, HOI2.out, hbi⟩
                case measure => simp [intOf]; omega
              · have hin : i = lc := by omega
                subst hin
                have HOK2 : Hid ((∀ j, j < k + 1 → FitsP (p.protos.getD j pr0)) ∧ (0 < k + 1 → (p.protos.getD 0 pr0).params = 0 ∧ (p.protos.getD 0 pr0).caps.length = 0)) := by
                  refine ⟨fun j hj => ?_, HZ.out⟩
                  by_cases e : j = k
                  · rw [e, HD.out]
                    refine ⟨by simp only; omega, by simp only; omega, by simp only; omega, by simp only; have := HLC.out; omega, by simp only; have := HLD.out; omega, fun j hj => HOI.out j (by rw [← HLC.out]; exact hj)⟩
                  · exact HOK.out.1 j (by omega)
                have HC3 : Hid (codes p.protos (k + 1) = c + ld) := by show _ = _; rw [HC2.out, HLD.out]
                clear HOK HOI HC2
                go_wp2_with fail
                go_roundw
                case rel => exact ⟨k + 1, by omega, by go_num, ⟨c + ld, by omega, by go_num, HC3.out⟩, HOK2.out, HBV0.out⟩
                case measure => simp [intOf]; omega
        · have hkn : np = k := by omega
          subst hkn
          have HFP : Hid ((∀ i, i < p.protos.length → FitsP (p.protos.getD i pr0)) ∧ (p.protos.getD 0 pr0).params = 0 ∧ (p.protos.getD 0 pr0).caps.length = 0) := ⟨fun i hi => HOK.out.1 i (by rw [← HNP.out]; exact hi), HOK.out.2 (by omega)⟩
          have HCT : Hid (codes p.protos p.protos.length = c) := by show _ = _; rw [HNP.out]; exact HC.out
          clear HOK HC
          by_cases htot : 20000 < c
          · have t1 : decide ((20000 : Int) < (c : Int)) = true := by simp; omega
            have BAD : Hid (¬ Sound p) := by
              show ¬ _
              intro h
              have h7 := h.1.2.2.2.1
              rw [HCT.out] at h7
              omega
            go_wp2_with fail
            go_returns
            exact ⟨ret_b (fin.out BAD.out), HBW.out⟩
          have t1 : decide ((20000 : Int) < (c : Int)) = false := by simp; omega
          have HFIT : Hid (Fits p) := ⟨⟨by rw [HNP.out]; omega, by rw [HNP.out]; omega, by rw [HNK.out]; omega⟩, HFK.out, HFP.out.1, by rw [HCT.out]; omega, HFP.out.2⟩
          go_wp2_with fail
          go_loopw [9] (fun x wr => ∃ k : Nat, k ≤ np ∧ x = .int .i64 k ∧ Hid (∀ j, j < k → FnOk p (p.protos.getD j pr0)) ∧ Below W0.heap.size W0 wr) (fun x _ => np - (intOf x).toNat)
          case atStart => exact ⟨0, Nat.zero_le _, rfl, fun j hj => absurd hj (by omega), hbl⟩
          case round =>
            clear r0 r1 HBW hsz hbl
            obtain ⟨k, hk, rfl, HOK, hbl⟩ := hrel
            have r0 := cellB z0 hbl
            have r1 := cellB z1 hbl
            have HBW : Hid (Below w.heap.size w wr) := HW0.out.trans (hbl.mono HW0.out.size)
            have hsz := HBW.out.size
            by_cases hlt : k < np
            · have HK1 : Hid (RdKV wr (.slice ak nk ck) p.consts) := HK0.out.below hbl
              have HP1 : Hid (RdPV wr (.slice ap np cp) p.protos) := HP0.out.below hbl
              obtain ⟨_, _, eP, _, rP⟩ := HP0.out.below hbl
              simp only [Value.slice.injEq] at eP
              obtain ⟨rfl, -, rfl⟩ := eP
              obtain ⟨b, off, uc, ud, rfl, c0, c1, c2, c3, hc, hd⟩ := rP k (by rw [HNP.out]; exact hlt)
              clear rP
              have HFF : Hid (FitsP (p.protos.getD k pr0)) := HFIT.out.2.2.1 k (by rw [HNP.out]; exact hlt)
              have HCL : Hid ((p.protos.getD k pr0).code.length ≤ 1048576) := by
                show _ ≤ _
                have e1 := codes_succ (l := p.protos) (k := k) (by rw [HNP.out]; exact hlt)
                have e2 := codes_le p.protos (k + 1) (by rw [HNP.out]; omega)
                have e3 := HSP.out
                omega
              generalize hD : p.protos.getD k pr0 = d at c0 c1 hc hd HFF HCL
              have HD : Hid (p.protos.getD k pr0 = d) := hD
              clear hD
              have HRC : Hid (RdCV wr uc d.caps) := hc
              have HRD : Hid (RdIV wr ud d.code) := hd
              obtain ⟨aC, cC, rfl, hCl, _⟩ := hc
              obtain ⟨aD, cD, rfl, hDl, rD⟩ := hd
              have hlt' : (k : Int) < (np : Int) := by omega
              obtain ⟨fp, fs, fc, fd⟩ := d
              simp only at c0 c1 c2 c3 HRC HRD hCl hDl rD HCL
              have HRI : Hid (RdI wr aD fd) := rD
              obtain ⟨lc, hlc⟩ : ∃ n, n = fc.length := ⟨_, rfl⟩
              obtain ⟨ld, hld⟩ : ∃ n, n = fd.length := ⟨_, rfl⟩
              have HLC : Hid (fc.length = lc) := hlc.symm
              have HLD : Hid (fd.length = ld) := hld.symm
              rw [← hlc] at c2 hCl
              rw [← hld] at c3 hDl
              have hldb : ld ≤ 1048576 := by rw [hld]; exact HCL.out
              rw [← hlc] at HRC
              rw [← hld] at HRD
              clear hlc hld rD HCL
              go_wp2_with fail
              have B0 : Hid (Below W0.heap.size W0 (wr.alloc (.cells #[.int .i64 fp, .int .i64 fs, .slice aC lc cC, .slice aD ld cD] 46))) := hbl.alloc hbl.size _
              have f0 := cellNew (w := wr) (cs := #[.int .i64 fp, .int .i64 fs, .slice aC lc cC, .slice aD ld cD]) (t := 46) (j := 0) (v := .int .i64 fp) rfl
              have f1 := cellNew (w := wr) (cs := #[.int .i64 fp, .int .i64 fs, .slice aC lc cC, .slice aD ld cD]) (t := 46) (j := 1) (v := .int .i64 fs) rfl
              have f2 := cellNew (w := wr) (cs := #[.int .i64 fp, .int .i64 fs, .slice aC lc cC, .slice aD ld cD]) (t := 46) (j := 2) (v := .slice aC lc cC) rfl
              have f3 := cellNew (w := wr) (cs := #[.int .i64 fp, .int .i64 fs, .slice aC lc cC, .slice aD ld cD]) (t := 46) (j := 3) (v := .slice aD ld cD) rfl
              have v0 := cellOld (o := .cells #[.int .i64 fp, .int .i64 fs, .slice aC lc cC, .slice aD ld cD] 46) r0
              have v1 := cellOld (o := .cells #[.int .i64 fp, .int .i64 fs, .slice aC lc cC, .slice aD ld cD] 46) r1
              have hal : Below wr.heap.size wr (wr.alloc (.cells #[.int .i64 fp, .int .i64 fs, .slice aC lc cC, .slice aD ld cD] 46)) := (Below.refl _ _).alloc (Nat.le_refl _) _
              have HR3 : Hid (RdI (wr.alloc (.cells #[.int .i64 fp, .int .i64 fs, .slice aC lc cC, .slice aD ld cD] 46)) aD fd) := HRI.out.below hal
              have HC3 : Hid (RdCV (wr.alloc (.cells #[.int .i64 fp, .int .i64 fs, .slice aC lc cC, .slice aD ld cD] 46)) (.slice aC lc cC) fc) := HRC.out.below hal
              have HD3 : Hid (RdIV (wr.alloc (.cells #[.int .i64 fp, .int .i64 fs, .slice aC lc cC, .slice aD ld cD] 46)) (.slice aD ld cD) fd) := HRD.out.below hal
              have HK3 : Hid (RdKV (wr.alloc (.cells #[.int .i64 fp, .int .i64 fs, .slice aC lc cC, .slice aD ld cD] 46)) (.slice ak nk ck) p.consts) := HK1.out.below hal
              have HP3 : Hid (RdPV (wr.alloc (.cells #[.int .i64 fp, .int .i64 fs, .slice aC lc cC, .slice aD ld cD] 46)) (.slice (some ⟨b, off, none⟩) np cp) p.protos) := HP1.out.below hal
              obtain ⟨g1, hg1⟩ : ∃ g, g = wr.heap.size := ⟨_, rfl⟩
              rw [← hg1] at f0 f1 f2 f3 ⊢
              generalize wr.alloc (.cells #[.int .i64 fp, .int .i64 fs, .slice aC lc cC, .slice aD ld cD] 46) = W1 at *
              clear r0 r1 c0 c1 c2 c3 HBW hbl hsz HRC HRD HRI HK1 HP1 hal hg1
              go_loopw [11] (fun x wr => ∃ i : Nat, i ≤ ld ∧ x = .int .i64 i ∧ Hid (∀ j, j < i → insOK p ⟨fp, fs, fc, fd⟩ (fd.getD j in0) = true) ∧ Below W1.heap.size W1 wr) (fun x _ => ld - (intOf x).toNat)
              case atStart => exact ⟨0, Nat.zero_le _, rfl, fun j hj => absurd hj (by omega), Below.refl _ _⟩
              case round =>
                obtain ⟨i, hil, rfl, HOI, hbi⟩ := hrel
                have u0 := cellB f0 hbi
                have u1 := cellB f1 hbi
                have u2 := cellB f2 hbi
                have u3 := cellB f3 hbi
                have y0 := cellB v0 hbi
                have y1 := cellB v1 hbi
                have HBV0 : Hid (Below W0.heap.size W0 wr) := B0.out.trans (hbi.mono B0.out.size)
                have HBV : Hid (Below w.heap.size w wr) := HW0.out.trans (HBV0.out.mono HW0.out.size)
                by_cases hli : i < ld
                · obtain ⟨b5, off5, rfl, e0, e1, e2⟩ := (HR3.out.below hbi) i (by rw [HLD.out]; exact hli)
                  have hli' : (i : Int) < (ld : Int) := by omega
                  generalize hX : fd.getD i in0 = X at e0 e1 e2
                  have HX : Hid (fd.getD i in0 = X) := hX
                  clear hX
                  have C : Hid (∀ W, Below wr.heap.size wr W → Calls Tryd.prog 25 #[.agg #[.slice ak nk ck, .slice (some ⟨b, off, none⟩) np cp], .agg #[.int .i64 fp, .int .i64 fs, .slice aC lc cC, .slice (some ⟨b5, off5, none⟩) ld cD], .agg #[.int .i64 X.op, .int .i64 X.a, .int .i64 X.b]] W fun e w' => e = .returned (.bool (insOK p ⟨fp, fs, fc, fd⟩ X)) ∧ Below wr.heap.size wr w') := by
                    intro W hW
                    have hW1 : Below W1.heap.size W1 W := hbi.trans (hW.mono hbi.size)
                    exact (l4insOK_any p ⟨fp, fs, fc, fd⟩ X _ _ _ _ W (HK3.out.below hW1) (HP3.out.below hW1) (HC3.out.below hW1) (HD3.out.below hW1) (by have := HFF.out.1; have := HFF.out.2.1; simp only at *; omega) HFF.out.2.2.1).mono fun _ _ ⟨a, b⟩ => ⟨a, hW.trans (b.mono hW.size)⟩
                  generalize hio : insOK p ⟨fp, fs, fc, fd⟩ X = io at C
                  have HIO : Hid (insOK p ⟨fp, fs, fc, fd⟩ X = io) := hio
                  clear hio
                  have HC : Hid (∀ W, Below wr.heap.size wr W → W.cell? ⟨w.heap.size, 0, none⟩ = some (.slice ak nk ck) ∧ W.cell? ⟨w.heap.size, 1, none⟩ = some (.slice (some ⟨b, off, none⟩) np cp) ∧ W.cell? ⟨g1, 0, none⟩ = some (.int .i64 fp) ∧ W.cell? ⟨g1, 1, none⟩ = some (.int .i64 fs) ∧ W.cell? ⟨g1, 2, none⟩ = some (.slice aC lc cC) ∧ W.cell? ⟨g1, 3, none⟩ = some (.slice (some ⟨b5, off5, none⟩) ld cD) ∧ W.cell? ⟨b5, off5 + i * 3, none⟩ = some (.int .i64 X.op) ∧ W.cell? ⟨b5, off5 + i * 3 + 1, none⟩ = some (.int .i64 X.a) ∧ W.cell? ⟨b5, off5 + i * 3 + 2, none⟩ = some (.int .i64 X.b)) :=
                    fun W hW => ⟨cellB y0 hW, cellB y1 hW, cellB u0 hW, cellB u1 hW, cellB u2 hW, cellB u3 hW, cellB e0 hW, cellB e1 hW, cellB e2 hW⟩
                  go_wp2_with fail
                  go_region_held3 (fun W => (W.cell? ⟨w.heap.size, 0, none⟩ = some (.slice ak nk ck) ∧ W.cell? ⟨w.heap.size, 1, none⟩ = some (.slice (some ⟨b, off, none⟩) np cp) ∧ W.cell? ⟨g1, 0, none⟩ = some (.int .i64 fp) ∧ W.cell? ⟨g1, 1, none⟩ = some (.int .i64 fs) ∧ W.cell? ⟨g1, 2, none⟩ = some (.slice aC lc cC) ∧ W.cell? ⟨g1, 3, none⟩ = some (.slice (some ⟨b5, off5, none⟩) ld cD) ∧ W.cell? ⟨b5, off5 + i * 3, none⟩ = some (.int .i64 X.op) ∧ W.cell? ⟨b5, off5 + i * 3 + 1, none⟩ = some (.int .i64 X.a) ∧ W.cell? ⟨b5, off5 + i * 3 + 2, none⟩ = some (.int .i64 X.b)) ∧ Below wr.heap.size wr W) (refine ⟨?_, ?_⟩ <;> first | (refine HC.out _ ?_; repeat (first | exact Below.refl _ _ | assumption | refine Below.drew ?_ | refine bel_drewN ?_ _)) | (repeat (first | exact Below.refl _ _ | assumption | refine Below.drew ?_ | refine bel_drewN ?_ _)))
                    ((go_at_call 25; with_reducible refine (C.out _ ?_).mono ?_; (repeat (first | exact Below.refl _ _ | assumption | refine Below.drew ?_ | refine bel_drewN ?_ _)); rintro e w' ⟨rfl, hb'⟩))
                  have hW2 : Below wr.heap.size wr w' := by assumption
                  have HB5 : Hid (Below W1.heap.size W1 w') := hbi.trans (hW2.mono hbi.size)
                  have HB6 : Hid (Below w.heap.size w w') := HBV.out.trans (hW2.mono HBV.out.size)
                  clear hW2 C HC u0 u1 u2 u3 y0 y1 e0 e1 e2
                  cases io with
                  | false =>
                    have BAD : Hid (¬ Sound p) := by
                      show ¬ _
                      intro h
                      have h6 := (h.2 k (by rw [HNP.out]; exact hlt)).1
                      rw [HD.out] at h6
                      have h7 := h6 i (by simp only; rw [HLD.out]; exact hli)
                      simp only at h7
                      rw [HX.out, HIO.out] at h7
                      cases h7
                    go_wp2_with fail
                    go_returns
                    exact ⟨ret_b (fin.out BAD.out), HB6.out⟩
                  | true =>
                    have HOI2 : Hid (∀ j, j < i + 1 → insOK p ⟨fp, fs, fc, fd⟩ (fd.getD j in0) = true) := by
                      intro j hj
                      by_cases e : j = i
                      · rw [e, HX.out]; exact HIO.out
                      · exact HOI.out j (by omega)
                    clear HOI
                    go_wp2_with fail
                    go_roundw
                    case rel => exact ⟨i + 1, by omega, by go_num, HOI2.out, HB5.out⟩
                    case measure => simp [intOf]; omega
                · have hin : ld = i := by omega
                  have HIN : Hid (ld = i) := hin
                  have HALL : Hid (∀ j, j < fd.length → insOK p ⟨fp, fs, fc, fd⟩ (fd.getD j in0) = true) := fun j hj => HOI.out j (by rw [← HIN.out, ← HLD.out]; exact hj)
                  have CH : Hid (∀ W, Below wr.heap.size wr W → Calls Tryd.prog 26 #[.agg #[.int .i64 fp, .int .i64 fs, .slice aC lc cC, .slice aD ld cD]] W fun e w' => ∃ b : Bool, e = .returned (.bool b) ∧ (b = true ↔ Good (suN fd) fd.length) ∧ Below W.heap.size W w') := by
                    intro W hW
                    have hW1 : Below W1.heap.size W1 W := hbi.trans (hW.mono hbi.size)
                    exact l4heights_any ⟨fp, fs, fc, fd⟩ _ _ W (HD3.out.below hW1) (fun i hi => insOK_ok (HALL.out i hi)) HFF.out.2.2.2.2.1 (by simp only; rw [HLD.out]; exact hldb)
                  clear HOI hin
                  go_wp2_with fail
                  refine (CH.out _ (Below.refl _ _)).mono ?_
                  rintro e w2 ⟨bb, rfl, HGB, hb2⟩
                  have HGB2 : Hid (bb = true ↔ Good (suN fd) fd.length) := HGB
                  have HB5 : Hid (Below W0.heap.size W0 w2) := HBV0.out.trans (hb2.mono HBV0.out.size)
                  have HB6 : Hid (Below w.heap.size w w2) := HBV.out.trans (hb2.mono HBV.out.size)
                  clear hb2 HGB CH u0 u1 u2 u3 y0 y1
                  cases bb with
                  | false =>
                    have BAD : Hid (¬ Sound p) := by
                      show ¬ _
                      intro h
                      have h6 := (h.2 k (by rw [HNP.out]; exact hlt)).2
                      rw [HD.out] at h6
                      have := HGB2.out.2 h6
                      cases this
                    go_wp2_with fail
                    go_returns
                    exact ⟨ret_b (fin.out BAD.out), HB6.out⟩
                  | true =>
                    have HOK2 : Hid (∀ j, j < k + 1 → FnOk p (p.protos.getD j pr0)) := by
                      intro j hj
                      by_cases e : j = k
                      · rw [e, HD.out]; exact ⟨HALL.out, HGB2.out.1 rfl⟩
                      · exact HOK.out j (by omega)
                    clear HOK
                    go_wp2_with fail
                    go_roundw
                    case rel => exact ⟨k + 1, by omega, by go_num, HOK2.out, HB5.out⟩
                    case measure => simp [intOf]; omega
            · have hkn2 : k = np := by omega
              have SND : Hid (true = bS) := by
                show _ = _
                exact (HBS.out.2 ⟨HFIT.out, fun i hi => HOK.out i (by rw [hkn2, ← HNP.out]; exact hi)⟩).symm
              clear HOK
              go_wp2_with fail
              go_returns
              exact ⟨ret_b SND.out, HBW.out⟩
end Go.Proofs.YteagakplhfiodaaDoor.chk
