import Derived.Test.YteagakplhfiodaaDoorChkFits
namespace Go.Proofs.YteagakplhfiodaaDoor.chk
open Go.RowKit Go.Proofs.YteagakplhfiodaaDoor.bts Go.Proofs.YteagakplhfiodaaDoor.pg

set_option maxRecDepth 100000 in
set_option maxHeartbeats 4000000 in
theorem progFits_any (p : Pg) (uk up : Value) (w : World) (hk : RdKV w uk p.consts) (hp : RdPV w up p.protos) (hs : sizePg p ≤ 1048576) (bS : Bool) (HBS : Hid (bS = true ↔ Fits p)) :
    Calls Tryd.prog 37 #[.agg #[uk, up]] w fun e w' => e = .returned (.bool bS) ∧ Below w.heap.size w w' := by
  have HKV : Hid (RdKV w uk p.consts) := hk
  have HPV : Hid (RdPV w up p.protos) := hp
  have hsK : sizeK p.consts ≤ 1048576 := by unfold sizePg at hs; omega
  have hsP : sizeP p.protos ≤ 1048576 := by unfold sizePg at hs; omega
  have hnk : p.consts.length ≤ 1048576 := by unfold sizeK at hsK; omega
  have hnp : p.protos.length ≤ 1048576 := by unfold sizeP at hsP; omega
  have HSP : Hid (sizeP p.protos ≤ 1048576) := hsP
  obtain ⟨ak, ck, rfl, _, _⟩ := hk
  obtain ⟨ap, cp, rfl, _, _⟩ := hp
  obtain ⟨nk, hnkE⟩ : ∃ n, n = p.consts.length := ⟨_, rfl⟩
  obtain ⟨np, hnpE⟩ : ∃ n, n = p.protos.length := ⟨_, rfl⟩
  have HNK : Hid (p.consts.length = nk) := hnkE.symm
  have HNP : Hid (p.protos.length = np) := hnpE.symm
  rw [← hnkE] at hnk HKV ⊢
  rw [← hnpE] at hnp HPV ⊢
  clear hs hsK hsP hnkE hnpE
  have fin : Hid (¬ Fits p → false = bS) := by
    intro h
    cases bS with
    | false => rfl
    | true => exact absurd (HBS.out.1 rfl) h
  by_cases q1 : np < 1
  · have BAD : Hid (¬ Fits p) := by show ¬ _; intro h; have := h.1.1; have := HNP.out; have := HNK.out; omega
    have d1 : decide ((np : Int) < 1) = true := by simp; omega
    go_enter Tryd.func37, Tryd.ntmps37
    go_wp2_with fail
    go_returns
    exact ⟨ret_b (fin.out BAD.out), by go_grown⟩
  have d1 : decide ((np : Int) < 1) = false := by simp; omega
  by_cases q2 : 500 < np
  · have BAD : Hid (¬ Fits p) := by show ¬ _; intro h; have := h.1.2.1; have := HNP.out; have := HNK.out; omega
    have d2 : decide ((500 : Int) < (np : Int)) = true := by simp; omega
    go_enter Tryd.func37, Tryd.ntmps37
    go_wp2_with fail
    go_returns
    exact ⟨ret_b (fin.out BAD.out), by go_grown⟩
  have d2 : decide ((500 : Int) < (np : Int)) = false := by simp; omega
  by_cases q3 : 20000 < nk
  · have BAD : Hid (¬ Fits p) := by show ¬ _; intro h; have := h.1.2.2; have := HNP.out; have := HNK.out; omega
    have d3 : decide ((20000 : Int) < (nk : Int)) = true := by simp; omega
    go_enter Tryd.func37, Tryd.ntmps37
    go_wp2_with fail
    go_returns
    exact ⟨ret_b (fin.out BAD.out), by go_grown⟩
  have d3 : decide ((20000 : Int) < (nk : Int)) = false := by simp; omega
  obtain ⟨W0, hW0⟩ : ∃ W0, W0 = w.alloc (.cells #[.slice ak nk ck, .slice ap np cp] 26) := ⟨_, rfl⟩
  have z0 : W0.cell? ⟨w.heap.size, 0, none⟩ = some (.slice ak nk ck) := by rw [hW0]; exact cellNew rfl
  have z1 : W0.cell? ⟨w.heap.size, 1, none⟩ = some (.slice ap np cp) := by rw [hW0]; exact cellNew rfl
  have HW0 : Hid (Below w.heap.size w W0) := by rw [hW0]; exact (Below.refl _ _).alloc (Nat.le_refl _) _
  have HK0 : Hid (RdKV W0 (.slice ak nk ck) p.consts) := HKV.out.below HW0.out
  have HP0 : Hid (RdPV W0 (.slice ap np cp) p.protos) := HPV.out.below HW0.out
  have HWX : Hid (W0 = w.alloc (.cells #[.slice ak nk ck, .slice ap np cp] 26)) := hW0
  clear HKV HPV hW0
  go_enter Tryd.func37, Tryd.ntmps37
  go_wp2_with fail
  rw [← HWX.out]
  go_loopw [28] (fun x wr => ∃ k : Nat, k ≤ nk ∧ x = .int .i64 k ∧ Hid (∀ j, j < k → FitsK (p.consts.getD j cn0)) ∧ Below W0.heap.size W0 wr) (fun x _ => nk - (intOf x).toNat)
  case atStart => exact ⟨0, Nat.zero_le _, rfl, fun j hj => absurd hj (by omega), Below.refl _ _⟩
  case round =>
    obtain ⟨k, hk, rfl, HOK, hbl⟩ := hrel
    have r1 := cellB z1 hbl
    have HBW : Hid (Below w.heap.size w wr) := HW0.out.trans (hbl.mono HW0.out.size)
    have hsz := HBW.out.size
    by_cases hlt : k < nk
    · obtain ⟨_, _, eK, _, rK⟩ := HK0.out.below hbl
      simp only [Value.slice.injEq] at eK
      obtain ⟨rfl, -, rfl⟩ := eK
      obtain ⟨b, off, ut, rfl, c0, c1, c2, ht⟩ := rK k (by rw [HNK.out]; exact hlt)
      clear rK
      generalize hD : p.consts.getD k cn0 = d at c0 c1 ht
      have HD : Hid (p.consts.getD k cn0 = d) := hD
      clear hD
      obtain ⟨kb, nn, tx⟩ := d
      simp only at c0 c1 ht
      obtain ⟨aX, cX, rfl, hXl, _, _⟩ := ht
      have hlt' : (k : Int) < (nk : Int) := by omega
      obtain ⟨bk, hbk⟩ : ∃ bk : Bool, bk = true ↔ FitsK ⟨kb, nn, tx⟩ := by
        by_cases h : FitsK ⟨kb, nn, tx⟩
        · exact ⟨true, by simp [h]⟩
        · exact ⟨false, by simp [h]⟩
      have HBK : Hid (bk = true ↔ FitsK ⟨kb, nn, tx⟩) := hbk
      have CF : Hid (∀ W, Calls Tryd.prog 59 #[.agg #[.bool kb, .int .i64 nn, .slice aX tx.length cX]] W fun e w' => e = .returned (.bool bk) ∧ Below W.heap.size W w') := fun W => constFits_any kb nn aX tx.length cX W bk hbk
      clear hbk
      go_wp2_with fail
      refine (CF.out _).mono ?_
      rintro e w2 ⟨rfl, hb2⟩
      have HB2 : Hid (Below W0.heap.size W0 w2) := (hbl.alloc hbl.size _).trans (hb2.mono (by simp; have := hbl.size; omega))
      clear hb2 CF
      cases bk with
      | false =>
        have BAD : Hid (¬ Fits p) := by
          show ¬ _
          intro h
          have := h.2.1 k (by rw [HNK.out]; exact hlt)
          rw [HD.out] at this
          have := HBK.out.2 this
          cases this
        clear HOK
        go_wp2_with fail
        go_returns
        exact ⟨ret_b (fin.out BAD.out), HW0.out.trans (HB2.out.mono HW0.out.size)⟩
      | true =>
        have HOK2 : Hid (∀ j, j < k + 1 → FitsK (p.consts.getD j cn0)) := by
          intro j hj
          by_cases e : j = k
          · rw [e, HD.out]; exact HBK.out.1 rfl
          · exact HOK.out j (by omega)
        clear HOK
        go_wp2_with fail
        go_roundw
        case rel => exact ⟨k + 1, by omega, by go_num, HOK2.out, HB2.out⟩
        case measure => simp [intOf]; omega
    · have hkn : nk = k := by omega
      have HFK : Hid (∀ i, i < p.consts.length → FitsK (p.consts.getD i cn0)) := by intro i hi; exact HOK.out i (by rw [← hkn, ← HNK.out]; exact hi)
      clear HOK hkn
      go_wp2_with fail
      go_loopw [5, 39] (fun tt x wr => ∃ k : Nat, k ≤ np ∧ x = .int .i64 k ∧ (∃ c : Nat, c ≤ 1048576 ∧ tt = .int .i64 c ∧ Hid (codes p.protos k = c)) ∧ Hid (∀ j, j < k → FitsP (p.protos.getD j pr0)) ∧ Below W0.heap.size W0 wr) (fun _ x _ => np - (intOf x).toNat)
      case atStart => exact ⟨0, Nat.zero_le _, rfl, ⟨0, by omega, rfl, by show _ = _; simp [codes]⟩, fun j hj => absurd hj (by omega), hbl⟩
      case round =>
        clear r1 HBW hsz hbl hk hlt
        obtain ⟨k, hk, rfl, ⟨c, hcb, rfl, HC⟩, HOK, hbl⟩ := hrel
        have r1 := cellB z1 hbl
        have HBW : Hid (Below w.heap.size w wr) := HW0.out.trans (hbl.mono HW0.out.size)
        have hsz := HBW.out.size
        by_cases hlt : k < np
        · obtain ⟨_, _, eP, _, rP⟩ := HP0.out.below hbl
          simp only [Value.slice.injEq] at eP
          obtain ⟨rfl, -, rfl⟩ := eP
          obtain ⟨b, off, uc, ud, rfl, c0, c1, c2, c3, hc, hd⟩ := rP k (by rw [HNP.out]; exact hlt)
          clear rP
          have HC2 : Hid (codes p.protos (k + 1) = c + (p.protos.getD k pr0).code.length) := by show _ = _; rw [codes_succ (by rw [HNP.out]; exact hlt), HC.out]
          have hcl : c + (p.protos.getD k pr0).code.length ≤ 1048576 := by
            rw [← HC2.out]
            exact Nat.le_trans (codes_le p.protos (k + 1) (by rw [HNP.out]; omega)) HSP.out
          generalize hD : p.protos.getD k pr0 = d at c0 c1 hc hd HC2 hcl
          have HD : Hid (p.protos.getD k pr0 = d) := hD
          clear hD
          obtain ⟨fp, fs, fc, fd⟩ := d
          simp only at c0 c1 hc hd HC2 hcl
          obtain ⟨bk, hbk⟩ : ∃ bk : Bool, bk = true ↔ FitsP ⟨fp, fs, fc, fd⟩ := by
            by_cases h : FitsP ⟨fp, fs, fc, fd⟩
            · exact ⟨true, by simp [h]⟩
            · exact ⟨false, by simp [h]⟩
          have HBK : Hid (bk = true ↔ FitsP ⟨fp, fs, fc, fd⟩) := hbk
          obtain ⟨aD, cD, rfl, hDl, _⟩ := hd
          have CF : Hid (∀ W, Below wr.heap.size wr W → Calls Tryd.prog 60 #[.agg #[.int .i64 fp, .int .i64 fs, uc, .slice aD fd.length cD]] W fun e w' => e = .returned (.bool bk) ∧ Below W.heap.size W w') := fun W hW => protoFits_any fp fs uc fc aD fd.length cD W (hc.below hW) (by omega) bk hbk
          obtain ⟨aC, cC, rfl, hCl, _⟩ := hc
          have hlt' : (k : Int) < (np : Int) := by omega
          have hsm : (c : Int) + (fd.length : Int) ≤ 1048576 := by omega
          clear hbk
          go_wp2_with fail
          refine (CF.out _ ((Below.refl _ _).alloc (Nat.le_refl _) _)).mono ?_
          rintro e w2 ⟨rfl, hb2⟩
          have HB2 : Hid (Below W0.heap.size W0 w2) := (hbl.alloc hbl.size _).trans (hb2.mono (by simp; have := hbl.size; omega))
          have v3 := cellB (cellNew (w := wr) (cs := #[.int .i64 fp, .int .i64 fs, .slice aC fc.length cC, .slice aD fd.length cD]) (t := 46) (j := 3) (v := .slice aD fd.length cD) rfl) hb2
          clear hb2 CF
          cases bk with
          | false =>
            have BAD : Hid (¬ Fits p) := by
              show ¬ _
              intro h
              have := h.2.2.1 k (by rw [HNP.out]; exact hlt)
              rw [HD.out] at this
              have := HBK.out.2 this
              cases this
            clear HOK
            go_wp2_with fail
            go_returns
            exact ⟨ret_b (fin.out BAD.out), HW0.out.trans (HB2.out.mono HW0.out.size)⟩
          | true =>
            have HOK2 : Hid (∀ j, j < k + 1 → FitsP (p.protos.getD j pr0)) := by
              intro j hj
              by_cases e : j = k
              · rw [e, HD.out]; exact HBK.out.1 rfl
              · exact HOK.out j (by omega)
            clear HOK
            go_wp2_with fail
            go_roundw
            case rel => exact ⟨k + 1, by omega, by go_num, ⟨c + fd.length, by omega, by go_num, HC2.out⟩, HOK2.out, HB2.out⟩
            case measure => simp [intOf]; omega
        · have hkn : np = k := by omega
          have HFP : Hid (∀ i, i < p.protos.length → FitsP (p.protos.getD i pr0)) := fun i hi => HOK.out i (by rw [← hkn, ← HNP.out]; exact hi)
          have HCT : Hid (codes p.protos p.protos.length = c) := by show _ = _; rw [HNP.out, hkn]; exact HC.out
          clear HOK HC hkn
          obtain ⟨_, _, eP, _, rP⟩ := HP0.out.below hbl
          simp only [Value.slice.injEq] at eP
          obtain ⟨rfl, -, rfl⟩ := eP
          obtain ⟨b, off, uc, ud, rfl, c0, c1, c2, c3, hc, hd⟩ := rP 0 (by rw [HNP.out]; omega)
          simp only [Nat.zero_mul, Nat.add_zero] at c0 c1 c2 c3
          clear rP
          have HEND : Hid (Fits p ↔ c ≤ 20000 ∧ (p.protos.getD 0 pr0).params = 0 ∧ (p.protos.getD 0 pr0).caps.length = 0) := by
            constructor
            · intro h
              have := h.2.2.2
              rw [HCT.out] at this
              exact this
            · rintro ⟨h1, h2, h3⟩
              exact ⟨⟨by rw [HNP.out]; omega, by rw [HNP.out]; omega, by rw [HNK.out]; omega⟩, HFK.out, HFP.out, by rw [HCT.out]; exact h1, h2, h3⟩
          generalize p.protos.getD 0 pr0 = d at c0 c1 hc hd HEND
          obtain ⟨fp, fs, fc, fd⟩ := d
          simp only at c0 c1 hc hd HEND
          obtain ⟨aC, cC, rfl, hCl, _⟩ := hc
          obtain ⟨aD, cD, rfl, hDl, _⟩ := hd
          have HB : Hid (bS = true ↔ c ≤ 20000 ∧ fp = 0 ∧ fc.length = 0) := ⟨fun h => HEND.out.1 (HBS.out.1 h), fun h => HBS.out.2 (HEND.out.2 h)⟩
          have fin2 : Hid (¬ (c ≤ 20000 ∧ fp = 0 ∧ fc.length = 0) → false = bS) := fun h => fin.out (fun h' => h (HEND.out.1 h'))
          obtain ⟨lc, hlc⟩ : ∃ n, n = fc.length := ⟨_, rfl⟩
          rw [← hlc] at c2 HB fin2 hCl
          clear HEND HFP HCT hlc
          by_cases x1 : c ≤ 20000
          · have t1 : decide ((c : Int) ≤ 20000) = true := by simp; omega
            by_cases x2 : fp = 0
            · have t2 : (fp == 0) = true := by simpa using x2
              have HE : Hid (((lc : Int) == 0) = bS) := by
                show _ = _
                by_cases h : lc = 0
                · rw [h, HB.out.2 ⟨x1, x2, h⟩]; rfl
                · have e1 : ((lc : Int) == 0) = false := by simp; omega
                  rw [e1]
                  exact fin2.out (fun h' => h h'.2.2)
              clear fin fin2 x2 HB
              go_wp2_with fail
              go_returns
              exact ⟨ret_b (by first | exact HE.out | (rw [← HE.out]; simp)), HBW.out.alloc hsz _⟩
            · have t2 : (fp == 0) = false := by simpa using x2
              have HE : Hid (false = bS) := fin2.out (fun h' => x2 h'.2.1)
              clear fin fin2 HB
              go_wp2_with fail
              go_returns
              exact ⟨ret_b HE.out, HBW.out.alloc hsz _⟩
          · have t1 : decide ((c : Int) ≤ 20000) = false := by simp; omega
            have HE : Hid (false = bS) := fin2.out (fun h' => x1 h'.1)
            clear fin fin2 HB
            go_wp2_with fail
            go_returns
            exact ⟨ret_b HE.out, HBW.out.alloc hsz _⟩
end Go.Proofs.YteagakplhfiodaaDoor.chk
