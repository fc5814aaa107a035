import Derived.Test.YtpkgibdbkmddiaaDoorThClone
namespace Go.Proofs.YtpkgibdbkmddiaaDoor.th
open Go.RowKit Go.Proofs.YtpkgibdbkmddiaaDoor.bts Go.Proofs.YtpkgibdbkmddiaaDoor.pg Go.Proofs.YtpkgibdbkmddiaaDoor.chk Go.Proofs.YtpkgibdbkmddiaaDoor.sv

theorem map_getD {code : List In} {f : In → In} {j : Nat} (h : j < code.length) : (code.map f).getD j in0 = f (code.getD j in0) := by
  simp [List.getD_eq_getElem?_getD, List.getElem?_eq_getElem h]

set_option maxRecDepth 100000 in
set_option maxHeartbeats 4000000 in
theorem threadCode_any (v : Value) (code : List In) (w : World) (hd : RdIV w v code) (hN : code.length ≤ 1048576) (h0 : 0 < code.length) (hx : ∀ i, i < code.length → XOk code.length (code.getD i in0)) (hS : Shp w) (hw0 : 0 < w.heap.size) :
    Calls Tryd.prog 37 #[v] w fun e w' => ∃ av cv us, e = .returned (.slice av code.length cv) ∧ w'.ownsRow w.heap.size 65 3 (.slice av code.length cv) code.length us ∧ (∀ j, j < code.length → InAt us j (thI code (code.getD j in0))) ∧ Below w.heap.size w w' := by
  have HIN : Hid (In0 code) := fun a ha hj => by
    have h := (hx a ha).jmp (by have : (code.getD a in0).op = 18 := hj; omega) (by have : (code.getD a in0).op = 18 := hj; omega)
    unfold stp
    omega
  have HX : Hid (∀ i, i < code.length → XOk code.length (code.getD i in0)) := hx
  have HSH : Hid (∀ W, Below w.heap.size w W → Shp W) := fun W h => hS.below h hw0
  have CL : Hid (∀ W, Below w.heap.size w W → Calls Tryd.prog 58 #[v] W fun e w' => ∃ av cv, e = .returned (.slice av code.length cv) ∧ w'.ownsRow W.heap.size 65 3 (.slice av code.length cv) code.length (inRow code) ∧ Below W.heap.size W w') := fun W h => cloneI_any v code W (hd.below h) hN
  obtain ⟨aD, cD, rfl, _, hdr⟩ := hd
  have CE := chainEnds_any aD cD code w hdr hN h0 hx
  obtain ⟨N, hNN⟩ : ∃ N, N = code.length := ⟨_, rfl⟩
  have HN : Hid (code.length = N) := hNN.symm
  rw [← hNN] at hN h0 CE CL ⊢
  clear hdr hx hNN hS
  go_enter Tryd.func37, Tryd.ntmps37
  go_wp2_with fail
  refine CE.mono ?_
  rintro e w1 ⟨gE, E, rfl, oE, hE, b1⟩
  have HB1 : Hid (Below w.heap.size w w1) := b1
  have HOE : Hid (w1.ownsRow w.heap.size 3 1 (.slice (some ⟨gE, 0, none⟩) N N) N (ic E)) := oE
  have HE : Hid (E.length = N ∧ ∀ a, a < N → EndOf code a (E.getD a (-1))) := hE
  clear oE hE b1 CE
  have C := CL.out w1 HB1.out
  go_wp2_with fail
  refine C.mono ?_
  rintro e w2 ⟨av, cv, rfl, oT, b2⟩
  clear C
  obtain ⟨gT, cv', eT, hgT, _⟩ := oT.form h0
  simp only [Value.slice.injEq, true_and] at eT
  obtain ⟨rfl, rfl⟩ := eT
  have HB2 : Hid (Below w.heap.size w w2) := HB1.out.trans (b2.mono HB1.out.size)
  have hgE1 := (HOE.out.lt gE rfl)
  have HOE2 : Hid (w2.ownsRow w.heap.size 3 1 (.slice (some ⟨gE, 0, none⟩) N N) N (ic E)) := own_below HOE.out b2 hgE1.2
  have HOT : Hid (w2.ownsRow w1.heap.size 65 3 (.slice (some ⟨gT, 0, none⟩) N cv) N (inRow code)) := oT
  have hne : gT ≠ gE := by omega
  have hwT : w.heap.size ≤ gT := by have := HB1.out.size; omega
  clear oT b2 CL HOE
  go_wp2_with fail
  have HT0 : Hid (∀ j, j < N → InAt (inRow code) j (code.getD j in0)) := fun j hj => inRow_at (by rw [HN.out]; exact hj)
  go_loopw [13] (fun x wr => ∃ (k : Nat) (us : List Value), k ≤ N ∧ x = .int .i64 (k : Int) ∧ Hid (wr.ownsRow w1.heap.size 65 3 (.slice (some ⟨gT, 0, none⟩) N cv) N us) ∧ Hid (∀ j, j < k → InAt us j (thI code (code.getD j in0))) ∧ Hid (∀ j, k ≤ j → j < N → InAt us j (code.getD j in0)) ∧ Hid (wr.ownsRow w.heap.size 3 1 (.slice (some ⟨gE, 0, none⟩) N N) N (ic E)) ∧ Hid (Below w.heap.size w wr)) (fun x _ => N - (intOf x).toNat)
  case atStart => exact ⟨0, _, by omega, rfl, HOT.out, fun j hj => absurd hj (by omega), fun j _ hj => HT0.out j hj, HOE2.out, HB2.out⟩
  case round =>
    clear HOT HOE2 HB2
    obtain ⟨k, us, hk, rfl, HOT, HDO, HTO, HOE, HB⟩ := hrel
    by_cases hlt : k < N
    · have hlt' : (k : Int) < (N : Int) := by omega
      have hx := HX.out k (by rw [HN.out]; exact hlt)
      obtain ⟨q0, q1, q2⟩ := HTO.out k (Nat.le_refl _) hlt
      have HI : Hid (InO wr gT (k * 3) (code.getD k in0)) := ⟨(HOT.out.cellAt _ (by omega)).trans q0, (HOT.out.cellAt _ (by omega)).trans q1, (HOT.out.cellAt _ (by omega)).trans q2⟩
      have C := target_at gT (k * 3) code.length (code.getD k in0) hx wr (HSH.out wr HB.out) HI.out
      clear q0 q1 q2
      go_wp2_with fail
      refine C.mono ?_
      rintro e w3 ⟨rfl, b3⟩
      clear C
      have HB3 : Hid (Below w.heap.size w w3) := HB.out.trans (b3.mono HB.out.size)
      have HOT3 : Hid (w3.ownsRow w1.heap.size 65 3 (.slice (some ⟨gT, 0, none⟩) N cv) N us) := own_below HOT.out b3 (HOT.out.lt gT rfl).2
      have HOE3 : Hid (w3.ownsRow w.heap.size 3 1 (.slice (some ⟨gE, 0, none⟩) N N) N (ic E)) := own_below HOE.out b3 (HOE.out.lt gE rfl).2
      have c1 := cellB HI.out.2.1 b3
      have c2 := cellB HI.out.2.2 b3
      clear b3 HOT HOE HB HI
      have hj := hx.jmp
      have hl := hx.loop
      generalize hxk : code.getD k in0 = x at c1 c2 hj hl
      have HXK : Hid (code.getD k in0 = x) := hxk
      obtain ⟨xo, xa, xb⟩ := x
      simp only at c1 c2 hj hl
      unfold tpo
      simp only
      clear hxk hx
      rw [HN.out] at hj hl
      by_cases hcase : 18 ≤ xo ∧ xo ≤ 21
      · rw [if_pos hcase]
        obtain ⟨hA0, hA1⟩ := hj hcase.1 hcase.2
        obtain ⟨t, ht⟩ : ∃ t : Nat, xa = (t : Int) := ⟨xa.toNat, by omega⟩
        subst ht
        have htN : t < N := by omega
        have HLF : Hid ((lastF code t : Int) = if E.getD t (-1) = -2 then (t : Int) else E.getD t (-1)) := lastF_of HIN.out (by rw [HN.out]; exact htN) (HE.out.2 t htN)
        have cE := HOE3.out.cellAt t (by omega)
        rw [ic_at (by rw [HE.out.1]; exact htN)] at cE
        obtain ⟨z, hz⟩ : ∃ z, z = E.getD t (-1) := ⟨_, rfl⟩
        rw [← hz] at cE HLF
        have htN' : (t : Int) < (N : Int) := by omega
        clear hz hA0 hA1
        by_cases hzz : z = -2
        · have ez : (z != -2) = false := by simp [hzz]
          rw [if_pos hzz] at HLF
          have HTH : Hid (thI code (code.getD k in0) = code.getD k in0) := by show _ = _; rw [HXK.out]; unfold thI; simp only; rw [if_pos hcase]; simp only [Int.toNat_natCast, HLF.out]
          have HDN : Hid (∀ j, j < k + 1 → InAt us j (thI code (code.getD j in0))) := fun j hj => by
            by_cases e : j = k
            · rw [e, HTH.out]; exact HTO.out k (Nat.le_refl _) hlt
            · exact HDO.out j (by omega)
          clear hzz
          go_wp2_with fail
          go_roundw
          case rel => exact ⟨k + 1, us, by omega, by go_num, HOT3.out, HDN.out, fun j h1 h2 => HTO.out j (by omega) h2, HOE3.out, HB3.out⟩
          case measure => simp [intOf]; omega
        · have ez : (z != -2) = true := by simp [hzz]
          rw [if_neg hzz] at HLF
          have HTH : Hid (thI code (code.getD k in0) = ⟨xo, z, xb⟩) := by show _ = _; rw [HXK.out]; unfold thI; simp only; rw [if_pos hcase]; simp only [Int.toNat_natCast, HLF.out]
          have hul : us.length = N * 3 := HOT3.out.1
          have HDN : Hid (∀ j, j < k + 1 → InAt (us.set (k * 3 + 1) (.int .i64 z)) j (thI code (code.getD j in0))) := fun j hj => by
            by_cases e : j = k
            · rw [e, HTH.out]
              obtain ⟨q0, q1, q2⟩ := HTO.out k (Nat.le_refl _) hlt
              rw [HXK.out] at q0 q1 q2
              simp only at q0 q1 q2
              refine ⟨?_, ?_, ?_⟩
              · rw [List.getElem?_set_ne (by omega)]; exact q0
              · rw [List.getElem?_set_self (by omega)]
              · rw [List.getElem?_set_ne (by omega)]; exact q2
            · obtain ⟨q0, q1, q2⟩ := HDO.out j (by omega)
              refine ⟨?_, ?_, ?_⟩ <;> (rw [List.getElem?_set_ne (by omega)]; assumption)
          have HTN : Hid (∀ j, k + 1 ≤ j → j < N → InAt (us.set (k * 3 + 1) (.int .i64 z)) j (code.getD j in0)) := fun j h1 h2 => by
            obtain ⟨q0, q1, q2⟩ := HTO.out j (by omega) h2
            refine ⟨?_, ?_, ?_⟩ <;> (rw [List.getElem?_set_ne (by omega)]; assumption)
          have fT := HOT3.out.frozenAt (k * 3 + 1)
          have s1 := HOT3.out.stored (k * 3 + 1) (.int .i64 z)
          have HOT4 : Hid _ := s1.1
          have HOE4 : Hid ((w3.setCell ⟨gT, k * 3 + 1, none⟩ (.int .i64 z)).ownsRow w.heap.size 3 1 (.slice (some ⟨gE, 0, none⟩) N N) N (ic E)) := own_apart HOE3.out (fun b' e => Below.heap_setCell w3 ⟨gT, k * 3 + 1, none⟩ _ b' (fun e' => hne (Eq.trans (Eq.symm e') (Eq.symm (Option.some.inj e)))))
          have HB4 : Hid (Below w.heap.size w (w3.setCell ⟨gT, k * 3 + 1, none⟩ (.int .i64 z))) := HB3.out.setCell (p := ⟨gT, k * 3 + 1, none⟩) hwT _
          clear hzz s1
          go_wp2_with fail
          go_roundw
          case rel => exact ⟨k + 1, _, by omega, by go_num, HOT4.out, HDN.out, HTN.out, HOE4.out, HB4.out⟩
          case measure => simp [intOf]; omega
      · rw [if_neg hcase]
        by_cases hcase2 : 26 ≤ xo
        · rw [if_pos hcase2]
          obtain ⟨hA0, hA1⟩ := hl hcase2
          obtain ⟨t, ht⟩ : ∃ t : Nat, xb = (t : Int) := ⟨xb.toNat, by omega⟩
          subst ht
          have htN : t < N := by omega
          have HLF : Hid ((lastF code t : Int) = if E.getD t (-1) = -2 then (t : Int) else E.getD t (-1)) := lastF_of HIN.out (by rw [HN.out]; exact htN) (HE.out.2 t htN)
          have cE := HOE3.out.cellAt t (by omega)
          rw [ic_at (by rw [HE.out.1]; exact htN)] at cE
          obtain ⟨z, hz⟩ : ∃ z, z = E.getD t (-1) := ⟨_, rfl⟩
          rw [← hz] at cE HLF
          have htN' : (t : Int) < (N : Int) := by omega
          clear hz hA0 hA1
          by_cases hzz : z = -2
          · have ez : (z != -2) = false := by simp [hzz]
            rw [if_pos hzz] at HLF
            have HTH : Hid (thI code (code.getD k in0) = code.getD k in0) := by show _ = _; rw [HXK.out]; unfold thI; simp only; rw [if_neg hcase, if_pos hcase2]; simp only [Int.toNat_natCast, HLF.out]
            have HDN : Hid (∀ j, j < k + 1 → InAt us j (thI code (code.getD j in0))) := fun j hj => by
              by_cases e : j = k
              · rw [e, HTH.out]; exact HTO.out k (Nat.le_refl _) hlt
              · exact HDO.out j (by omega)
            clear hzz
            go_wp2_with fail
            go_roundw
            case rel => exact ⟨k + 1, us, by omega, by go_num, HOT3.out, HDN.out, fun j h1 h2 => HTO.out j (by omega) h2, HOE3.out, HB3.out⟩
            case measure => simp [intOf]; omega
          · have ez : (z != -2) = true := by simp [hzz]
            rw [if_neg hzz] at HLF
            have HTH : Hid (thI code (code.getD k in0) = ⟨xo, xa, z⟩) := by show _ = _; rw [HXK.out]; unfold thI; simp only; rw [if_neg hcase, if_pos hcase2]; simp only [Int.toNat_natCast, HLF.out]
            have hul : us.length = N * 3 := HOT3.out.1
            have HDN : Hid (∀ j, j < k + 1 → InAt (us.set (k * 3 + 2) (.int .i64 z)) j (thI code (code.getD j in0))) := fun j hj => by
              by_cases e : j = k
              · rw [e, HTH.out]
                obtain ⟨q0, q1, q2⟩ := HTO.out k (Nat.le_refl _) hlt
                rw [HXK.out] at q0 q1 q2
                simp only at q0 q1 q2
                refine ⟨?_, ?_, ?_⟩
                · rw [List.getElem?_set_ne (by omega)]; exact q0
                · rw [List.getElem?_set_ne (by omega)]; exact q1
                · rw [List.getElem?_set_self (by omega)]
              · obtain ⟨q0, q1, q2⟩ := HDO.out j (by omega)
                refine ⟨?_, ?_, ?_⟩ <;> (rw [List.getElem?_set_ne (by omega)]; assumption)
            have HTN : Hid (∀ j, k + 1 ≤ j → j < N → InAt (us.set (k * 3 + 2) (.int .i64 z)) j (code.getD j in0)) := fun j h1 h2 => by
              obtain ⟨q0, q1, q2⟩ := HTO.out j (by omega) h2
              refine ⟨?_, ?_, ?_⟩ <;> (rw [List.getElem?_set_ne (by omega)]; assumption)
            have fT := HOT3.out.frozenAt (k * 3 + 2)
            have s1 := HOT3.out.stored (k * 3 + 2) (.int .i64 z)
            have HOT4 : Hid _ := s1.1
            have HOE4 : Hid ((w3.setCell ⟨gT, k * 3 + 2, none⟩ (.int .i64 z)).ownsRow w.heap.size 3 1 (.slice (some ⟨gE, 0, none⟩) N N) N (ic E)) := own_apart HOE3.out (fun b' e => Below.heap_setCell w3 ⟨gT, k * 3 + 2, none⟩ _ b' (fun e' => hne (Eq.trans (Eq.symm e') (Eq.symm (Option.some.inj e)))))
            have HB4 : Hid (Below w.heap.size w (w3.setCell ⟨gT, k * 3 + 2, none⟩ (.int .i64 z))) := HB3.out.setCell (p := ⟨gT, k * 3 + 2, none⟩) hwT _
            clear hzz s1
            go_wp2_with fail
            go_roundw
            case rel => exact ⟨k + 1, _, by omega, by go_num, HOT4.out, HDN.out, HTN.out, HOE4.out, HB4.out⟩
            case measure => simp [intOf]; omega
        · rw [if_neg hcase2]
          have HTH : Hid (thI code (code.getD k in0) = code.getD k in0) := by show _ = _; rw [HXK.out]; unfold thI; simp only; rw [if_neg hcase, if_neg hcase2]
          have HDN : Hid (∀ j, j < k + 1 → InAt us j (thI code (code.getD j in0))) := fun j hj => by
            by_cases e : j = k
            · rw [e, HTH.out]; exact HTO.out k (Nat.le_refl _) hlt
            · exact HDO.out j (by omega)
          clear hj hl hcase hcase2
          go_wp2_with fail
          go_roundw
          case rel => exact ⟨k + 1, us, by omega, by go_num, HOT3.out, HDN.out, fun j h1 h2 => HTO.out j (by omega) h2, HOE3.out, HB3.out⟩
          case measure => simp [intOf]; omega
    · have hkn : k = N := by omega
      subst hkn
      go_wp2
      go_returns
      exact ⟨some ⟨gT, 0, none⟩, cv, us, rfl, own_weaken HOT.out HB1.out.size, HDO.out, HB.out⟩
end Go.Proofs.YtpkgibdbkmddiaaDoor.th
