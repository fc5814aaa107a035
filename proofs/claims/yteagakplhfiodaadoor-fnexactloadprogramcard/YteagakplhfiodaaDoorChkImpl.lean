import Derived.Test.YteagakplhfiodaaDoorChkFitsB
import Derived.Test.YteagakplhfiodaaDoorChkImplD
import Derived.Test.YteagakplhfiodaaDoorChkFlows
namespace Go.Proofs.YteagakplhfiodaaDoor.chk
open Go.RowKit Go.Proofs.YteagakplhfiodaaDoor.bts Go.Proofs.YteagakplhfiodaaDoor.pg

set_option maxRecDepth 100000 in
set_option maxHeartbeats 4000000 in
theorem implCheck_any (p : Pg) (uk up : Value) (w : World) (hk : RdKV w uk p.consts) (hp : RdPV w up p.protos) (hs : sizePg p ≤ 1048576) (hS : Shp w) (hw0 : 2 < w.heap.size) (bS : Bool) (HBS : Hid (bS = true ↔ Sound p)) :
    Calls Tryd.prog 18 #[.agg #[uk, up]] w fun e w' => e = .returned (.bool bS) ∧ Below w.heap.size w w' := by
  have HKV : Hid (RdKV w uk p.consts) := hk
  have HPV : Hid (RdPV w up p.protos) := hp
  have hsP : sizeP p.protos ≤ 1048576 := by unfold sizePg at hs; omega
  have hnp : p.protos.length ≤ 1048576 := by unfold sizeP at hsP; omega
  have HSP : Hid (sizeP p.protos ≤ 1048576) := hsP
  obtain ⟨bf, hbf⟩ : ∃ bf : Bool, bf = true ↔ Fits p := by
    by_cases h : Fits p
    · exact ⟨true, by simp [h]⟩
    · exact ⟨false, by simp [h]⟩
  have CF : Hid (∀ W, Below w.heap.size w W → Calls Tryd.prog 37 #[.agg #[uk, up]] W fun e w' => e = .returned (.bool bf) ∧ Below W.heap.size W w') := fun W hW => progFits_any p uk up W (hk.below hW) (hp.below hW) hs bf hbf
  have HBF : Hid (bf = true ↔ Fits p) := hbf
  have HSH : Hid (Shp w) := hS
  obtain ⟨ak, ck, rfl, _, _⟩ := hk
  obtain ⟨ap, cp, rfl, _, _⟩ := hp
  obtain ⟨nk, hnkE⟩ : ∃ n, n = p.consts.length := ⟨_, rfl⟩
  obtain ⟨np, hnpE⟩ : ∃ n, n = p.protos.length := ⟨_, rfl⟩
  have HNK : Hid (p.consts.length = nk) := hnkE.symm
  have HNP : Hid (p.protos.length = np) := hnpE.symm
  rw [← hnkE] at HKV CF ⊢
  rw [← hnpE] at hnp HPV CF ⊢
  clear hs hsP hnkE hnpE hbf hS
  have fin : Hid (¬ Sound p → false = bS) := by
    intro h
    cases bS with
    | false => rfl
    | true => exact absurd (HBS.out.1 rfl) h
  obtain ⟨W0, hW0⟩ : ∃ W0, W0 = w.alloc (.cells #[.slice ak nk ck, .slice ap np cp] 26) := ⟨_, rfl⟩
  have z0 : W0.cell? ⟨w.heap.size, 0, none⟩ = some (.slice ak nk ck) := by rw [hW0]; exact cellNew rfl
  have z1 : W0.cell? ⟨w.heap.size, 1, none⟩ = some (.slice ap np cp) := by rw [hW0]; exact cellNew rfl
  have HW0 : Hid (Below w.heap.size w W0) := by rw [hW0]; exact (Below.refl _ _).alloc (Nat.le_refl _) _
  have HK0 : Hid (RdKV W0 (.slice ak nk ck) p.consts) := HKV.out.below HW0.out
  have HP0 : Hid (RdPV W0 (.slice ap np cp) p.protos) := HPV.out.below HW0.out
  have HS0 : Hid (Shp W0) := HSH.out.below HW0.out hw0
  have CF0 := CF.out W0 HW0.out
  have HWX : Hid (W0 = w.alloc (.cells #[.slice ak nk ck, .slice ap np cp] 26)) := hW0
  clear HKV HPV hW0 CF HSH
  go_enter Tryd.func18, Tryd.ntmps18
  go_wp2_with fail
  rw [← HWX.out]
  refine CF0.mono ?_
  rintro e w1 ⟨rfl, hb1⟩
  have y0 := cellB z0 hb1
  have y1 := cellB z1 hb1
  have HB1 : Hid (Below W0.heap.size W0 w1) := hb1
  have HBw : Hid (Below w.heap.size w w1) := HW0.out.trans (hb1.mono HW0.out.size)
  have z0' := z0
  have z1' := z1
  clear CF0 hb1 z0 z1
  cases bf with
  | false =>
    have BAD : Hid (¬ Sound p) := by show ¬ _; intro h; have := HBF.out.2 h.1; cases this
    go_wp2_with fail
    go_returns
    exact ⟨ret_b (fin.out BAD.out), HBw.out⟩
  | true =>
    have HFIT : Hid (Fits p) := HBF.out.1 rfl
    go_wp2_with fail
    go_loopw [12] (fun x wr => ∃ k : Nat, k ≤ np ∧ x = .int .i64 k ∧ Hid (∀ j, j < k → FnOk p (p.protos.getD j pr0)) ∧ Below W0.heap.size W0 wr) (fun x _ => np - (intOf x).toNat)
    case atStart => exact ⟨0, Nat.zero_le _, rfl, fun j hj => absurd hj (by omega), HB1.out⟩
    case round =>
      clear y0 y1 HB1 HBw
      obtain ⟨k, hk, rfl, HOK, hbl⟩ := hrel
      have r0 := cellB z0' hbl
      have r1 := cellB z1' hbl
      have HBW : Hid (Below w.heap.size w wr) := HW0.out.trans (hbl.mono HW0.out.size)
      have hsz := HBW.out.size
      by_cases hlt : k < np
      · have HP1 : Hid (RdPV wr (.slice ap np cp) p.protos) := HP0.out.below hbl
        have HS1 : Hid (Shp wr) := HS0.out.below hbl (by have := HW0.out.size; omega)
        obtain ⟨_, _, eP, _, rP⟩ := HP0.out.below hbl
        simp only [Value.slice.injEq] at eP
        obtain ⟨rfl, -, rfl⟩ := eP
        have HRP : Hid (RdP wr _ p.protos) := rP
        obtain ⟨b, off, uc, ud, rfl, c0, c1, c2, c3, hc, hd⟩ := rP k (by rw [HNP.out]; exact hlt)
        clear rP
        have HFF : Hid (FitsP (p.protos.getD k pr0)) := HFIT.out.2.2.1 k (by rw [HNP.out]; exact hlt)
        have HCL : Hid ((p.protos.getD k pr0).code.length ≤ 1048576) := by
          show _ ≤ _
          have e1 := codes_succ (l := p.protos) (k := k) (by rw [HNP.out]; exact hlt)
          have e2 := codes_le p.protos (k + 1) (by rw [HNP.out]; omega)
          have e3 := HSP.out
          omega
        generalize hD : p.protos.getD k pr0 = d at c0 c1 hc hd HFF HCL
        have HD : Hid (p.protos.getD k pr0 = d) := hD
        clear hD
        obtain ⟨fp, fs, fc, fd⟩ := d
        simp only at c0 c1 hc hd HCL
        obtain ⟨aC, cC, rfl, hCl, _⟩ := hc
        obtain ⟨aD, cD, rfl, hDl, rD⟩ := hd
        have HRI : Hid (RdI wr aD fd) := rD
        have hlt' : (k : Int) < (np : Int) := by omega
        obtain ⟨g, hg⟩ : ∃ g, g = wr.heap.size + 1 := ⟨_, rfl⟩
        obtain ⟨W1, hW1⟩ : ∃ W1, W1 = (wr.alloc (.cells #[.int .i64 fp, .int .i64 fs, .slice aC fc.length cC, .slice aD fd.length cD] 46)).alloc (.cells #[.slice ak nk ck, .slice (some ⟨b, off, none⟩) np cp, .int .i64 fp, .int .i64 fs, .slice aC fc.length cC, .slice aD fd.length cD, .slice none 0 0, .slice none 0 0] 83) := ⟨_, rfl⟩
        have CK1 : Ck W1 g (.slice ak nk ck) (.slice (some ⟨b, off, none⟩) np cp) fp fs (.slice aC fc.length cC) (.slice aD fd.length cD) (.slice none 0 0) (.slice none 0 0) := by
          unfold Ck
          rw [hW1, hg]
          have := heap_alloc_new (wr.alloc (.cells #[.int .i64 fp, .int .i64 fs, .slice aC fc.length cC, .slice aD fd.length cD] 46)) (.cells #[.slice ak nk ck, .slice (some ⟨b, off, none⟩) np cp, .int .i64 fp, .int .i64 fs, .slice aC fc.length cC, .slice aD fd.length cD, .slice none 0 0, .slice none 0 0] 83)
          simpa using this
        have hb1 : Below wr.heap.size wr W1 := by rw [hW1]; exact ((Below.refl _ _).alloc (Nat.le_refl _) _).alloc (by simp) _
        rw [← HNK.out, ← HNP.out] at CK1
        have hpos : ∀ i, i < p.protos.length → ∀ j, j < (p.protos.getD i pr0).caps.length → 0 ≤ ((p.protos.getD i pr0).caps.getD j cp0).index := fun i hi j hj => ((HFIT.out.2.2.1 i hi).2.2.2.2.2 j hj).1
        have hf0 : 0 ≤ fs := by have e1 := HFF.out.1; have e2 := HFF.out.2.1; simp only at e1 e2; omega
        have hf1 : fs ≤ 200 := HFF.out.2.2.1
        have hf5 : 0 < fd.length := HFF.out.2.2.2.2.1
        obtain ⟨ba, hba⟩ : ∃ ba : Bool, ba = true ↔ ∀ i, i < fd.length → insOK p ⟨fp, fs, fc, fd⟩ (fd.getD i in0) = true := by
          by_cases h : ∀ i, i < fd.length → insOK p ⟨fp, fs, fc, fd⟩ (fd.getD i in0) = true
          · exact ⟨true, ⟨fun _ => h, fun _ => rfl⟩⟩
          · exact ⟨false, ⟨fun e => (by cases e), fun h' => absurd h' h⟩⟩
        have HBA : Hid (ba = true ↔ ∀ i, i < fd.length → insOK p ⟨fp, fs, fc, fd⟩ (fd.getD i in0) = true) := hba
        have KA := knowsAll_any g p ⟨fp, fs, fc, fd⟩ ak (some ⟨b, off, none⟩) aC aD ck cp cC cD (.slice none 0 0) (.slice none 0 0) hf0 hf1 W1 CK1 (HS1.out.below hb1 (by have := HW0.out.size; have := hbl.size; omega)) (HRP.out.below hb1) (HRI.out.below hb1) HCL.out (by rw [HNP.out]; exact hnp) hpos ba hba
        have FL : Hid (∀ W, Below W1.heap.size W1 W → (∀ i, i < fd.length → insOK p ⟨fp, fs, fc, fd⟩ (fd.getD i in0) = true) → ∀ bb : Bool, (bb = true ↔ Good (suN fd) fd.length) → Calls Tryd.prog 39 #[.pointer (some ⟨g, 0, none⟩)] W fun e w' => e = .returned (.bool bb) ∧ Below g W w') := by
          intro W hW hall bb hbb
          have hgl := CK1.lt
          have hsW := hW.size
          have hg1 : 2 < g := by omega
          refine callsIn_wide.1 (flows_in 3 (Nat.le_refl _) g _ _ _ aD cD fp fs fd W (CK1.below hW hgl) hg1 (HS1.out.below (hb1.trans (hW.mono hb1.size)) (by have := HW0.out.size; have := hbl.size; omega)) (fun W' hW' => ?_) (fun i hi => insOK_ok (hall i hi)) hf5 HCL.out bb hbb)
          have e1 : Below wr.heap.size wr W := hb1.trans (hW.mono hb1.size)
          have e2 : Below wr.heap.size W W' := hW'.mono (by omega)
          exact HRI.out.below (e1.trans e2)
        have HB1 : Hid (Below wr.heap.size wr W1) := hb1
        have HCK : Hid (g < W1.heap.size) := CK1.lt
        have HG : Hid (g = wr.heap.size + 1) := hg
        have HWX1 : Hid (W1 = (wr.alloc (.cells #[.int .i64 fp, .int .i64 fs, .slice aC fc.length cC, .slice aD fd.length cD] 46)).alloc (.cells #[.slice ak nk ck, .slice (some ⟨b, off, none⟩) np cp, .int .i64 fp, .int .i64 fs, .slice aC fc.length cC, .slice aD fd.length cD, .slice none 0 0, .slice none 0 0] 83)) := hW1
        have v0 := cellOld (o := .cells #[.int .i64 fp, .int .i64 fs, .slice aC fc.length cC, .slice aD fd.length cD] 46) r0
        have v1 := cellOld (o := .cells #[.int .i64 fp, .int .i64 fs, .slice aC fc.length cC, .slice aD fd.length cD] 46) r1
        clear CK1 hb1 hpos hba rD hW1 hg
        go_wp2_with fail
        rw [← HWX1.out, ← HG.out]
        refine KA.mono ?_
        rintro e w2 ⟨rfl, hb2⟩
        have HB2 : Hid (Below W1.heap.size W1 w2) := hb2
        have HB2w : Hid (Below W0.heap.size W0 w2) := (hbl.trans (HB1.out.mono hbl.size)).trans (hb2.mono (Nat.le_trans hbl.size HB1.out.size))
        clear hb2 KA r0 r1 v0 v1 c0 c1 c2 c3
        cases ba with
        | false =>
          have BAD : Hid (¬ Sound p) := by
            show ¬ _
            intro h
            have h6 := (h.2 k (by rw [HNP.out]; exact hlt)).1
            rw [HD.out] at h6
            have := HBA.out.2 h6
            cases this
          clear HOK
          go_wp2_with fail
          go_returns
          exact ⟨ret_b (fin.out BAD.out), HW0.out.trans (HB2w.out.mono HW0.out.size)⟩
        | true =>
          obtain ⟨bb, hbb⟩ : ∃ bb : Bool, bb = true ↔ Good (suN fd) fd.length := by
            by_cases h : Good (suN fd) fd.length
            · exact ⟨true, ⟨fun _ => h, fun _ => rfl⟩⟩
            · exact ⟨false, ⟨fun e => (by cases e), fun h' => absurd h' h⟩⟩
          have HGB : Hid (bb = true ↔ Good (suN fd) fd.length) := hbb
          have CF := FL.out w2 HB2.out (HBA.out.1 rfl) bb hbb
          clear FL hbb
          go_wp2_with fail
          refine CF.mono ?_
          rintro e w3 ⟨rfl, hb3⟩
          have HB3 : Hid (Below W0.heap.size W0 w3) := HB2w.out.trans (hb3.mono (by have := HG.out; have := hbl.size; omega))
          clear hb3 CF
          cases bb with
          | false =>
            have BAD : Hid (¬ Sound p) := by
              show ¬ _
              intro h
              have h6 := (h.2 k (by rw [HNP.out]; exact hlt)).2
              rw [HD.out] at h6
              have := HGB.out.2 h6
              cases this
            clear HOK
            go_wp2_with fail
            go_returns
            exact ⟨ret_b (fin.out BAD.out), HW0.out.trans (HB3.out.mono HW0.out.size)⟩
          | true =>
            have HOK2 : Hid (∀ j, j < k + 1 → FnOk p (p.protos.getD j pr0)) := by
              intro j hj
              by_cases e : j = k
              · rw [e, HD.out]; exact ⟨HBA.out.1 (by first | rfl | trivial), HGB.out.1 (by first | rfl | trivial)⟩
              · exact HOK.out j (by omega)
            clear HOK
            go_wp2_with fail
            go_roundw
            case rel => exact ⟨k + 1, by omega, by go_num, HOK2.out, HB3.out⟩
            case measure => simp [intOf]; omega
      · have hkn : k = np := by omega
        have SND : Hid (true = bS) := (HBS.out.2 ⟨HFIT.out, fun i hi => HOK.out i (by rw [hkn, ← HNP.out]; exact hi)⟩).symm
        clear HOK
        go_wp2_with fail
        go_returns
        exact ⟨ret_b SND.out, HBW.out⟩
end Go.Proofs.YteagakplhfiodaaDoor.chk
