import Derived.Test.YteagakplhfiodaaDoorThMarkB
namespace Go.Proofs.YteagakplhfiodaaDoor.th
open Go.RowKit Go.Proofs.YteagakplhfiodaaDoor.bts Go.Proofs.YteagakplhfiodaaDoor.pg Go.Proofs.YteagakplhfiodaaDoor.chk Go.Proofs.YteagakplhfiodaaDoor.sv

def wt (d : Nat → Pr) (j : Nat) : Nat := 2 * (d j).caps.length + 3 * (d j).code.length
/-- All of it lies from B on and below M. -/
def UnderP (M : Nat) (v : Value) (n : Nat) (uc ud : Nat → Value) : Prop := (∀ b, v.ownBlock = some b → b < M) ∧ (∀ j, j < n → ∀ b, (uc j).ownBlock = some b → b < M) ∧ ∀ j, j < n → ∀ b, (ud j).ownBlock = some b → b < M

/-- Functions that are marked from k0 on. -/
structure MdP (w : World) (B : Nat) (v : Value) (n : Nat) (nc nd : Nat → Nat) (uc ud : Nat → Value) (k0 : Int) : Prop where
  row : ∃ us, w.ownsRow B 46 4 v n us ∧ ∀ j, j < n → us[j * 4]? = some (.int .i64 (k0 + 2 * (j : Int) + (sumN (fun j => 2 * nc j + 3 * nd j) j : Int))) ∧ us[j * 4 + 1]? = some (.int .i64 (k0 + 2 * (j : Int) + (sumN (fun j => 2 * nc j + 3 * nd j) j : Int) + 1)) ∧ us[j * 4 + 2]? = some (uc j) ∧ us[j * 4 + 3]? = some (ud j)
  caps : ∀ j, j < n → IsS (uc j) (nc j) ∧ ∃ us, w.ownsRow B 48 2 (uc j) (nc j) us ∧ CpMk us (k0 + 2 * (j : Int) + (sumN (fun j => 2 * nc j + 3 * nd j) j : Int) + 1 + 1) (nc j)
  code : ∀ j, j < n → IsS (ud j) (nd j) ∧ ∃ us, w.ownsRow B 50 3 (ud j) (nd j) us ∧ InMk us (k0 + 2 * (j : Int) + (sumN (fun j => 2 * nc j + 3 * nd j) j : Int) + 1 + 1 + 2 * (nc j : Int)) (nd j)

set_option maxRecDepth 100000 in
set_option maxHeartbeats 4000000 in
theorem markProtoS_ex (a : Option Addr) (c n B M : Nat) (d : Nat → Pr) (uc ud : Nat → Value) (k0 : Int) (h0 : 0 ≤ k0) (h1 : k0 ≤ 4194304) (w : World) (h : BP w B (.slice a n c) n d uc ud) (hU : UnderP M (.slice a n c) n uc ud) (hn : n ≤ 1048576) (hs : sumN (fun j => 2 * (d j).caps.length + 3 * (d j).code.length) n ≤ 4194304) :
    Calls Tryd.prog 22 #[.slice a n c, .int .i64 k0] w fun e w' => e = .returned (.int .i64 (k0 + 2 * (n : Int) + (sumN (fun j => 2 * (d j).caps.length + 3 * (d j).code.length) n : Int))) ∧ MdP w' B (.slice a n c) n (fun j => (d j).caps.length) (fun j => (d j).code.length) uc ud k0 ∧ On B M w w' := by
  obtain ⟨xs, hown, hxs⟩ := h.row
  have HU : Hid (UnderP M (.slice a n c) n uc ud) := hU
  have HTC : Hid (∀ j, j < n → IsS (uc j) (d j).caps.length ∧ ∃ ys, w.ownsRow B 48 2 (uc j) (d j).caps.length ys) := fun j hj => by
    obtain ⟨h1, us, h2, _⟩ := h.caps j hj
    exact ⟨h1, us, h2⟩
  have HTD : Hid (∀ j, j < n → IsS (ud j) (d j).code.length ∧ ∃ ys, w.ownsRow B 50 3 (ud j) (d j).code.length ys) := fun j hj => by
    obtain ⟨h1, us, h2, _⟩ := h.code j hj
    exact ⟨h1, us, h2⟩
  have HAC : Hid (Apart n uc) := h.apartC
  have HAD : Hid (Apart n ud) := h.apartD
  have HCR : Hid (∀ i j, i < n → j < n → ∀ b, (uc i).ownBlock = some b → (ud j).ownBlock ≠ some b) := h.cross
  have HSC : Hid (Clear n (.slice a n c) uc) := h.spineC
  have HSD : Hid (Clear n (.slice a n c) ud) := h.spineD
  have HX3 : Hid (∀ j, j < n → xs[j * 4 + 2]? = some (uc j) ∧ xs[j * 4 + 3]? = some (ud j)) := fun j hj => (hxs j hj).2.2
  have HO : Hid (w.ownsRow B 46 4 (.slice a n c) n xs) := hown
  obtain ⟨nc, hnc⟩ : ∃ nc : Nat → Nat, nc = fun j => (d j).caps.length := ⟨_, rfl⟩
  obtain ⟨nd, hnd⟩ : ∃ nd : Nat → Nat, nd = fun j => (d j).code.length := ⟨_, rfl⟩
  have hwt : (fun j => 2 * (d j).caps.length + 3 * (d j).code.length) = fun j => 2 * nc j + 3 * nd j := by rw [hnc, hnd]
  have HTC2 : Hid (∀ j, j < n → IsS (uc j) (nc j) ∧ ∃ ys, w.ownsRow B 48 2 (uc j) (nc j) ys) := by rw [hnc]; exact HTC.out
  have HTD2 : Hid (∀ j, j < n → IsS (ud j) (nd j) ∧ ∃ ys, w.ownsRow B 50 3 (ud j) (nd j) ys) := by rw [hnd]; exact HTD.out
  rw [hwt] at hs
  rw [hwt, ← hnc, ← hnd]
  clear h hU hxs hown HTC HTD hnc hnd hwt
  have HSZ : Hid (∀ j, j ≤ n → sumN (fun j => 2 * nc j + 3 * nd j) j ≤ 4194304) := fun j hj => Nat.le_trans (sumN_mono _ hj) hs
  obtain ⟨W, hW⟩ : ∃ W : Nat → Nat, W = sumN (fun j => 2 * nc j + 3 * nd j) := ⟨_, rfl⟩
  have HW : Hid (sumN (fun j => 2 * nc j + 3 * nd j) = W) := hW.symm
  clear hW hs
  go_enter Tryd.func22, Tryd.ntmps22
  go_wp2
  go_loopw [1, 5] (fun q i wr => ∃ (k S : Nat) (us : List Value), k ≤ n ∧ S ≤ 4194304 ∧ i = .int .i64 k ∧ q = .int .i64 (k0 + 2 * (k : Int) + (S : Int)) ∧ Hid (S = W k) ∧ Hid (wr.ownsRow B 46 4 (.slice a n c) n us) ∧ Hid (∀ j, j < n → us[j * 4 + 2]? = some (uc j) ∧ us[j * 4 + 3]? = some (ud j)) ∧ Hid (∀ j, j < k → us[j * 4]? = some (.int .i64 (k0 + 2 * (j : Int) + (W j : Int))) ∧ us[j * 4 + 1]? = some (.int .i64 (k0 + 2 * (j : Int) + (W j : Int) + 1)) ∧ (∃ ys, wr.ownsRow B 48 2 (uc j) (nc j) ys ∧ CpMk ys (k0 + 2 * (j : Int) + (W j : Int) + 1 + 1) (nc j)) ∧ ∃ ys, wr.ownsRow B 50 3 (ud j) (nd j) ys ∧ InMk ys (k0 + 2 * (j : Int) + (W j : Int) + 1 + 1 + 2 * (nc j : Int)) (nd j)) ∧ Hid (∀ j, k ≤ j → j < n → (∃ ys, wr.ownsRow B 48 2 (uc j) (nc j) ys) ∧ ∃ ys, wr.ownsRow B 50 3 (ud j) (nd j) ys) ∧ Hid (On B M w wr)) (fun _ i _ => n - (intOf i).toNat)
  case atStart => exact ⟨0, 0, xs, Nat.zero_le _, by omega, rfl, by go_num, by show _ = _; rw [← HW.out]; rfl, HO.out, HX3.out, fun j hj => absurd hj (by omega), fun j _ hj => ⟨(HTC2.out j hj).2, (HTD2.out j hj).2⟩, On.refl _ _ _⟩
  case round =>
    clear HO HX3
    obtain ⟨k, S, us, hk, hS, rfl, rfl, HS, HO, HX3, HM, HT, HON⟩ := hrel
    by_cases hlt : k < n
    · obtain ⟨g, cap, e, hgB, _⟩ := HO.out.form (by omega)
      simp only [Value.slice.injEq, true_and] at e
      obtain ⟨rfl, rfl⟩ := e
      have hgM : g < M := HU.out.1 g rfl
      have HL : Hid (us.length = n * 4) := HO.out.1
      have hl := HL.out
      have f0 := HO.out.frozenAt (k * 4)
      have f1 := HO.out.frozenAt (k * 4 + 1)
      have e0 := HO.out.cellAt (k * 4) (by omega)
      have e1 := HO.out.cellAt (k * 4 + 1) (by omega)
      have e2 := (HO.out.cellAt (k * 4 + 2) (by omega)).trans (HX3.out k hlt).1
      have e3 := (HO.out.cellAt (k * 4 + 3) (by omega)).trans (HX3.out k hlt).2
      rw [List.getElem?_eq_getElem (by omega)] at e0 e1
      generalize us[k * 4]'(by omega) = u0 at e0
      generalize us[k * 4 + 1]'(by omega) = u1 at e1
      obtain ⟨⟨ta, tc, et⟩, _⟩ := HTC2.out k hlt
      obtain ⟨⟨va, vc, ev⟩, _⟩ := HTD2.out k hlt
      have HET : Hid (uc k = .slice ta (nc k) tc) := et
      have HEV : Hid (ud k = .slice va (nd k) vc) := ev
      rw [et] at e2
      rw [ev] at e3
      have hlk : S + (2 * nc k + 3 * nd k) ≤ 4194304 := by have := HSZ.out (k + 1) (by omega); rw [HS.out, ← HW.out]; exact this
      have HS2 : Hid (S + (2 * nc k + 3 * nd k) = W (k + 1)) := by show _ = _; rw [HS.out, ← HW.out]; rfl
      have s0 := HO.out.stored (k * 4) (.int .i64 (k0 + 2 * (k : Int) + (S : Int)))
      have s1 := s0.1.stored (k * 4 + 1) (.int .i64 (k0 + 2 * (k : Int) + (S : Int) + 1))
      obtain ⟨WX, hWX⟩ : ∃ WX, WX = (wr.setCell ⟨g, k * 4, none⟩ (.int .i64 (k0 + 2 * (k : Int) + (S : Int)))).setCell ⟨g, k * 4 + 1, none⟩ (.int .i64 (k0 + 2 * (k : Int) + (S : Int) + 1)) := ⟨_, rfl⟩
      have HG : Hid (wr.grownBy WX (some g)) := by rw [hWX]; exact grown_step s0.2 s1.2
      obtain ⟨vs, hvs⟩ : ∃ vs, vs = (us.set (k * 4) (.int .i64 (k0 + 2 * (k : Int) + (S : Int)))).set (k * 4 + 1) (.int .i64 (k0 + 2 * (k : Int) + (S : Int) + 1)) := ⟨_, rfl⟩
      have HO2 : Hid (WX.ownsRow B 46 4 (.slice (some ⟨g, 0, none⟩) n c) n vs) := by rw [hWX, hvs]; exact s1.1
      have HV : Hid ((∀ j, j < n → vs[j * 4 + 2]? = some (uc j) ∧ vs[j * 4 + 3]? = some (ud j)) ∧ (∀ j, j < n → j ≠ k → vs[j * 4]? = us[j * 4]? ∧ vs[j * 4 + 1]? = us[j * 4 + 1]?) ∧ vs[k * 4]? = some (.int .i64 (k0 + 2 * (k : Int) + (S : Int))) ∧ vs[k * 4 + 1]? = some (.int .i64 (k0 + 2 * (k : Int) + (S : Int) + 1))) := by
        rw [hvs]
        refine ⟨fun j hj => ⟨?_, ?_⟩, fun j hj hne => ⟨?_, ?_⟩, ?_, ?_⟩
        · rw [List.getElem?_set_ne (by omega), List.getElem?_set_ne (by omega)]; exact (HX3.out j hj).1
        · rw [List.getElem?_set_ne (by omega), List.getElem?_set_ne (by omega)]; exact (HX3.out j hj).2
        · rw [List.getElem?_set_ne (by omega), List.getElem?_set_ne (by omega)]
        · rw [List.getElem?_set_ne (by omega), List.getElem?_set_ne (by omega)]
        · rw [List.getElem?_set_ne (by omega), List.getElem?_set_self (by omega)]
        · rw [List.getElem?_set_self (by rw [List.length_set]; omega)]
      have HKC : Hid (∀ j, j < n → ∀ zs, wr.ownsRow B 48 2 (uc j) (nc j) zs → WX.ownsRow B 48 2 (uc j) (nc j) zs) := fun j hj zs hz => own_hold hz (fun b _ h2 e => HG.out.block b h2 (fun e' => by cases e'; exact HSC.out j hj g rfl e))
      have HKD : Hid (∀ j, j < n → ∀ zs, wr.ownsRow B 50 3 (ud j) (nd j) zs → WX.ownsRow B 50 3 (ud j) (nd j) zs) := fun j hj zs hz => own_hold hz (fun b _ h2 e => HG.out.block b h2 (fun e' => by cases e'; exact HSD.out j hj g rfl e))
      obtain ⟨⟨yc, hyc⟩, ⟨yd, hyd⟩⟩ := HT.out k (Nat.le_refl _) hlt
      have C := markCaptureS_ex (uc k) (nc k) B yc (k0 + 2 * (k : Int) + (S : Int) + 1 + 1) (by omega) (by omega) WX (HTC2.out k hlt).1 (HKC.out k hlt yc hyc) (by omega)
      rw [HET.out] at C
      have HYD : Hid (wr.ownsRow B 50 3 (ud k) (nd k) yd) := hyd
      have hd3 : WX.cell? ⟨g, k * 4 + 3, none⟩ = some (.slice va (nd k) vc) := by rw [HO2.out.cellAt _ (by omega), (HV.out.1 k hlt).2, ev]
      have HWX : Hid (WX = (wr.setCell ⟨g, k * 4, none⟩ (.int .i64 (k0 + 2 * (k : Int) + (S : Int)))).setCell ⟨g, k * 4 + 1, none⟩ (.int .i64 (k0 + 2 * (k : Int) + (S : Int) + 1))) := hWX
      clear s0 s1 hyc hyd et ev hWX hvs
      have hlt' : (k : Int) < (n : Int) := by omega
      go_wp2_with fail
      rw [← HWX.out]
      refine C.mono ?_
      rintro e w2 ⟨rfl, ⟨zc, o2, m2⟩, g2⟩
      clear C e0 e1 e2 e3 f0 f1
      rw [← HET.out] at o2 g2
      have HG2 : Hid (WX.grownBy w2 (uc k).ownBlock) := g2
      have HO3 : Hid (w2.ownsRow B 46 4 (.slice (some ⟨g, 0, none⟩) n c) n vs) := own_hold HO2.out (fun b _ h2 e => g2.block b h2 (fun e' => by cases e; exact HSC.out k hlt g rfl e'.symm))
      have HKC2 : Hid (∀ j, j < n → j ≠ k → ∀ zs, wr.ownsRow B 48 2 (uc j) (nc j) zs → w2.ownsRow B 48 2 (uc j) (nc j) zs) := fun j hj hne zs hz => own_hold (HKC.out j hj zs hz) (fun b _ h2 e => HG2.out.block b h2 (fun e' => HAC.out j k hj hlt hne b e e'.symm))
      have HKD2 : Hid (∀ j, j < n → ∀ zs, wr.ownsRow B 50 3 (ud j) (nd j) zs → w2.ownsRow B 50 3 (ud j) (nd j) zs) := fun j hj zs hz => own_hold (HKD.out j hj zs hz) (fun b _ h2 e => HG2.out.block b h2 (fun e' => HCR.out k j hlt hj b e'.symm e))
      have HON2 : Hid (On B M w w2) := (HON.out.grown HG.out (by have := (HO.out.lt g rfl).2; omega) (fun k' hk' => by cases hk'; exact hgB) (fun k' hk' => by cases hk'; exact hgM)).grown g2 (by have := (HO2.out.lt g rfl).2; omega) (fun k' hk' => (o2.lt k' hk').1) (fun k' hk' => HU.out.2.1 k hlt k' hk')
      have HOC : Hid (w2.ownsRow B 48 2 (uc k) (nc k) zc) := o2
      have HMC : Hid (CpMk zc (k0 + 2 * (k : Int) + (S : Int) + 1 + 1) (nc k)) := m2
      have d3 : w2.cell? ⟨g, k * 4 + 3, none⟩ = some (.slice va (nd k) vc) := by rw [HO3.out.cellAt _ (by omega), (HV.out.1 k hlt).2, HEV.out]
      have C := markInsS_ex (ud k) (nd k) B yd (k0 + 2 * (k : Int) + (S : Int) + 1 + 1 + 2 * (nc k : Int)) (by omega) (by omega) w2 (HTD2.out k hlt).1 (HKD2.out k hlt yd HYD.out) (by omega)
      rw [HEV.out] at C
      clear o2 m2 g2 hd3
      go_wp2_with fail
      refine C.mono ?_
      rintro e w3 ⟨rfl, ⟨zd, o3, m3⟩, g3⟩
      clear C d3
      rw [← HEV.out] at o3 g3
      have HG3 : Hid (w2.grownBy w3 (ud k).ownBlock) := g3
      have HO4 : Hid (w3.ownsRow B 46 4 (.slice (some ⟨g, 0, none⟩) n c) n vs) := own_hold HO3.out (fun b _ h2 e => g3.block b h2 (fun e' => by cases e; exact HSD.out k hlt g rfl e'.symm))
      have HKC3 : Hid (∀ j, j < n → j ≠ k → ∀ zs, wr.ownsRow B 48 2 (uc j) (nc j) zs → w3.ownsRow B 48 2 (uc j) (nc j) zs) := fun j hj hne zs hz => own_hold (HKC2.out j hj hne zs hz) (fun b _ h2 e => HG3.out.block b h2 (fun e' => HCR.out j k hj hlt b e e'.symm))
      have HKD3 : Hid (∀ j, j < n → j ≠ k → ∀ zs, wr.ownsRow B 50 3 (ud j) (nd j) zs → w3.ownsRow B 50 3 (ud j) (nd j) zs) := fun j hj hne zs hz => own_hold (HKD2.out j hj zs hz) (fun b _ h2 e => HG3.out.block b h2 (fun e' => HAD.out j k hj hlt hne b e e'.symm))
      have HOC3 : Hid (w3.ownsRow B 48 2 (uc k) (nc k) zc) := own_hold HOC.out (fun b _ h2 e => HG3.out.block b h2 (fun e' => HCR.out k k hlt hlt b e e'.symm))
      have HON3 : Hid (On B M w w3) := HON2.out.grown g3 (by have := (HO3.out.lt g rfl).2; omega) (fun k' hk' => (o3.lt k' hk').1) (fun k' hk' => HU.out.2.2 k hlt k' hk')
      have HOD : Hid (w3.ownsRow B 50 3 (ud k) (nd k) zd) := o3
      have HMD : Hid (InMk zd (k0 + 2 * (k : Int) + (S : Int) + 1 + 1 + 2 * (nc k : Int)) (nd k)) := m3
      have HM2 : Hid (∀ j, j < k + 1 → vs[j * 4]? = some (.int .i64 (k0 + 2 * (j : Int) + (W j : Int))) ∧ vs[j * 4 + 1]? = some (.int .i64 (k0 + 2 * (j : Int) + (W j : Int) + 1)) ∧ (∃ ys, w3.ownsRow B 48 2 (uc j) (nc j) ys ∧ CpMk ys (k0 + 2 * (j : Int) + (W j : Int) + 1 + 1) (nc j)) ∧ ∃ ys, w3.ownsRow B 50 3 (ud j) (nd j) ys ∧ InMk ys (k0 + 2 * (j : Int) + (W j : Int) + 1 + 1 + 2 * (nc j : Int)) (nd j)) := fun j hj => by
        by_cases e : j = k
        · subst e
          rw [← HS.out]
          exact ⟨HV.out.2.2.1, HV.out.2.2.2, ⟨zc, HOC3.out, HMC.out⟩, ⟨zd, HOD.out, HMD.out⟩⟩
        · obtain ⟨m0, m1, ⟨y1, q1, q2⟩, ⟨y2, q3, q4⟩⟩ := HM.out j (by omega)
          obtain ⟨v0, v1⟩ := HV.out.2.1 j (by omega) e
          exact ⟨v0.trans m0, v1.trans m1, ⟨y1, HKC3.out j (by omega) e y1 q1, q2⟩, ⟨y2, HKD3.out j (by omega) e y2 q3, q4⟩⟩
      have HT3 : Hid (∀ j, k + 1 ≤ j → j < n → (∃ ys, w3.ownsRow B 48 2 (uc j) (nc j) ys) ∧ ∃ ys, w3.ownsRow B 50 3 (ud j) (nd j) ys) := fun j h1 h2 => by
        obtain ⟨⟨zs, hz⟩, ⟨zt, hzt⟩⟩ := HT.out j (by omega) h2
        exact ⟨⟨zs, HKC3.out j h2 (by omega) zs hz⟩, ⟨zt, HKD3.out j h2 (by omega) zt hzt⟩⟩
      clear o3 g3 m3
      go_wp2
      go_roundw
      case rel => exact ⟨k + 1, S + (2 * nc k + 3 * nd k), vs, by omega, hlk, by go_num, by go_num, HS2.out, HO4.out, HV.out.1, HM2.out, HT3.out, HON3.out⟩
      case measure => simp [intOf]; omega
    · have hkn : k = n := by omega
      subst hkn
      go_wp2
      go_ret
      refine ⟨by rw [HS.out, ← HW.out]; rfl, ⟨⟨us, HO.out, fun j hj => ?_⟩, fun j hj => ?_, fun j hj => ?_⟩, HON.out⟩
      · rw [HW.out]; exact ⟨(HM.out j hj).1, (HM.out j hj).2.1, (HX3.out j hj).1, (HX3.out j hj).2⟩
      · rw [HW.out]; exact ⟨(HTC2.out j hj).1, (HM.out j hj).2.2.1⟩
      · rw [HW.out]; exact ⟨(HTD2.out j hj).1, (HM.out j hj).2.2.2⟩

set_option maxRecDepth 100000 in
set_option maxHeartbeats 2000000 in
theorem heldProtoS_ex (a : Option Addr) (c n B : Nat) (nc nd : Nat → Nat) (uc ud : Nat → Value) (k0 : Int) (h0 : 0 ≤ k0) (h1 : k0 ≤ 4194304) (w : World) (h : MdP w B (.slice a n c) n nc nd uc ud k0) (hn : n ≤ 1048576) (hs : sumN (fun j => 2 * nc j + 3 * nd j) n ≤ 4194304) :
    Calls Tryd.prog 24 #[.slice a n c, .int .i64 k0] w fun e w' => e = .returned (.int .i64 (k0 + 2 * (n : Int) + (sumN (fun j => 2 * nc j + 3 * nd j) n : Int))) ∧ w' = w := by
  obtain ⟨us, hown, hus⟩ := h.row
  have HTC : Hid _ := h.caps
  have HTD : Hid _ := h.code
  have HX : Hid _ := hus
  have HO : Hid (w.ownsRow B 46 4 (.slice a n c) n us) := hown
  have HSZ : Hid (∀ j, j ≤ n → sumN (fun j => 2 * nc j + 3 * nd j) j ≤ 4194304) := fun j hj => Nat.le_trans (sumN_mono _ hj) hs
  obtain ⟨W, hW⟩ : ∃ W : Nat → Nat, W = sumN (fun j => 2 * nc j + 3 * nd j) := ⟨_, rfl⟩
  have HW : Hid (sumN (fun j => 2 * nc j + 3 * nd j) = W) := hW.symm
  clear h hus hown hW hs
  go_enter Tryd.func24, Tryd.ntmps24
  go_wp2
  go_loop [1, 5] (fun q i => ∃ (k S : Nat), k ≤ n ∧ S ≤ 4194304 ∧ i = .int .i64 k ∧ q = .int .i64 (k0 + 2 * (k : Int) + (S : Int)) ∧ Hid (S = W k)) (fun _ i => n - (intOf i).toNat)
  case atStart => exact ⟨0, 0, Nat.zero_le _, by omega, rfl, by go_num, by show _ = _; rw [← HW.out]; rfl⟩
  case round =>
    obtain ⟨k, S, hk, hS, rfl, rfl, HS⟩ := hrel
    by_cases hlt : k < n
    · obtain ⟨g, cap, e, hgB, _⟩ := HO.out.form (by omega)
      simp only [Value.slice.injEq, true_and] at e
      obtain ⟨rfl, rfl⟩ := e
      obtain ⟨y0, y1, y2, y3⟩ := HX.out k hlt
      rw [HW.out, ← HS.out] at y0 y1
      have e0 := (HO.out.cellAt (k * 4) (by omega)).trans y0
      have e1 := (HO.out.cellAt (k * 4 + 1) (by omega)).trans y1
      have e2 := (HO.out.cellAt (k * 4 + 2) (by omega)).trans y2
      have e3 := (HO.out.cellAt (k * 4 + 3) (by omega)).trans y3
      obtain ⟨hsc, zc, oc, mc⟩ := HTC.out k hlt
      obtain ⟨hsd, zd, od, md⟩ := HTD.out k hlt
      rw [HW.out, ← HS.out] at mc md
      have hlk : S + (2 * nc k + 3 * nd k) ≤ 4194304 := by have := HSZ.out (k + 1) (by omega); rw [HS.out, ← HW.out]; exact this
      have C := heldCaptureS_ex (uc k) (nc k) B zc (k0 + 2 * (k : Int) + (S : Int) + 1 + 1) (by omega) (by omega) w hsc oc mc (by omega)
      have C2 := heldInsS_ex (ud k) (nd k) B zd (k0 + 2 * (k : Int) + (S : Int) + 1 + 1 + 2 * (nc k : Int)) (by omega) (by omega) w hsd od md (by omega)
      obtain ⟨ta, tc, et⟩ := hsc
      obtain ⟨va, vc, ev⟩ := hsd
      rw [et] at e2 C
      rw [ev] at e3 C2
      have HS2 : Hid (S + (2 * nc k + 3 * nd k) = W (k + 1)) := by show _ = _; rw [HS.out, ← HW.out]; rfl
      have HC2 : Hid (Calls Tryd.prog 46 #[.slice va (nd k) vc, .int .i64 (k0 + 2 * (k : Int) + (S : Int) + 1 + 1 + 2 * (nc k : Int))] w fun e w' => e = .returned (.int .i64 (k0 + 2 * (k : Int) + (S : Int) + 1 + 1 + 2 * (nc k : Int) + 3 * (nd k : Int))) ∧ w' = w) := C2
      clear y0 y1 y2 y3 oc od mc md et ev C2
      go_wp2_with fail
      refine C.mono ?_
      rintro e w' ⟨rfl, hw⟩
      replace hw := hw.symm
      subst hw
      clear C
      have hneg : decide (k0 + 2 * (k : Int) + (S : Int) + 1 + 1 + 2 * (nc k : Int) < 0) = false := by simp; omega
      go_wp2_with fail
      refine HC2.out.mono ?_
      rintro e w' ⟨rfl, hw⟩
      replace hw := hw.symm
      subst hw
      have hneg2 : decide (k0 + 2 * (k : Int) + (S : Int) + 1 + 1 + 2 * (nc k : Int) + 3 * (nd k : Int) < 0) = false := by simp; omega
      clear e0 e1 e2 e3 HC2
      go_wp2
      go_round
      case rel => exact ⟨k + 1, S + (2 * nc k + 3 * nd k), by omega, hlk, by go_num, by go_num, HS2.out⟩
      case measure => simp [intOf]; omega
    · have hkn : k = n := by omega
      subst hkn
      go_wp2
      go_ret
      exact ⟨by rw [HS.out, ← HW.out]; rfl, rfl⟩
end Go.Proofs.YteagakplhfiodaaDoor.th
