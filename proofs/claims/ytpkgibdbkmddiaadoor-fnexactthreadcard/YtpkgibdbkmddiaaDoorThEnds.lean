import Derived.Test.YtpkgibdbkmddiaaDoorThPure
import Derived.Test.YtpkgibdbkmddiaaDoorChkRep
import Derived.Test.YtpkgibdbkmddiaaDoorPgMark
import Derived.Deep.AppendLies
import Derived.Deep.LoopGhost
namespace Go.Proofs.YtpkgibdbkmddiaaDoor.th
open Go.RowKit Go.Proofs.YtpkgibdbkmddiaaDoor.bts Go.Proofs.YtpkgibdbkmddiaaDoor.pg Go.Proofs.YtpkgibdbkmddiaaDoor.chk

theorem psd_succ (code : List In) (s m : Nat) : psd code s (m + 1) = psd code s m ++ [it code m s] := by simp [psd, List.range_succ]
theorem psd_len (code : List In) (s m : Nat) : (psd code s m).length = m := by simp [psd]
theorem psd_at {code : List In} {s m j : Nat} (h : j < m) : (nc (psd code s m))[j]? = some (.int .i64 (it code j s : Nat)) := by simp [nc, psd, h]
theorem own_apart {w w' : World} {B E c n : Nat} {v : Value} {us : List Value} (h : w.ownsRow B E c v n us) (hk : ∀ b, v.ownBlock = some b → w'.heap[b]? = w.heap[b]?) : w'.ownsRow B E c v n us := by
  obtain ⟨h1, h2⟩ := h
  refine ⟨h1, ?_⟩
  rcases h2 with h | ⟨g', cap', cur, e, hb', hh, r⟩
  · exact .inl h
  · exact .inr ⟨g', cap', cur, e, hb', (hk g' (by rw [e]; rfl)).trans hh, r⟩

set_option maxRecDepth 100000 in
set_option maxHeartbeats 4000000 in
theorem chainEnds_any (aD : Option Addr) (cD : Nat) (code : List In) (w : World) (hd : RdI w aD code) (hN : code.length ≤ 1048576) (h0 : 0 < code.length) (hx : ∀ i, i < code.length → XOk code.length (code.getD i in0)) :
    Calls Tryd.prog 57 #[.slice aD code.length cD] w fun e w' => ∃ (gE : Nat) (E : List Int), e = .returned (.slice (some ⟨gE, 0, none⟩) code.length code.length) ∧ w'.ownsRow w.heap.size 3 1 (.slice (some ⟨gE, 0, none⟩) code.length code.length) code.length (ic E) ∧ (E.length = code.length ∧ ∀ a, a < code.length → EndOf code a (E.getD a (-1))) ∧ Below w.heap.size w w' := by
  have HIN : Hid (In0 code) := fun a ha hj => by
    have h := (hx a ha).jmp (by have : (code.getD a in0).op = 18 := hj; omega) (by have : (code.getD a in0).op = 18 := hj; omega)
    unfold stp
    omega
  have HX : Hid (∀ i, i < code.length → XOk code.length (code.getD i in0)) := hx
  have HD : Hid (∀ W, Below w.heap.size w W → RdI W aD code) := fun W h => hd.below h
  have CR : Hid (∀ W b, W.cell? ⟨b, 0, none⟩ = some (.int .i64 (-1)) → Calls Tryd.prog 75 #[.slice (some ⟨b, 0, none⟩) 1 1, .int .i64 code.length] W fun e w' => ∃ gB, W.heap.size ≤ gB ∧ e = .returned (.slice (some ⟨gB, 0, none⟩) code.length code.length) ∧ w'.ownsRow W.heap.size 3 1 (.slice (some ⟨gB, 0, none⟩) code.length code.length) code.length (ic (List.replicate code.length (-1))) ∧ Below W.heap.size W w') := fun W b h => repeat_any b code.length hN h0 W h
  obtain ⟨N, hNN⟩ : ∃ N, N = code.length := ⟨_, rfl⟩
  have HN : Hid (code.length = N) := hNN.symm
  rw [← hNN] at hN h0 CR ⊢
  clear hd hx hNN
  go_enter Tryd.func57, Tryd.ntmps57
  go_wp2_with fail
  refine (CR.out _ _ (cellNew rfl)).mono ?_
  rintro e w1 ⟨gE, hgE, rfl, hown, hb1⟩
  have HB1 : Hid (Below w.heap.size w w1) := Below.trans (by go_grown) (hb1.mono (by simp))
  have HO1 : Hid (w1.ownsRow (w.heap.size + 1) 3 1 (.slice (some ⟨gE, 0, none⟩) N N) N (ic (List.replicate N (-1)))) := by show World.ownsRow _ _ _ _ _ _ _; simpa using hown
  have hgE' : w.heap.size + 1 ≤ gE := by simpa using hgE
  clear hown hb1 CR hgE
  go_wp2_with fail
  go_loopw [15] (fun x wr => ∃ (k : Nat) (E : List Int), k ≤ N ∧ x = .int .i64 (k : Int) ∧ Hid (wr.ownsRow (w.heap.size + 1) 3 1 (.slice (some ⟨gE, 0, none⟩) N N) N (ic E)) ∧ Hid (Tab code E ∧ ∀ a, a < k → E.getD a (-1) ≠ -1) ∧ Hid (Below w.heap.size w wr)) (fun x _ => N - (intOf x).toNat)
  case atStart => exact ⟨0, _, by omega, rfl, HO1.out, ⟨⟨by rw [List.length_replicate, HN.out], fun a ha => .inl (by simp [List.getD_eq_getElem?_getD, List.getElem?_replicate]; split <;> rfl)⟩, fun a ha => absurd ha (by omega)⟩, HB1.out⟩
  case round =>
    clear HO1 HB1
    obtain ⟨k, E, hk, rfl, HO, HT, HB⟩ := hrel
    have hsr := HB.out.size
    by_cases hlt : k < N
    · have hlt' : (k : Int) < (N : Int) := by omega
      go_wp2_with fail
      have HP0 : Hid (Pas code E E k 0) := pas_start HT.out.1 (by rw [HN.out]; exact hlt)
      go_loopg [5, 6] (free E) (fun gk pv x wq => ∃ (m : Nat) (E1 : List Int) (aP : Option Addr) (cP : Nat), x = .int .i64 (it code m k : Nat) ∧ pv = .slice aP m cP ∧ Hid (gk = free E1 ∧ gk + m = free E) ∧ Hid (Pas code E E1 k m) ∧ Hid (wq.ownsRow (w.heap.size + 1) 3 1 (.slice (some ⟨gE, 0, none⟩) N N) N (ic E1)) ∧ Hid (wq.ownsRow (w.heap.size + 1) 3 1 (.slice aP m cP) m (nc (psd code k m))) ∧ Hid ((Value.slice aP m cP).ownBlock ≠ some gE) ∧ Hid (Below w.heap.size w wq))
      case atStart => exact ⟨0, E, none, 0, rfl, rfl, ⟨rfl, rfl⟩, HP0.out, HO.out, World.ownsRow_nil _ _ _ _, (fun e => by cases e), HB.out⟩
      case round =>
        rename World => wq
        clear HP0 HO HB hsr
        obtain ⟨m, E1, aP, cP, rfl, rfl, HG, HPS, HO, HOP, HNE, HB⟩ := hrel
        have hmN : m ≤ N := by
          have h1 := HG.out.2
          have h2 : free E ≤ E.length := List.length_filter_le _ _
          have h3 := HT.out.1.1
          have := HN.out
          omega
        have hsr := HB.out.size
        have hat : it code m k < N := by rw [← HN.out]; exact HPS.out.inn m (Nat.le_refl _)
        obtain ⟨at_, hat_⟩ : ∃ a, a = it code m k := ⟨_, rfl⟩
        have HAT : Hid (at_ = it code m k) := hat_
        rw [← hat_] at hat ⊢
        clear hat_
        have hE1l : E1.length = N := by rw [HPS.out.len, HN.out]
        have cE := HO.out.cellAt at_ (by omega)
        have fE := HO.out.frozenAt at_
        rw [ic_at (by omega)] at cE
        have HNX : Hid (at_ < code.length) := by show at_ < code.length; rw [HN.out]; exact hat
        obtain ⟨b, off, rfl, c0w, c1w, _⟩ := (HD.out w (Below.refl _ _)) at_ HNX.out
        have c0 := cellB c0w HB.out
        have c1 := cellB c1w HB.out
        have hx := HX.out at_ HNX.out
        obtain ⟨z, hz⟩ : ∃ z, z = E1.getD at_ (-1) := ⟨_, rfl⟩
        rw [← hz] at cE
        have HZ : Hid (z = E1.getD at_ (-1)) := hz
        clear hz
        have hat' : (at_ : Int) < (N : Int) := by omega
        by_cases ho : (code.getD at_ in0).op = 18
        · have HJ : Hid (jmp code at_) := ho
          by_cases hzz : z = -1
          · obtain ⟨hA0, hA1⟩ := hx.jmp (by omega) (by omega)
            have hst : stp code at_ = (code.getD at_ in0).a.toNat := rfl
            have HST : Hid (it code (m + 1) k = stp code at_) := by show _ = _; rw [it_succ, ← HAT.out]
            have HPS2 : Hid (Pas code E (E1.set at_ (-2)) k (m + 1)) := by
              have := pas_step HPS.out HIN.out (by rw [← HAT.out, ← HZ.out]; exact hzz) (by rw [← HAT.out]; exact HJ.out)
              rw [← HAT.out] at this
              exact this
            have HFR : Hid (free (E1.set at_ (-2)) + 1 = free E1) := free_set E1 at_ (-2) (by omega) (by rw [← HZ.out]; exact hzz) (by omega)
            have HPD : Hid (nc (psd code k (m + 1)) = nc (psd code k m) ++ [.int .i64 (at_ : Int)]) := by show _ = _; rw [psd_succ, nc_snoc, ← HAT.out]
            rw [ho] at c0
            generalize (code.getD at_ in0).a = az at c1 c1w hA0 hA1 hst
            obtain ⟨a2, rfl⟩ : ∃ a2 : Nat, az = (a2 : Int) := ⟨az.toNat, by omega⟩
            have hst2 : stp code at_ = a2 := by rw [hst]; simp
            rw [hst2] at HST
            subst hzz
            clear hx hst hst2 ho
            have hs1 := HO.out.stored at_ (.int .i64 (-2))
            rw [← ic_set] at hs1
            have hgeB : w.heap.size ≤ gE := by omega
            have oP1 : Hid (((wq.setCell ⟨gE, at_, none⟩ (.int .i64 (-2))).alloc (.cells #[.int .i64 (at_ : Int)] 3)).ownsRow (w.heap.size + 1) 3 1 (.slice aP m cP) m (nc (psd code k m))) := (own_apart HOP.out (fun b' e => Below.heap_setCell wq ⟨gE, at_, none⟩ _ b' (fun e' => HNE.out (by rw [e]; simpa using e')))).alloc _
            have oE1 : Hid (((wq.setCell ⟨gE, at_, none⟩ (.int .i64 (-2))).alloc (.cells #[.int .i64 (at_ : Int)] 3)).ownsRow (w.heap.size + 1) 3 1 (.slice (some ⟨gE, 0, none⟩) N N) N (ic (E1.set at_ (-2)))) := hs1.1.alloc _
            have B1 : Hid (Below w.heap.size w ((wq.setCell ⟨gE, at_, none⟩ (.int .i64 (-2))).alloc (.cells #[.int .i64 (at_ : Int)] 3))) := (HB.out.setCell (p := ⟨gE, at_, none⟩) hgeB _).alloc (by simp; omega) _
            have hgw : gE < wq.heap.size := (HO.out.lt gE rfl).2
            have NW : Hid (∀ j u, [Value.int .i64 (at_ : Int)][j]? = some u → ((wq.setCell ⟨gE, at_, none⟩ (.int .i64 (-2))).alloc (.cells #[.int .i64 (at_ : Int)] 3)).cell? ((⟨wq.heap.size, 0, none⟩ : Addr).add j) = some u) := by
              show ∀ j u, _ → _
              have := World.news_of_block (cs := #[.int .i64 (at_ : Int)]) (t := 3) (fr := (0, 0)) (heap_alloc_new (wq.setCell ⟨gE, at_, none⟩ (.int .i64 (-2))) (.cells #[.int .i64 (at_ : Int)] 3))
              simpa using this
            clear hs1
            obtain ⟨i0, hi, hz0, hz1, hz2⟩ := info_parts info_int
            go_wp2_with (at_builtin; refine wpList_append_lies _ rfl _ _ _ rfl (w.heap.size + 1) 3 i0 (.int .i64 0) 1 8 Tryd.underlying86 hi hz0 hz1 hz2 rfl (by omega) _ m (nc (psd code k m)) rfl oP1.out ⟨wq.heap.size, 0, none⟩ 1 1 [.int .i64 (at_ : Int)] rfl rfl NW.out (by simp [Value.oneCell']) (by omega) (by unfold maxLen; omega) (by omega) (by simp; omega) (wq.heap.size + 1) (by simp) ?_; intro g' cap' w2 hown2 hgrow hat2 hlt2; have HB2 : Hid (Below w.heap.size w w2) := B1.out.grown hgrow B1.out.size (fun k' hk' => by have := (oP1.out.lt k' hk').1; omega); have d1 := cellB c1w HB2.out; have oE2 : Hid (w2.ownsRow (w.heap.size + 1) 3 1 (.slice (some ⟨gE, 0, none⟩) N N) N (ic (E1.set at_ (-2)))) := oE1.out.kept hgrow (.inr (fun e => HNE.out e.symm)); have oP2 : Hid (w2.ownsRow (w.heap.size + 1) 3 1 (.slice (some ⟨g', 0, none⟩) (m + 1) cap') (m + 1) (nc (psd code k m) ++ [.int .i64 (at_ : Int)])) := hown2; have hg' : g' ≠ gE := (by intro e; rcases hat2 with h | h <;> first | exact HNE.out (by rw [← e]; exact h) | omega); clear hown2 hgrow hat2 hlt2)
            go_roundg (free (E1.set at_ (-2)))
            case measure => have h1 := HFR.out; have h2 := HG.out.1; omega
            case rel => exact ⟨m + 1, _, some ⟨g', 0, none⟩, cap', by rw [HST.out], rfl, ⟨rfl, by have h1 := HFR.out; have h2 := HG.out; omega⟩, HPS2.out, oE2.out, by rw [HPD.out]; exact oP2.out, (fun e => hg' (by simpa [Value.ownBlock] using e)), HB2.out⟩
          · have ez : (z == -1) = false := by simpa using hzz
            have EN : Hid (EndOf code at_ z) := by have := pas_known HPS.out HT.out.1 (by rw [← HAT.out, ← HZ.out]; exact hzz); rw [← HAT.out, ← HZ.out] at this; exact this
            have EL : Hid (E1.getD at_ (-1) = z) := HZ.out.symm
            have EO : Hid (∀ a, a < code.length → (∀ j, j < m → it code j k ≠ a) → E1.getD a (-1) = E.getD a (-1) ∨ (a = it code m k ∧ E1.getD a (-1) = z)) := fun a ha hx => .inl (HPS.out.else_ a ha hx)
            have LN : Hid (E1.length = code.length) := HPS.out.len
            have O2 : Hid _ := HO.out
            have OP2 : Hid _ := HOP.out
            have B2 : Hid _ := HB.out
            rw [ho] at c0
            clear hx
            go_wp2_with fail
            go_loopw [56] (fun x wz => ∃ (j : Nat) (E3 : List Int), j ≤ m ∧ x = .int .i64 (j : Int) ∧ Hid (Lay code (E1) E3 k m j (z)) ∧ Hid (wz.ownsRow (w.heap.size + 1) 3 1 (.slice (some ⟨gE, 0, none⟩) N N) N (ic E3)) ∧ Hid (wz.ownsRow (w.heap.size + 1) 3 1 (.slice aP m cP) m (nc (psd code k m))) ∧ Hid (Below w.heap.size w wz)) (fun x _ => m - (intOf x).toNat)
            case atStart => exact ⟨0, _, by omega, rfl, lay_start LN.out, O2.out, OP2.out, B2.out⟩
            case round =>
              rename World => wz
              clear O2 OP2 B2 c0 c1 cE fE
              obtain ⟨j, E3, hj, rfl, HL, HO3, HOP3, HB3⟩ := hrel
              have hsz := HB3.out.size
              by_cases hjm : j < m
              · obtain ⟨gP, cP', eP, _, _⟩ := HOP3.out.form (by omega)
                simp only [Value.slice.injEq, true_and] at eP
                obtain ⟨rfl, rfl⟩ := eP
                have hpc := HOP3.out.cellAt j (by omega)
                rw [psd_at hjm] at hpc
                have hin : it code j k < N := by rw [← HN.out]; exact HPS.out.inn j (by omega)
                have HIJ : Hid (it code j k < code.length) := HPS.out.inn j (by omega)
                have HL2 := lay_step HL.out HIJ.out
                obtain ⟨pl, hpl⟩ : ∃ a, a = it code j k := ⟨_, rfl⟩
                rw [← hpl] at hpc hin HL2
                have HL3 : Hid (Lay code (E1) (E3.set pl (z)) k m (j + 1) (z)) := HL2
                have hE3l : E3.length = N := by rw [HL.out.len, HN.out]
                have ca := HO3.out.cellAt at_ (by omega)
                rw [ic_at (by omega), show E3.getD at_ (-1) = (z) from by have := lay_at HL.out (HPS.out.inn m (Nat.le_refl _)) (by rw [← HAT.out]; exact EL.out); rw [← HAT.out] at this; exact this] at ca
                have cp := HO3.out.cellAt pl (by omega)
                rw [ic_at (by omega)] at cp
                have fp := HO3.out.frozenAt pl
                have hpl' : (pl : Int) < (N : Int) := by omega
                have hjm' : (j : Int) < (m : Int) := by omega
                have s1 := HO3.out.stored pl (.int .i64 (z))
                rw [← ic_set] at s1
                have HO4 : Hid _ := s1.1
                have HOP4 : Hid ((wz.setCell ⟨gE, pl, none⟩ (.int .i64 (z))).ownsRow (w.heap.size + 1) 3 1 (.slice (some ⟨gP, 0, none⟩) m cP) m (nc (psd code k m))) := own_apart HOP3.out (fun b' e => Below.heap_setCell wz ⟨gE, pl, none⟩ _ b' (fun e' => HNE.out (by rw [e]; simpa using e')))
                have HB4 : Hid (Below w.heap.size w (wz.setCell ⟨gE, pl, none⟩ (.int .i64 (z)))) := HB3.out.setCell (p := ⟨gE, pl, none⟩) (by show w.heap.size ≤ gE; omega) _
                clear hpl HL2 s1
                go_wp2
                go_roundw
                case rel => exact ⟨j + 1, _, by omega, by go_num, HL3.out, HO4.out, HOP4.out, HB4.out⟩
                case measure => simp [intOf]; omega
              · have hjn : j = m := by omega
                subst hjn
                have HEND : Hid (Tab code E3 ∧ (∀ a, a < code.length → E.getD a (-1) ≠ -1 → E3.getD a (-1) ≠ -1) ∧ E3.getD k (-1) ≠ -1) := pas_end HPS.out HT.out.1 (by rw [← HAT.out]; exact EN.out) HL.out.len HL.out.here (fun a ha hx => by
                  rw [HL.out.else_ a ha hx]
                  exact EO.out a ha hx) (lay_at HL.out (HPS.out.inn _ (Nat.le_refl _)) (by rw [← HAT.out]; exact EL.out))
                have HTT : Hid (Tab code E3 ∧ ∀ a, a < k + 1 → E3.getD a (-1) ≠ -1) := ⟨HEND.out.1, fun a ha => by
                  by_cases e : a = k
                  · rw [e]; exact HEND.out.2.2
                  · exact HEND.out.2.1 a (by rw [HN.out]; omega) (HT.out.2 a (by omega))⟩
                go_wp2
                go_roundw
                case rel => exact ⟨k + 1, E3, by omega, by go_num, HO3.out, HTT.out, HB3.out⟩
                case measure => simp [intOf]; omega
        · have on : ((code.getD at_ in0).op == 18) = false := by simpa using ho
          have EN : Hid (EndOf code at_ (at_ : Int)) := endOf_stop ho
          have EL : Hid ((E1.set at_ (at_ : Int)).getD at_ (-1) = (at_ : Int)) := getD_set_at (by omega)
          have EO : Hid (∀ a, a < code.length → (∀ j, j < m → it code j k ≠ a) → (E1.set at_ (at_ : Int)).getD a (-1) = E.getD a (-1) ∨ (a = it code m k ∧ (E1.set at_ (at_ : Int)).getD a (-1) = (at_ : Int))) := fun a ha hx => by
            by_cases e : at_ = a
            · right; subst e; exact ⟨HAT.out, EL.out⟩
            · left; rw [getD_set_off e]; exact HPS.out.else_ a ha hx
          have LN : Hid ((E1.set at_ (at_ : Int)).length = code.length) := by show _ = _; rw [List.length_set]; exact HPS.out.len
          have s0 := HO.out.stored at_ (.int .i64 (at_ : Int))
          rw [← ic_set] at s0
          have O2 : Hid _ := s0.1
          have OP2 : Hid ((wq.setCell ⟨gE, at_, none⟩ (.int .i64 (at_ : Int))).ownsRow (w.heap.size + 1) 3 1 (.slice aP m cP) m (nc (psd code k m))) := own_apart HOP.out (fun b' e => Below.heap_setCell wq ⟨gE, at_, none⟩ _ b' (fun e' => HNE.out (by rw [e]; simpa using e')))
          have B2 : Hid (Below w.heap.size w (wq.setCell ⟨gE, at_, none⟩ (.int .i64 (at_ : Int)))) := HB.out.setCell (p := ⟨gE, at_, none⟩) (by show w.heap.size ≤ gE; omega) _
          generalize (code.getD at_ in0).op = op at c0 on
          clear s0 hx
          by_cases hzz : z = -1
          · have ez : (z == -1) = true := by simpa using hzz
            clear hzz ho
            go_wp2_with fail
            go_loopw [56] (fun x wz => ∃ (j : Nat) (E3 : List Int), j ≤ m ∧ x = .int .i64 (j : Int) ∧ Hid (Lay code (E1.set at_ (at_ : Int)) E3 k m j ((at_ : Int))) ∧ Hid (wz.ownsRow (w.heap.size + 1) 3 1 (.slice (some ⟨gE, 0, none⟩) N N) N (ic E3)) ∧ Hid (wz.ownsRow (w.heap.size + 1) 3 1 (.slice aP m cP) m (nc (psd code k m))) ∧ Hid (Below w.heap.size w wz)) (fun x _ => m - (intOf x).toNat)
            case atStart => exact ⟨0, _, by omega, rfl, lay_start LN.out, O2.out, OP2.out, B2.out⟩
            case round =>
              rename World => wz
              clear O2 OP2 B2 c0 c1 cE fE
              obtain ⟨j, E3, hj, rfl, HL, HO3, HOP3, HB3⟩ := hrel
              have hsz := HB3.out.size
              by_cases hjm : j < m
              · obtain ⟨gP, cP', eP, _, _⟩ := HOP3.out.form (by omega)
                simp only [Value.slice.injEq, true_and] at eP
                obtain ⟨rfl, rfl⟩ := eP
                have hpc := HOP3.out.cellAt j (by omega)
                rw [psd_at hjm] at hpc
                have hin : it code j k < N := by rw [← HN.out]; exact HPS.out.inn j (by omega)
                have HIJ : Hid (it code j k < code.length) := HPS.out.inn j (by omega)
                have HL2 := lay_step HL.out HIJ.out
                obtain ⟨pl, hpl⟩ : ∃ a, a = it code j k := ⟨_, rfl⟩
                rw [← hpl] at hpc hin HL2
                have HL3 : Hid (Lay code (E1.set at_ (at_ : Int)) (E3.set pl ((at_ : Int))) k m (j + 1) ((at_ : Int))) := HL2
                have hE3l : E3.length = N := by rw [HL.out.len, HN.out]
                have ca := HO3.out.cellAt at_ (by omega)
                rw [ic_at (by omega), show E3.getD at_ (-1) = ((at_ : Int)) from by have := lay_at HL.out (HPS.out.inn m (Nat.le_refl _)) (by rw [← HAT.out]; exact EL.out); rw [← HAT.out] at this; exact this] at ca
                have cp := HO3.out.cellAt pl (by omega)
                rw [ic_at (by omega)] at cp
                have fp := HO3.out.frozenAt pl
                have hpl' : (pl : Int) < (N : Int) := by omega
                have hjm' : (j : Int) < (m : Int) := by omega
                have s1 := HO3.out.stored pl (.int .i64 ((at_ : Int)))
                rw [← ic_set] at s1
                have HO4 : Hid _ := s1.1
                have HOP4 : Hid ((wz.setCell ⟨gE, pl, none⟩ (.int .i64 ((at_ : Int)))).ownsRow (w.heap.size + 1) 3 1 (.slice (some ⟨gP, 0, none⟩) m cP) m (nc (psd code k m))) := own_apart HOP3.out (fun b' e => Below.heap_setCell wz ⟨gE, pl, none⟩ _ b' (fun e' => HNE.out (by rw [e]; simpa using e')))
                have HB4 : Hid (Below w.heap.size w (wz.setCell ⟨gE, pl, none⟩ (.int .i64 ((at_ : Int))))) := HB3.out.setCell (p := ⟨gE, pl, none⟩) (by show w.heap.size ≤ gE; omega) _
                clear hpl HL2 s1
                go_wp2
                go_roundw
                case rel => exact ⟨j + 1, _, by omega, by go_num, HL3.out, HO4.out, HOP4.out, HB4.out⟩
                case measure => simp [intOf]; omega
              · have hjn : j = m := by omega
                subst hjn
                have HEND : Hid (Tab code E3 ∧ (∀ a, a < code.length → E.getD a (-1) ≠ -1 → E3.getD a (-1) ≠ -1) ∧ E3.getD k (-1) ≠ -1) := pas_end HPS.out HT.out.1 (by rw [← HAT.out]; exact EN.out) HL.out.len HL.out.here (fun a ha hx => by
                  rw [HL.out.else_ a ha hx]
                  exact EO.out a ha hx) (lay_at HL.out (HPS.out.inn _ (Nat.le_refl _)) (by rw [← HAT.out]; exact EL.out))
                have HTT : Hid (Tab code E3 ∧ ∀ a, a < k + 1 → E3.getD a (-1) ≠ -1) := ⟨HEND.out.1, fun a ha => by
                  by_cases e : a = k
                  · rw [e]; exact HEND.out.2.2
                  · exact HEND.out.2.1 a (by rw [HN.out]; omega) (HT.out.2 a (by omega))⟩
                go_wp2
                go_roundw
                case rel => exact ⟨k + 1, E3, by omega, by go_num, HO3.out, HTT.out, HB3.out⟩
                case measure => simp [intOf]; omega
          · have ez : (z == -1) = false := by simpa using hzz
            clear hzz ho
            go_wp2_with fail
            go_loopw [56] (fun x wz => ∃ (j : Nat) (E3 : List Int), j ≤ m ∧ x = .int .i64 (j : Int) ∧ Hid (Lay code (E1.set at_ (at_ : Int)) E3 k m j ((at_ : Int))) ∧ Hid (wz.ownsRow (w.heap.size + 1) 3 1 (.slice (some ⟨gE, 0, none⟩) N N) N (ic E3)) ∧ Hid (wz.ownsRow (w.heap.size + 1) 3 1 (.slice aP m cP) m (nc (psd code k m))) ∧ Hid (Below w.heap.size w wz)) (fun x _ => m - (intOf x).toNat)
            case atStart => exact ⟨0, _, by omega, rfl, lay_start LN.out, O2.out, OP2.out, B2.out⟩
            case round =>
              rename World => wz
              clear O2 OP2 B2 c0 c1 cE fE
              obtain ⟨j, E3, hj, rfl, HL, HO3, HOP3, HB3⟩ := hrel
              have hsz := HB3.out.size
              by_cases hjm : j < m
              · obtain ⟨gP, cP', eP, _, _⟩ := HOP3.out.form (by omega)
                simp only [Value.slice.injEq, true_and] at eP
                obtain ⟨rfl, rfl⟩ := eP
                have hpc := HOP3.out.cellAt j (by omega)
                rw [psd_at hjm] at hpc
                have hin : it code j k < N := by rw [← HN.out]; exact HPS.out.inn j (by omega)
                have HIJ : Hid (it code j k < code.length) := HPS.out.inn j (by omega)
                have HL2 := lay_step HL.out HIJ.out
                obtain ⟨pl, hpl⟩ : ∃ a, a = it code j k := ⟨_, rfl⟩
                rw [← hpl] at hpc hin HL2
                have HL3 : Hid (Lay code (E1.set at_ (at_ : Int)) (E3.set pl ((at_ : Int))) k m (j + 1) ((at_ : Int))) := HL2
                have hE3l : E3.length = N := by rw [HL.out.len, HN.out]
                have ca := HO3.out.cellAt at_ (by omega)
                rw [ic_at (by omega), show E3.getD at_ (-1) = ((at_ : Int)) from by have := lay_at HL.out (HPS.out.inn m (Nat.le_refl _)) (by rw [← HAT.out]; exact EL.out); rw [← HAT.out] at this; exact this] at ca
                have cp := HO3.out.cellAt pl (by omega)
                rw [ic_at (by omega)] at cp
                have fp := HO3.out.frozenAt pl
                have hpl' : (pl : Int) < (N : Int) := by omega
                have hjm' : (j : Int) < (m : Int) := by omega
                have s1 := HO3.out.stored pl (.int .i64 ((at_ : Int)))
                rw [← ic_set] at s1
                have HO4 : Hid _ := s1.1
                have HOP4 : Hid ((wz.setCell ⟨gE, pl, none⟩ (.int .i64 ((at_ : Int)))).ownsRow (w.heap.size + 1) 3 1 (.slice (some ⟨gP, 0, none⟩) m cP) m (nc (psd code k m))) := own_apart HOP3.out (fun b' e => Below.heap_setCell wz ⟨gE, pl, none⟩ _ b' (fun e' => HNE.out (by rw [e]; simpa using e')))
                have HB4 : Hid (Below w.heap.size w (wz.setCell ⟨gE, pl, none⟩ (.int .i64 ((at_ : Int))))) := HB3.out.setCell (p := ⟨gE, pl, none⟩) (by show w.heap.size ≤ gE; omega) _
                clear hpl HL2 s1
                go_wp2
                go_roundw
                case rel => exact ⟨j + 1, _, by omega, by go_num, HL3.out, HO4.out, HOP4.out, HB4.out⟩
                case measure => simp [intOf]; omega
              · have hjn : j = m := by omega
                subst hjn
                have HEND : Hid (Tab code E3 ∧ (∀ a, a < code.length → E.getD a (-1) ≠ -1 → E3.getD a (-1) ≠ -1) ∧ E3.getD k (-1) ≠ -1) := pas_end HPS.out HT.out.1 (by rw [← HAT.out]; exact EN.out) HL.out.len HL.out.here (fun a ha hx => by
                  rw [HL.out.else_ a ha hx]
                  exact EO.out a ha hx) (lay_at HL.out (HPS.out.inn _ (Nat.le_refl _)) (by rw [← HAT.out]; exact EL.out))
                have HTT : Hid (Tab code E3 ∧ ∀ a, a < k + 1 → E3.getD a (-1) ≠ -1) := ⟨HEND.out.1, fun a ha => by
                  by_cases e : a = k
                  · rw [e]; exact HEND.out.2.2
                  · exact HEND.out.2.1 a (by rw [HN.out]; omega) (HT.out.2 a (by omega))⟩
                go_wp2
                go_roundw
                case rel => exact ⟨k + 1, E3, by omega, by go_num, HO3.out, HTT.out, HB3.out⟩
                case measure => simp [intOf]; omega
    · have hkn : k = N := by omega
      subst hkn
      go_wp2
      go_returns
      refine ⟨gE, E, rfl, own_weaken HO.out (by omega), ⟨by rw [← HN.out]; exact HT.out.1.1, fun a ha => ?_⟩, HB.out⟩
      rcases HT.out.1.2 a (by rw [HN.out]; exact ha) with h | h
      · exact absurd h (HT.out.2 a ha)
      · exact h
end Go.Proofs.YtpkgibdbkmddiaaDoor.th
