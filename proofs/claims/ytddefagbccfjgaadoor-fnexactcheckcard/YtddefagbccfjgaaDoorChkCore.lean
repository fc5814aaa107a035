import Derived.Test.YtddefagbccfjgaaDoorChkImpl
import Derived.ChangeVars
namespace Go.Proofs.YtddefagbccfjgaaDoor.chk
open Go.RowKit Go.Proofs.YtddefagbccfjgaaDoor.bts Go.Proofs.YtddefagbccfjgaaDoor.pg

set_option maxRecDepth 100000 in
set_option maxHeartbeats 4000000 in
theorem core (uk up : Value) (p : Pg) (w : World) (hk : RdKV w uk p.consts) (hp : RdPV w up p.protos) (hS : Shp w) (hw0 : 0 < w.heap.size) :
    Calls Tryd.prog 3 #[.agg #[uk, up]] w fun e w' => e = .returned (.bool true) ∧ Below w.heap.size w w' := by
  have CZ := fun W hW => szProgram_any uk up p 1048576 W (hk.below hW) (hp.below hW) (by omega) (by omega)
  by_cases hs : sizePg p ≤ 1048576
  · rw [szr_ok (by omega)] at CZ
    have hleft : decide ((1048576 : Int) - (sizePg p : Int) < 0) = false := by simp; omega
    obtain ⟨bS, hbS⟩ : ∃ b : Bool, b = true ↔ Sound p := by
      by_cases h : Sound p
      · exact ⟨true, ⟨fun _ => h, fun _ => rfl⟩⟩
      · exact ⟨false, ⟨fun e => (by cases e), fun h' => absurd h' h⟩⟩
    have OK1 : Hid (KOk p.consts) := hk.ok
    have OK2 : Hid (POk p.protos) := hp.ok
    have ZZ : Hid (∀ W, Below w.heap.size w W → Calls Tryd.prog 4 #[.agg #[uk, up], .int .i64 1048576] W fun e w' => e = .returned (.int .i64 (1048576 - (sizePg p : Int))) ∧ Below W.heap.size W w') := CZ
    have TO : Hid (∀ W, Below w.heap.size w W → Calls Tryd.prog 6 #[.agg #[uk, up]] W fun e w' => ∃ uk' up', e = .returned (.agg #[uk', up']) ∧ OwK w' W.heap.size uk' p.consts ∧ OwP w' W.heap.size up' p.protos ∧ Below W.heap.size W w') := fun W hW => toProgram_any uk up p W (hk.below hW) (hp.below hW) hs
    have SP : Hid (∀ W a b, RdKV W a p.consts → RdPV W b p.protos → Calls Tryd.prog 5 #[.agg #[a, b]] W fun e w' => e = .returned (.bool bS) ∧ Below W.heap.size W w') := fun W a b h1 h2 => specCheck_any p a b W h1 h2 hs bS hbS
    have IM : Hid (∀ W a b, Below w.heap.size w W → RdKV W a p.consts → RdPV W b p.protos → Calls Tryd.prog 7 #[.agg #[a, b]] W fun e w' => e = .returned (.bool bS) ∧ Below W.heap.size W w') := fun W a b hW h1 h2 => implCheck_any p a b W h1 h2 hs (hS.below hW hw0) (by have := hW.size; omega) bS hbS
    have EQ : Hid (∀ W a b c d, RdKV W a p.consts → RdPV W b p.protos → RdKV W c p.consts → RdPV W d p.protos → Calls Tryd.prog 8 #[.agg #[a, b], .agg #[c, d]] W fun e w' => e = .returned (.bool true) ∧ Below W.heap.size W w') := fun W a b c d h1 h2 h3 h4 => eqProgram_same a b c d p W h1 h2 h3 h4 hs
    generalize (1048576 : Int) - (sizePg p : Int) = left at ZZ hleft
    obtain ⟨ak, ck, rfl, _, _⟩ := hk
    obtain ⟨ap, cp, rfl, _, _⟩ := hp
    clear CZ hS hs hbS
    go_enter Tryd.func3, Tryd.ntmps3
    go_wp2_with fail
    refine (ZZ.out _ (by go_grown)).mono ?_
    rintro e w0 ⟨rfl, b0⟩
    have a0 := cellB (cellNew (w := w) (cs := #[.slice ak p.consts.length ck, .slice ap p.protos.length cp]) (t := 25) (j := 0) (v := .slice ak p.consts.length ck) rfl) b0
    have a1 := cellB (cellNew (w := w) (cs := #[.slice ak p.consts.length ck, .slice ap p.protos.length cp]) (t := 25) (j := 1) (v := .slice ap p.protos.length cp) rfl) b0
    have HB0 : Hid (Below w.heap.size w w0) := Below.trans (by go_grown) (b0.mono (by simp))
    clear b0
    go_wp2_with fail
    refine (TO.out w0 HB0.out).mono ?_
    rintro e w1 ⟨uk1, up1, rfl, o1, q1, b1⟩
    have a0' := cellB a0 b1
    have a1' := cellB a1 b1
    have HB1 : Hid (Below w.heap.size w w1) := HB0.out.trans (b1.mono HB0.out.size)
    have C := SP.out w1 uk1 up1 (o1.rd OK1.out) (q1.rd OK2.out)
    clear a0 a1 o1 q1 b1
    go_wp2_with fail
    refine C.mono ?_
    rintro e w2 ⟨rfl, b2⟩
    clear C
    have a0 := cellB a0' b2
    have a1 := cellB a1' b2
    have HB2 : Hid (Below w.heap.size w w2) := HB1.out.trans (b2.mono HB1.out.size)
    clear a0' a1' b2
    go_wp2_with fail
    refine (TO.out w2 HB2.out).mono ?_
    rintro e w3 ⟨uk3, up3, rfl, o3, q3, b3⟩
    have a0' := cellB a0 b3
    have a1' := cellB a1 b3
    have HB3 : Hid (Below w.heap.size w w3) := HB2.out.trans (b3.mono HB2.out.size)
    have HO3 : Hid (OwK w3 w2.heap.size uk3 p.consts) := o3
    have HQ3 : Hid (OwP w3 w2.heap.size up3 p.protos) := q3
    obtain ⟨gk3, us3, ek3, hk3, hx3⟩ := o3
    obtain ⟨gp3, vs3, ep3, hp3, hy3⟩ := q3
    subst ek3 ep3
    clear a0 a1 b3 hk3 hx3 hp3 hy3
    go_wp2_with fail
    have bX : Below w3.heap.size w3 (w3.alloc (.cells #[.slice (some ⟨gk3, 0, none⟩) p.consts.length p.consts.length, .slice (some ⟨gp3, 0, none⟩) p.protos.length p.protos.length] 31)) := (Below.refl _ _).alloc (Nat.le_refl _) _
    have HBX : Hid (Below w.heap.size w (w3.alloc (.cells #[.slice (some ⟨gk3, 0, none⟩) p.consts.length p.consts.length, .slice (some ⟨gp3, 0, none⟩) p.protos.length p.protos.length] 31))) := HB3.out.trans (bX.mono HB3.out.size)
    have HK3 : Hid (RdKV (w3.alloc (.cells #[.slice (some ⟨gk3, 0, none⟩) p.consts.length p.consts.length, .slice (some ⟨gp3, 0, none⟩) p.protos.length p.protos.length] 31)) _ p.consts) := (HO3.out.rd OK1.out).below bX
    have HP3 : Hid (RdPV (w3.alloc (.cells #[.slice (some ⟨gk3, 0, none⟩) p.consts.length p.consts.length, .slice (some ⟨gp3, 0, none⟩) p.protos.length p.protos.length] 31)) _ p.protos) := (HQ3.out.rd OK2.out).below bX
    have a0 := cellB a0' bX
    have a1 := cellB a1' bX
    have x0 := cellNew (w := w3) (cs := #[.slice (some ⟨gk3, 0, none⟩) p.consts.length p.consts.length, .slice (some ⟨gp3, 0, none⟩) p.protos.length p.protos.length]) (t := 31) (j := 0) (v := .slice (some ⟨gk3, 0, none⟩) p.consts.length p.consts.length) rfl
    have x1 := cellNew (w := w3) (cs := #[.slice (some ⟨gk3, 0, none⟩) p.consts.length p.consts.length, .slice (some ⟨gp3, 0, none⟩) p.protos.length p.protos.length]) (t := 31) (j := 1) (v := .slice (some ⟨gp3, 0, none⟩) p.protos.length p.protos.length) rfl
    generalize w3.alloc (.cells #[.slice (some ⟨gk3, 0, none⟩) p.consts.length p.consts.length, .slice (some ⟨gp3, 0, none⟩) p.protos.length p.protos.length] 31) = W3 at HBX HK3 HP3 a0 a1 x0 x1 ⊢
    clear bX a0' a1' HB3 HO3 HQ3
    refine (IM.out W3 _ _ HBX.out HK3.out HP3.out).mono ?_
    rintro e w4 ⟨rfl, b4⟩
    have a0' := cellB a0 b4
    have a1' := cellB a1 b4
    have x0' := cellB x0 b4
    have x1' := cellB x1 b4
    have HB4 : Hid (Below w.heap.size w w4) := HBX.out.trans (b4.mono HBX.out.size)
    have HK4 : Hid (RdKV w4 _ p.consts) := HK3.out.below b4
    have HP4 : Hid (RdPV w4 _ p.protos) := HP3.out.below b4
    clear a0 a1 x0 x1 HK3 HP3 b4 HBX
    have HCC : Hid (∀ W, Below w4.heap.size w4 W → W.cell? ⟨w.heap.size, 0, none⟩ = some (.slice ak p.consts.length ck) ∧ W.cell? ⟨w.heap.size, 1, none⟩ = some (.slice ap p.protos.length cp) ∧ W.cell? ⟨w3.heap.size, 0, none⟩ = some (.slice (some ⟨gk3, 0, none⟩) p.consts.length p.consts.length) ∧ W.cell? ⟨w3.heap.size, 1, none⟩ = some (.slice (some ⟨gp3, 0, none⟩) p.protos.length p.protos.length)) := fun W hW => ⟨cellB a0' hW, cellB a1' hW, cellB x0' hW, cellB x1' hW⟩
    have TO4 : Hid (∀ W, Below w4.heap.size w4 W → Calls Tryd.prog 6 #[.agg #[.slice ak p.consts.length ck, .slice ap p.protos.length cp]] W fun e w' => ∃ uk' up', e = .returned (.agg #[uk', up']) ∧ OwK w' W.heap.size uk' p.consts ∧ OwP w' W.heap.size up' p.protos ∧ Below w4.heap.size w4 w') := fun W hW => (TO.out W (HB4.out.trans (hW.mono HB4.out.size))).mono (by
      rintro e w' ⟨uk', up', rfl, o, q, b⟩
      exact ⟨uk', up', rfl, o, q, hW.trans (b.mono hW.size)⟩)
    have EQ4 : Hid (∀ W c d, Below w4.heap.size w4 W → RdKV W c p.consts → RdPV W d p.protos → Calls Tryd.prog 8 #[.agg #[.slice (some ⟨gk3, 0, none⟩) p.consts.length p.consts.length, .slice (some ⟨gp3, 0, none⟩) p.protos.length p.protos.length], .agg #[c, d]] W fun e w' => e = .returned (.bool true) ∧ Below w4.heap.size w4 w') := fun W c d hW h1 h2 => (EQ.out W _ _ _ _ (HK4.out.below hW) (HP4.out.below hW) h1 h2).mono (by
      rintro e w' ⟨rfl, b⟩
      exact ⟨rfl, hW.trans (b.mono hW.size)⟩)
    clear TO EQ SP IM ZZ HK4 HP4
    cases bS
    all_goals
      go_wp2_with fail
      go_region_held3 (fun W => (W.cell? ⟨w.heap.size, 0, none⟩ = some (.slice ak p.consts.length ck) ∧ W.cell? ⟨w.heap.size, 1, none⟩ = some (.slice ap p.protos.length cp) ∧ W.cell? ⟨w3.heap.size, 0, none⟩ = some (.slice (some ⟨gk3, 0, none⟩) p.consts.length p.consts.length) ∧ W.cell? ⟨w3.heap.size, 1, none⟩ = some (.slice (some ⟨gp3, 0, none⟩) p.protos.length p.protos.length)) ∧ Below w4.heap.size w4 W) (refine ⟨?_, ?_⟩ <;> first | (refine HCC.out _ ?_; (repeat (first | exact Below.refl _ _ | assumption | refine Below.drew ?_ | refine bel_drewN ?_ _))) | (repeat (first | exact Below.refl _ _ | assumption | refine Below.drew ?_ | refine bel_drewN ?_ _)))
        (first | (go_at_call 6; refine (TO4.out _ (by repeat (first | exact Below.refl _ _ | assumption | refine Below.drew ?_ | refine bel_drewN ?_ _))).mono ?_; rintro e w5 ⟨uk5, up5, rfl, o5, q5, b5⟩; have k5 := o5.rd OK1.out; have p5 := q5.rd OK2.out; clear o5 q5) | (go_at_call 8; refine (EQ4.out _ _ _ (by repeat (first | exact Below.refl _ _ | assumption | refine Below.drew ?_ | refine bel_drewN ?_ _)) (RdKV.below k5 (by repeat (first | exact Below.refl _ _ | assumption | refine Below.drew ?_ | refine bel_drewN ?_ _))) (RdPV.below p5 (by repeat (first | exact Below.refl _ _ | assumption | refine Below.drew ?_ | refine bel_drewN ?_ _)))).mono ?_; rintro e w6 ⟨rfl, b6⟩))
      go_wp2
      go_returns
      exact ⟨rfl, HB4.out.trans (Below.mono (by repeat (first | exact Below.refl _ _ | assumption | refine Below.drew ?_ | refine bel_drewN ?_ _)) HB4.out.size)⟩
  · have ZZ : Hid (∀ W, Below w.heap.size w W → Calls Tryd.prog 4 #[.agg #[uk, up], .int .i64 1048576] W fun e w' => e = .returned (.int .i64 (-1)) ∧ Below W.heap.size W w') := by
      intro W hW
      have := CZ W hW
      rw [szr_no (by omega)] at this
      exact this
    obtain ⟨ak, ck, rfl, _, _⟩ := hk
    obtain ⟨ap, cp, rfl, _, _⟩ := hp
    clear CZ hS hs
    go_enter Tryd.func3, Tryd.ntmps3
    go_wp2_with fail
    refine (ZZ.out _ (by first | exact Below.refl _ _ | go_grown)).mono ?_
    rintro e w0 ⟨rfl, b0⟩
    go_wp2_with fail
    go_returns
    exact ⟨rfl, by first | exact b0 | exact Below.trans (by go_grown) (b0.mono (by simp))⟩
end Go.Proofs.YtddefagbccfjgaaDoor.chk
