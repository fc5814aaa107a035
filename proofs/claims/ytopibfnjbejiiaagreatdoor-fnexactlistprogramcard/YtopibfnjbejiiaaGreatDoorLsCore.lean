import Derived.Test.YtopibfnjbejiiaaGreatDoorLsFn
import Derived.Test.YtopibfnjbejiiaaGreatDoorPgMarkB
import Derived.Test.YtopibfnjbejiiaaGreatDoorPgEqB
import Derived.ChangeVars
namespace Go.Proofs.YtopibfnjbejiiaaGreatDoor.ls
open Go.RowKit Go.Proofs.YtopibfnjbejiiaaGreatDoor.fmt Go.Proofs.YtopibfnjbejiiaaGreatDoor.bts Go.Proofs.YtopibfnjbejiiaaGreatDoor.pg Go.Proofs.YtopibfnjbejiiaaGreatDoor.chk Go.Proofs.YtopibfnjbejiiaaGreatDoor.sv

set_option maxRecDepth 100000 in
set_option maxHeartbeats 4000000 in
theorem core (uk up : Value) (p : Pg) (w : World) (hk : RdKV w uk p.consts) (hp : RdPV w up p.protos) (hS : Shp w) (hT : Tab w) (hA : Asc w) (hNu : Num p.consts) :
    Calls Tryz.prog 3 #[.agg #[uk, up]] w fun e w' => e = .returned (.bool true) ∧ Below w.heap.size w w' := by
  have hw0 := hS.lt
  have CZ := fun W hW => szProgram_any uk up p 1048576 W (hk.below hW) (hp.below hW) (by omega) (by omega)
  by_cases hs : sizePg p ≤ 1048576
  · rw [szr_ok (by omega)] at CZ
    have hleft : decide ((1048576 : Int) - (sizePg p : Int) < 0) = false := by simp; omega
    obtain ⟨bS, hbS⟩ : ∃ b : Bool, b = true ↔ Sound p := by
      by_cases h : Sound p
      · exact ⟨true, ⟨fun _ => h, fun _ => rfl⟩⟩
      · exact ⟨false, ⟨fun e => (by cases e), fun h' => absurd h' h⟩⟩
    have OK1 : Hid (KOk p.consts) := hk.ok
    have OK2 : Hid (POk p.protos) := hp.ok
    have ZZ : Hid (∀ W, Below w.heap.size w W → Calls Tryz.prog 4 #[.agg #[uk, up], .int .i64 1048576] W fun e w' => e = .returned (.int .i64 (1048576 - (sizePg p : Int))) ∧ Below W.heap.size W w') := CZ
    have TO : Hid (∀ W, Below w.heap.size w W → Calls Tryz.prog 6 #[.agg #[uk, up]] W fun e w' => ∃ uk' up', e = .returned (.agg #[uk', up']) ∧ OwK w' W.heap.size uk' p.consts ∧ OwP w' W.heap.size up' p.protos ∧ Below W.heap.size W w') := fun W hW => toProgram_any uk up p W (hk.below hW) (hp.below hW) hs
    have TM : Hid (∀ W, Below w.heap.size w W → Calls Tryz.prog 6 #[.agg #[uk, up]] W fun e w' => ∃ gk gp, e = .returned (.agg #[.slice (some ⟨gk, 0, none⟩) p.consts.length p.consts.length, .slice (some ⟨gp, 0, none⟩) p.protos.length p.protos.length]) ∧ OwK w' W.heap.size (.slice (some ⟨gk, 0, none⟩) p.consts.length p.consts.length) p.consts ∧ OwP w' W.heap.size (.slice (some ⟨gp, 0, none⟩) p.protos.length p.protos.length) p.protos ∧ Below W.heap.size W w' ∧ W.heap.size ≤ gk ∧ MkK w' gk gp gk p.consts ∧ MkP w' gp w'.heap.size gp p.protos) := fun W hW => toProgram_mk uk up p W (hk.below hW) (hp.below hW) hs
    have HSZ : Hid (sizePg p ≤ 1048576) := hs
    have SP : Hid (∀ W a b, RdKV W a p.consts → RdPV W b p.protos → Calls Tryz.prog 5 #[.agg #[a, b]] W (Bytes W (ans bS p))) := fun W a b h1 h2 => specList_any p a b W h1 h2 hs hNu bS hbS
    have IM : Hid (∀ W a b, Below w.heap.size w W → RdKV W a p.consts → RdPV W b p.protos → Calls Tryz.prog 7 #[.agg #[a, b]] W (Bytes W (ans bS p))) := fun W a b hW h1 h2 => implList_any p a b W h1 h2 hs (hS.below hW hw0) (hT.below hW) (hA.below hW) hNu bS hbS
    have EQ : Hid (∀ W a b c d, RdKV W a p.consts → RdPV W b p.protos → RdKV W c p.consts → RdPV W d p.protos → Calls Tryz.prog 9 #[.agg #[a, b], .agg #[c, d]] W fun e w' => e = .returned (.bool true) ∧ Below W.heap.size W w') := fun W a b c d h1 h2 h3 h4 => eqProgram_same a b c d p W h1 h2 h3 h4 hs
    have hQl : (ans bS p).length ≤ 100000000000000 := List_len p hs hNu bS hbS
    generalize ans bS p = Q at SP IM hQl
    obtain ⟨N, hN⟩ : ∃ N, N = Q.length := ⟨_, rfl⟩
    have HN : Hid (Q.length = N) := hN.symm
    have SQ : Hid (∀ W a b, RdKV W a p.consts → RdPV W b p.protos → Calls Tryz.prog 5 #[.agg #[a, b]] W fun e w' => ∃ av cv, e = .returned (.slice av N cv) ∧ w'.ownsRow W.heap.size 5 1 (.slice av N cv) N (bcells Q) ∧ Below W.heap.size W w') := fun W a b h1 h2 => by
      have := SP.out W a b h1 h2
      unfold Bytes at this
      rw [← hN] at this
      exact this
    have IQ : Hid (∀ W a b, Below w.heap.size w W → RdKV W a p.consts → RdPV W b p.protos → Calls Tryz.prog 7 #[.agg #[a, b]] W fun e w' => ∃ av cv, e = .returned (.slice av N cv) ∧ w'.ownsRow W.heap.size 5 1 (.slice av N cv) N (bcells Q) ∧ Below W.heap.size W w') := fun W a b hW h1 h2 => by
      have := IM.out W a b hW h1 h2
      unfold Bytes at this
      rw [← hN] at this
      exact this
    rw [← hN] at hQl
    generalize (1048576 : Int) - (sizePg p : Int) = left at ZZ hleft
    obtain ⟨ak, ck, rfl, _, _⟩ := hk
    obtain ⟨ap, cp, rfl, _, _⟩ := hp
    clear CZ hS hs hbS SP IM hN hT hA hNu hw0
    go_enter Tryz.func3, Tryz.ntmps3
    go_wp2_with fail
    refine (ZZ.out _ (by go_grown)).mono ?_
    rintro e w0 ⟨rfl, b0⟩
    have a0 := cellB (cellNew (w := w) (cs := #[.slice ak p.consts.length ck, .slice ap p.protos.length cp]) (t := 25) (j := 0) (v := .slice ak p.consts.length ck) rfl) b0
    have a1 := cellB (cellNew (w := w) (cs := #[.slice ak p.consts.length ck, .slice ap p.protos.length cp]) (t := 25) (j := 1) (v := .slice ap p.protos.length cp) rfl) b0
    have HB0 : Hid (Below w.heap.size w w0) := Below.trans (by go_grown) (b0.mono (by simp))
    clear b0
    go_wp2_with fail
    refine (TO.out w0 HB0.out).mono ?_
    rintro e w1 ⟨uk1, up1, rfl, o1, q1, b1⟩
    have a0' := cellB a0 b1
    have a1' := cellB a1 b1
    have HB1 : Hid (Below w.heap.size w w1) := HB0.out.trans (b1.mono HB0.out.size)
    have C := SQ.out w1 uk1 up1 (o1.rd OK1.out) (q1.rd OK2.out)
    clear a0 a1 o1 q1 b1
    go_wp2_with fail
    refine C.mono ?_
    rintro e w2 ⟨avS, cvS, rfl, oS, b2⟩
    clear C
    have a0 := cellB a0' b2
    have a1 := cellB a1' b2
    have HB2 : Hid (Below w.heap.size w w2) := HB1.out.trans (b2.mono HB1.out.size)
    have HOS : Hid (w2.ownsRow w1.heap.size 5 1 (.slice avS N cvS) N (bcells Q)) := oS
    have hA2 : w.heap.size < w2.heap.size := World.block_lt_of_cell? _ _ a0
    have HA : Hid (∀ W, Below w2.heap.size w2 W → W.cell? ⟨w.heap.size, 0, none⟩ = some (.slice ak p.consts.length ck) ∧ W.cell? ⟨w.heap.size, 1, none⟩ = some (.slice ap p.protos.length cp) ∧ Rd W avS Q ∧ Below w.heap.size w W) := fun W hW => ⟨cellB a0 hW, cellB a1 hW, rd_own (own_hold HOS.out hW), HB2.out.trans (hW.mono HB2.out.size)⟩
    clear a0' a1' b2 oS HB0 HB1
    go_wp2_with fail
    refine (TM.out w2 HB2.out).mono ?_
    rintro e w3 ⟨gk, gp, rfl, o3, q3, b3, hgk, mk3, mp3⟩
    have HB3 : Hid (Below w2.heap.size w2 w3) := b3
    have HO3 : Hid (RdKV w3 (.slice (some ⟨gk, 0, none⟩) p.consts.length p.consts.length) p.consts) := o3.rd OK1.out
    have HQ3 : Hid (RdPV w3 (.slice (some ⟨gp, 0, none⟩) p.protos.length p.protos.length) p.protos) := q3.rd OK2.out
    have HK3 : Hid (MkK w3 gk gp gk p.consts) := mk3
    have HP3 : Hid (MkP w3 gp w3.heap.size gp p.protos) := mp3
    have hgg : gk < gp := by obtain ⟨_, _, e, hg, _⟩ := mk3.row; simp only [Value.slice.injEq, Option.some.injEq, Addr.mk.injEq, and_true] at e; omega
    clear o3 q3 b3 mk3 mp3 a0 a1
    obtain ⟨a0, a1, _, _⟩ := HA.out w3 HB3.out
    go_wp2_with fail
    have bX : Below w3.heap.size w3 (w3.alloc (.cells #[.slice (some ⟨gk, 0, none⟩) p.consts.length p.consts.length, .slice (some ⟨gp, 0, none⟩) p.protos.length p.protos.length] 32)) := (Below.refl _ _).alloc (Nat.le_refl _) _
    have x0 := cellNew (w := w3) (cs := #[.slice (some ⟨gk, 0, none⟩) p.consts.length p.consts.length, .slice (some ⟨gp, 0, none⟩) p.protos.length p.protos.length]) (t := 32) (j := 0) (v := .slice (some ⟨gk, 0, none⟩) p.consts.length p.consts.length) rfl
    have x1 := cellNew (w := w3) (cs := #[.slice (some ⟨gk, 0, none⟩) p.consts.length p.consts.length, .slice (some ⟨gp, 0, none⟩) p.protos.length p.protos.length]) (t := 32) (j := 1) (v := .slice (some ⟨gp, 0, none⟩) p.protos.length p.protos.length) rfl
    have hX3 : w3.heap.size < (w3.alloc (.cells #[.slice (some ⟨gk, 0, none⟩) p.consts.length p.consts.length, .slice (some ⟨gp, 0, none⟩) p.protos.length p.protos.length] 32)).heap.size := by simp
    have HBX : Hid (Below w2.heap.size w2 (w3.alloc (.cells #[.slice (some ⟨gk, 0, none⟩) p.consts.length p.consts.length, .slice (some ⟨gp, 0, none⟩) p.protos.length p.protos.length] 32))) := HB3.out.trans (bX.mono HB3.out.size)
    generalize w3.alloc (.cells #[.slice (some ⟨gk, 0, none⟩) p.consts.length p.consts.length, .slice (some ⟨gp, 0, none⟩) p.protos.length p.protos.length] 32) = W3 at bX x0 x1 hX3 HBX ⊢
    refine (IQ.out W3 _ _ (HB2.out.trans (HBX.out.mono HB2.out.size)) (HO3.out.below bX) (HQ3.out.below bX)).mono ?_
    rintro e w4 ⟨avI, cvI, rfl, oI, b4⟩
    have HX4 : Hid (Below W3.heap.size W3 w4) := b4
    have HOI : Hid (w4.ownsRow W3.heap.size 5 1 (.slice avI N cvI) N (bcells Q)) := oI
    have HBx : Hid (Below w3.heap.size w3 W3) := bX
    have HXC : Hid (∀ W, Below W3.heap.size W3 W → W.cell? ⟨w3.heap.size, 0, none⟩ = some (.slice (some ⟨gk, 0, none⟩) p.consts.length p.consts.length) ∧ W.cell? ⟨w3.heap.size, 1, none⟩ = some (.slice (some ⟨gp, 0, none⟩) p.protos.length p.protos.length) ∧ Below w2.heap.size w2 W) := fun W hW => ⟨cellB x0 hW, cellB x1 hW, HBX.out.trans (hW.mono HBX.out.size)⟩
    clear oI b4 x0 x1 a0 a1 bX
    obtain ⟨x0, x1, h24⟩ := HXC.out w4 HX4.out
    obtain ⟨a0, a1, rS, _⟩ := HA.out w4 h24
    have C := eqByteS_at avI avS N cvI cvS Q w4 HN.out (rd_own HOI.out) rS (by omega)
    clear rS h24
    go_wp2_with fail
    refine C.mono ?_
    rintro e w5 ⟨rfl, s5⟩
    clear C
    have HX5 : Hid (Below W3.heap.size W3 w5) := HX4.out.trans (s5.2 _)
    have HOI5 : Hid (w5.ownsRow W3.heap.size 5 1 (.slice avI N cvI) N (bcells Q)) := own_heap HOI.out s5
    clear s5 HX4 HOI a0 a1 x0 x1
    have HCC : Hid (∀ W, Below w5.heap.size w5 W → W.cell? ⟨w.heap.size, 0, none⟩ = some (.slice ak p.consts.length ck) ∧ W.cell? ⟨w.heap.size, 1, none⟩ = some (.slice ap p.protos.length cp) ∧ W.cell? ⟨w3.heap.size, 0, none⟩ = some (.slice (some ⟨gk, 0, none⟩) p.consts.length p.consts.length) ∧ W.cell? ⟨w3.heap.size, 1, none⟩ = some (.slice (some ⟨gp, 0, none⟩) p.protos.length p.protos.length)) := fun W hW => by
      obtain ⟨x0, x1, h2⟩ := HXC.out W (HX5.out.trans (hW.mono HX5.out.size))
      obtain ⟨a0, a1, _, _⟩ := HA.out W h2
      exact ⟨a0, a1, x0, x1⟩
    obtain ⟨a0, a1, x0, x1⟩ := HCC.out w5 (Below.refl _ _)
    have TO5 : Hid (∀ W, Below w5.heap.size w5 W → Calls Tryz.prog 6 #[.agg #[.slice ak p.consts.length ck, .slice ap p.protos.length cp]] W fun e w' => ∃ uk' up', e = .returned (.agg #[uk', up']) ∧ OwK w' W.heap.size uk' p.consts ∧ OwP w' W.heap.size up' p.protos ∧ Below w5.heap.size w5 w') := fun W hW => (TO.out W (HA.out W (HXC.out W (HX5.out.trans (hW.mono HX5.out.size))).2.2).2.2.2).mono (by
      rintro e w' ⟨uk', up', rfl, o, q, b⟩
      exact ⟨uk', up', rfl, o, q, hW.trans (b.mono hW.size)⟩)
    have EQ5 : Hid (∀ W c d, Below w5.heap.size w5 W → RdKV W c p.consts → RdPV W d p.protos → Calls Tryz.prog 9 #[.agg #[.slice (some ⟨gk, 0, none⟩) p.consts.length p.consts.length, .slice (some ⟨gp, 0, none⟩) p.protos.length p.protos.length], .agg #[c, d]] W fun e w' => e = .returned (.bool true) ∧ Below w5.heap.size w5 w') := fun W c d hW h1 h2 => (EQ.out W _ _ _ _ ((HO3.out.below HBx.out).below (HX5.out.trans (hW.mono HX5.out.size))) ((HQ3.out.below HBx.out).below (HX5.out.trans (hW.mono HX5.out.size))) h1 h2).mono (by
      rintro e w' ⟨rfl, b⟩
      exact ⟨rfl, hW.trans (b.mono hW.size)⟩)
    go_wp2_with fail
    go_region_held3 (fun W => (W.cell? ⟨w.heap.size, 0, none⟩ = some (.slice ak p.consts.length ck) ∧ W.cell? ⟨w.heap.size, 1, none⟩ = some (.slice ap p.protos.length cp) ∧ W.cell? ⟨w3.heap.size, 0, none⟩ = some (.slice (some ⟨gk, 0, none⟩) p.consts.length p.consts.length) ∧ W.cell? ⟨w3.heap.size, 1, none⟩ = some (.slice (some ⟨gp, 0, none⟩) p.protos.length p.protos.length)) ∧ Below w5.heap.size w5 W) (refine ⟨?_, ?_⟩ <;> first | (refine HCC.out _ ?_; (repeat (first | exact Below.refl _ _ | assumption | refine Below.drew ?_ | refine bel_drewN ?_ _))) | (repeat (first | exact Below.refl _ _ | assumption | refine Below.drew ?_ | refine bel_drewN ?_ _)))
      (first | (go_at_call 6; refine (TO5.out _ (by repeat (first | exact Below.refl _ _ | assumption | refine Below.drew ?_ | refine bel_drewN ?_ _))).mono ?_; rintro e w6 ⟨uk6, up6, rfl, o6, q6, b6⟩; have k6 := o6.rd OK1.out; have p6 := q6.rd OK2.out; clear o6 q6) | (go_at_call 9; refine (EQ5.out _ _ _ (by repeat (first | exact Below.refl _ _ | assumption | refine Below.drew ?_ | refine bel_drewN ?_ _)) (RdKV.below k6 (by repeat (first | exact Below.refl _ _ | assumption | refine Below.drew ?_ | refine bel_drewN ?_ _))) (RdPV.below p6 (by repeat (first | exact Below.refl _ _ | assumption | refine Below.drew ?_ | refine bel_drewN ?_ _)))).mono ?_; rintro e w7 ⟨rfl, b7⟩))
    have HX7 : Hid (Below W3.heap.size W3 w7) := HX5.out.trans (b7.mono HX5.out.size)
    have HOI7 : Hid (w7.ownsRow W3.heap.size 5 1 (.slice avI N cvI) N (bcells Q)) := own_hold HOI5.out b7
    have H37 : Hid (Below w3.heap.size w3 w7) := HBx.out.trans (HX7.out.mono HBx.out.size)
    have hgp3 : gp < w3.heap.size := by obtain ⟨_, _, e, hg, _⟩ := HP3.out.row; simp only [Value.slice.injEq, Option.some.injEq, Addr.mk.injEq, and_true] at e; omega
    have CM := markProgram_any p gk gp w2.heap.size w3.heap.size w7 (HK3.out.keep (H37.out.mono (by omega))) (HP3.out.keep H37.out) hgk hgg H37.out.size HSZ.out
    clear a0 a1 x0 x1
    obtain ⟨a0, a1, x0, x1⟩ := HCC.out w7 b7
    clear k6 p6 b6 b7 TO5 EQ5 HCC
    go_wp2_with fail
    refine CM.mono ?_
    rintro e w8 ⟨k, rfl, m8⟩
    clear CM
    have HS8 : Hid (Below w2.heap.size w2 w8) := (HXC.out w7 HX7.out).2.2.trans m8.below
    have HOI8 : Hid (w8.ownsRow W3.heap.size 5 1 (.slice avI N cvI) N (bcells Q)) := own_far HOI7.out (fun b e => m8.far b (by have := (HOI7.out.lt b e).1; omega) (HOI7.out.lt b e).2)
    clear m8 a0 a1 x0 x1 HX7 HOI7 H37 HOI5 HX5
    have hk0 : decide ((k : Int) < 0) = false := by simp
    obtain ⟨a0, a1, rS, _⟩ := HA.out w8 HS8.out
    have C := eqByteS_at avI avS N cvI cvS Q w8 HN.out (rd_own HOI8.out) rS (by omega)
    clear rS
    go_wp2_with fail
    refine C.mono ?_
    rintro e w9 ⟨rfl, s9⟩
    clear C
    have HS9 : Hid (Below w2.heap.size w2 w9) := HS8.out.trans (s9.2 _)
    have C := markByteS_own (.slice avI N cvI) N W3.heap.size (bcells Q) 1 (by omega) (by omega) w9 (own_heap HOI8.out s9) (by omega)
    have HR9 : Hid (∀ k, (Value.slice avI N cvI).ownBlock = some k → w2.heap.size ≤ k) := fun k hk => by have h1 := (HOI8.out.lt k hk).1; have h2 := HBX.out.size; omega
    clear s9 HS8 HOI8 a0 a1
    go_wp2_with fail
    refine C.mono ?_
    rintro e w10 ⟨rfl, o10, g10⟩
    clear C
    have HS10 : Hid (Below w2.heap.size w2 w10) := HS9.out.grown g10 HS9.out.size HR9.out
    have C := heldByteS_marks avI cvI N 1 (by omega) (by omega) w10 (rd_own o10) (by omega)
    clear g10 HS9 o10 HR9
    go_wp2_with fail
    refine C.mono ?_
    rintro e w' ⟨rfl, hw⟩
    replace hw := hw.symm
    subst hw
    clear C
    obtain ⟨a0, a1, _, hB10⟩ := HA.out w10 HS10.out
    have C := TO.out w10 hB10
    clear hB10
    go_wp2_with fail
    refine C.mono ?_
    rintro e w11 ⟨uk11, up11, rfl, o11, q11, b11⟩
    clear C
    have HS11 : Hid (Below w2.heap.size w2 w11) := HS10.out.trans (b11.mono HS10.out.size)
    have C := IQ.out w11 uk11 up11 (HA.out w11 HS11.out).2.2.2 (o11.rd OK1.out) (q11.rd OK2.out)
    clear o11 q11 b11 a0 a1
    go_wp2_with fail
    refine C.mono ?_
    rintro e w12 ⟨avJ, cvJ, rfl, oJ, b12⟩
    clear C
    have HS12 : Hid (Below w2.heap.size w2 w12) := HS11.out.trans (b12.mono HS11.out.size)
    obtain ⟨a0, a1, rS, _⟩ := HA.out w12 HS12.out
    have C := eqByteS_at avJ avS N cvJ cvS Q w12 HN.out (rd_own oJ) rS (by omega)
    clear oJ b12 rS a0 a1
    go_wp2_with fail
    refine C.mono ?_
    rintro e w13 ⟨rfl, s13⟩
    clear C
    go_wp2_with fail
    go_returns
    exact ⟨rfl, (HA.out w12 HS12.out).2.2.2.trans (s13.2 _)⟩
  · have ZZ : Hid (∀ W, Below w.heap.size w W → Calls Tryz.prog 4 #[.agg #[uk, up], .int .i64 1048576] W fun e w' => e = .returned (.int .i64 (-1)) ∧ Below W.heap.size W w') := by
      intro W hW
      have := CZ W hW
      rw [szr_no (by omega)] at this
      exact this
    obtain ⟨ak, ck, rfl, _, _⟩ := hk
    obtain ⟨ap, cp, rfl, _, _⟩ := hp
    clear CZ hS hs hT hA hNu hw0
    go_enter Tryz.func3, Tryz.ntmps3
    go_wp2_with fail
    refine (ZZ.out _ (by first | exact Below.refl _ _ | go_grown)).mono ?_
    rintro e w0 ⟨rfl, b0⟩
    go_wp2_with fail
    go_returns
    exact ⟨rfl, by first | exact b0 | exact Below.trans (by go_grown) (b0.mono (by simp))⟩
end Go.Proofs.YtopibfnjbejiiaaGreatDoor.ls
