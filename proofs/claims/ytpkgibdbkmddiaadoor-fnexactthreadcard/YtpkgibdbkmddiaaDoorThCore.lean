import Derived.Test.YtpkgibdbkmddiaaDoorThHeld
import Derived.Test.YtpkgibdbkmddiaaDoorThSpec
import Derived.Test.YtpkgibdbkmddiaaDoorPgEqB
import Derived.ChangeVars
namespace Go.Proofs.YtpkgibdbkmddiaaDoor.th
open Go.RowKit Go.Proofs.YtpkgibdbkmddiaaDoor.bts Go.Proofs.YtpkgibdbkmddiaaDoor.pg Go.Proofs.YtpkgibdbkmddiaaDoor.chk Go.Proofs.YtpkgibdbkmddiaaDoor.sv

theorem sums_map (l : List Pr) : ∀ k, sumsF sizePr (l.map thP) k = sumsF sizePr l k := by
  intro k
  unfold sumsF
  rw [← List.map_take, List.map_map]
  congr 2
  funext f
  simp [sizePr, thP]
theorem size_ans (b : Bool) (p : Pg) (h : sizePg p ≤ 1048576) : sizePg (thAns b p) ≤ 1048576 := by
  cases b with
  | false => show sizePg pg0 ≤ _; decide
  | true =>
    show sizePg (thread p) ≤ _
    unfold sizePg sizeP at *
    show sizeK p.consts + ((p.protos.map thP).length + sumsF sizePr (p.protos.map thP) (p.protos.map thP).length) ≤ _
    rw [List.length_map, sums_map]
    exact h
theorem ok1 (b : Bool) (p : Pg) (h : KOk p.consts) : KOk (thAns b p).consts := by
  cases b with
  | false => exact ⟨by show 0 ≤ _; omega, fun i hi => absurd hi (by show ¬ i < 0; omega)⟩
  | true => exact h
theorem ok2 (b : Bool) (p : Pg) (h : POk p.protos) : POk (thAns b p).protos := by
  cases b with
  | false => exact ⟨by show 0 ≤ _; omega, fun i hi => absurd hi (by show ¬ i < 0; omega)⟩
  | true =>
    have hpl : (thread p).protos.length = p.protos.length := List.length_map ..
    refine ⟨by show (thread p).protos.length ≤ _; rw [hpl]; exact h.1, fun j hj => ?_⟩
    have hj' : j < p.protos.length := by rw [← hpl]; exact hj
    have e : (thread p).protos.getD j pr0 = thP (p.protos.getD j pr0) := by show (p.protos.map thP).getD j pr0 = _; simp [List.getD_eq_getElem?_getD, List.getElem?_eq_getElem hj']
    show ((thread p).protos.getD j pr0).caps.length ≤ _ ∧ ((thread p).protos.getD j pr0).code.length ≤ _
    rw [e]
    unfold thP
    simp only [List.length_map]
    exact h.2 j hj'

set_option maxRecDepth 100000 in
set_option maxHeartbeats 1000000 in
theorem specThread_no (p : Pg) (uk up : Value) (w : World) (hk : RdKV w uk p.consts) (hp : RdPV w up p.protos) (hs : sizePg p ≤ 1048576) (hn : ¬ Sound p) :
    Calls Tryd.prog 14 #[.agg #[uk, up]] w (Reads w pg0) := by
  have SP : Hid (∀ W, Below w.heap.size w W → Calls Tryd.prog 19 #[.agg #[uk, up]] W fun e w' => e = .returned (.bool false) ∧ Below W.heap.size W w') := fun W hW => specCheck_any p uk up W (hk.below hW) (hp.below hW) hs false (by show _ ↔ _; simp [hn])
  obtain ⟨ak, ck, rfl, _, _⟩ := hk
  obtain ⟨ap, cp, rfl, _, _⟩ := hp
  clear hs hn
  go_enter Tryd.func14, Tryd.ntmps14
  go_wp2_with fail
  refine (SP.out _ (by go_grown)).mono ?_
  rintro e w1 ⟨rfl, b1⟩
  simp only [World.size_alloc] at b1
  have HB1 : Hid (Below w.heap.size w w1) := Below.trans (by go_grown) (b1.mono (by omega))
  have L0 : Hid (Lone 32 2 w1 (w.heap.size + 1) [.slice none 0 0, .slice none 0 0]) := by
    refine Lone.of ((b1.block _ (by omega)).trans ?_) rfl
    have := heap_alloc_new (w.alloc (Obj.cells #[.slice ak p.consts.length ck, .slice ap p.protos.length cp] 32)) (Obj.cells #[Value.slice none 0 0, Value.slice none 0 0] 32)
    simpa only [World.size_alloc] using this
  have f0 := L0.out.free 0
  have f1 := L0.out.free 1
  have c0 := L0.out.at (j := 0) (by omega)
  have c1 := L0.out.at (j := 1) (by omega)
  simp only [List.getElem?_cons_zero, List.getElem?_cons_succ] at c0 c1
  clear b1
  go_wp2_with fail
  have MG := (L0.out.set 0 (.slice none 0 0)).set 1 (.slice none 0 0)
  refine bodyPost_ret (results_cell_row Tryd.results14 _ _ (w.heap.size + 1) 32 _ _ _ rfl (Lone.back MG) Tryd.underlying32 rfl rfl) rfl ?_
  have P2 : w.heap.size ≤ w.heap.size + 1 := by omega
  exact ⟨_, _, rfl, ⟨none, 0, rfl, by show 0 ≤ _; omega, fun i hi => absurd hi (by show ¬ i < 0; omega)⟩, ⟨none, 0, rfl, by show 0 ≤ _; omega, fun i hi => absurd hi (by show ¬ i < 0; omega)⟩, (HB1.out.setCell (p := ⟨w.heap.size + 1, 0, none⟩) P2 _).setCell (p := ⟨w.heap.size + 1, 1, none⟩) P2 _⟩

theorem specThread_any (p : Pg) (uk up : Value) (w : World) (hk : RdKV w uk p.consts) (hp : RdPV w up p.protos) (hs : sizePg p ≤ 1048576) (bS : Bool) (hb : bS = true ↔ Sound p) :
    Calls Tryd.prog 14 #[.agg #[uk, up]] w (Reads w (thAns bS p)) := by
  cases bS with
  | false => exact specThread_no p uk up w hk hp hs (fun h => by have := hb.2 h; cases this)
  | true => exact specThread_yes p uk up w hk hp hs (hb.1 rfl)
theorem implThread_any (p : Pg) (uk up : Value) (w : World) (hk : RdKV w uk p.consts) (hp : RdPV w up p.protos) (hs : sizePg p ≤ 1048576) (hS : Shp w) (hw0 : 0 < w.heap.size) (bS : Bool) (hb : bS = true ↔ Sound p) :
    Calls Tryd.prog 15 #[.agg #[uk, up]] w (Prog w (thAns bS p)) := by
  cases bS with
  | false => exact implThread_no p uk up w hk hp hs hS hw0 (fun h => by have := hb.2 h; cases this)
  | true => exact implThread_yes p uk up w hk hp hs hS hw0 (hb.1 rfl)

set_option maxRecDepth 100000 in
set_option maxHeartbeats 4000000 in
theorem core (uk up : Value) (p : Pg) (w : World) (hk : RdKV w uk p.consts) (hp : RdPV w up p.protos) (hS : Shp w) (hw0 : 0 < w.heap.size) :
    Calls Tryd.prog 4 #[.agg #[uk, up]] w fun e w' => e = .returned (.bool true) ∧ Below w.heap.size w w' := by
  have CZ := fun W hW => szProgram_any uk up p 1048576 W (hk.below hW) (hp.below hW) (by omega) (by omega)
  by_cases hs : sizePg p ≤ 1048576
  · rw [szr_ok (by omega)] at CZ
    have hleft : decide ((1048576 : Int) - (sizePg p : Int) < 0) = false := by simp; omega
    obtain ⟨bS, hbS⟩ : ∃ b : Bool, b = true ↔ Sound p := by
      by_cases h : Sound p
      · exact ⟨true, ⟨fun _ => h, fun _ => rfl⟩⟩
      · exact ⟨false, ⟨fun e => (by cases e), fun h' => absurd h' h⟩⟩
    have OK1 : Hid (KOk p.consts) := hk.ok
    have OK2 : Hid (POk p.protos) := hp.ok
    have QK1 : Hid (KOk (thAns bS p).consts) := ok1 bS p hk.ok
    have QK2 : Hid (POk (thAns bS p).protos) := ok2 bS p hp.ok
    have QS : Hid (sizePg (thAns bS p) ≤ 1048576) := size_ans bS p hs
    have ZZ : Hid (∀ W, Below w.heap.size w W → Calls Tryd.prog 5 #[.agg #[uk, up], .int .i64 1048576] W fun e w' => e = .returned (.int .i64 (1048576 - (sizePg p : Int))) ∧ Below W.heap.size W w') := CZ
    have TO : Hid (∀ W, Below w.heap.size w W → Calls Tryd.prog 7 #[.agg #[uk, up]] W fun e w' => ∃ uk' up', e = .returned (.agg #[uk', up']) ∧ OwK w' W.heap.size uk' p.consts ∧ OwP w' W.heap.size up' p.protos ∧ Below W.heap.size W w') := fun W hW => toProgram_any uk up p W (hk.below hW) (hp.below hW) hs
    have TM : Hid (∀ W, Below w.heap.size w W → Calls Tryd.prog 7 #[.agg #[uk, up]] W fun e w' => ∃ gk gp, e = .returned (.agg #[.slice (some ⟨gk, 0, none⟩) p.consts.length p.consts.length, .slice (some ⟨gp, 0, none⟩) p.protos.length p.protos.length]) ∧ OwK w' W.heap.size (.slice (some ⟨gk, 0, none⟩) p.consts.length p.consts.length) p.consts ∧ OwP w' W.heap.size (.slice (some ⟨gp, 0, none⟩) p.protos.length p.protos.length) p.protos ∧ Below W.heap.size W w' ∧ W.heap.size ≤ gk ∧ MkK w' gk gp gk p.consts ∧ MkP w' gp w'.heap.size gp p.protos) := fun W hW => toProgram_mk uk up p W (hk.below hW) (hp.below hW) hs
    have HSZ : Hid (sizePg p ≤ 1048576) := hs
    have SP : Hid (∀ W a b, RdKV W a p.consts → RdPV W b p.protos → Calls Tryd.prog 14 #[.agg #[a, b]] W (Reads W (thAns bS p))) := fun W a b h1 h2 => specThread_any p a b W h1 h2 hs bS hbS
    have IM : Hid (∀ W a b, Below w.heap.size w W → RdKV W a p.consts → RdPV W b p.protos → Calls Tryd.prog 15 #[.agg #[a, b]] W (Prog W (thAns bS p))) := fun W a b hW h1 h2 => implThread_any p a b W h1 h2 hs (hS.below hW hw0) (by have := hW.size; omega) bS hbS
    have EQ : Hid (∀ W a b c d, RdKV W a p.consts → RdPV W b p.protos → RdKV W c p.consts → RdPV W d p.protos → Calls Tryd.prog 10 #[.agg #[a, b], .agg #[c, d]] W fun e w' => e = .returned (.bool true) ∧ Below W.heap.size W w') := fun W a b c d h1 h2 h3 h4 => eqProgram_same a b c d p W h1 h2 h3 h4 hs
    generalize thAns bS p = Q at SP IM QK1 QK2 QS
    have EQQ : Hid (∀ W a b c d, RdKV W a Q.consts → RdPV W b Q.protos → RdKV W c Q.consts → RdPV W d Q.protos → Calls Tryd.prog 10 #[.agg #[a, b], .agg #[c, d]] W fun e w' => e = .returned (.bool true) ∧ Below W.heap.size W w') := fun W a b c d h1 h2 h3 h4 => eqProgram_same a b c d Q W h1 h2 h3 h4 QS.out
    generalize (1048576 : Int) - (sizePg p : Int) = left at ZZ hleft
    obtain ⟨ak, ck, rfl, _, _⟩ := hk
    obtain ⟨ap, cp, rfl, _, _⟩ := hp
    clear CZ hS hs hbS
    go_enter Tryd.func4, Tryd.ntmps4
    go_wp2_with fail
    refine (ZZ.out _ (by go_grown)).mono ?_
    rintro e w0 ⟨rfl, b0⟩
    have a0 := cellB (cellNew (w := w) (cs := #[.slice ak p.consts.length ck, .slice ap p.protos.length cp]) (t := 25) (j := 0) (v := .slice ak p.consts.length ck) rfl) b0
    have a1 := cellB (cellNew (w := w) (cs := #[.slice ak p.consts.length ck, .slice ap p.protos.length cp]) (t := 25) (j := 1) (v := .slice ap p.protos.length cp) rfl) b0
    have HB0 : Hid (Below w.heap.size w w0) := Below.trans (by go_grown) (b0.mono (by simp))
    clear b0
    go_wp2_with fail
    refine (TO.out w0 HB0.out).mono ?_
    rintro e w1 ⟨uk1, up1, rfl, o1, q1, b1⟩
    have a0' := cellB a0 b1
    have a1' := cellB a1 b1
    have HB1 : Hid (Below w.heap.size w w1) := HB0.out.trans (b1.mono HB0.out.size)
    have C := SP.out w1 uk1 up1 (o1.rd OK1.out) (q1.rd OK2.out)
    clear a0 a1 o1 q1 b1
    go_wp2_with fail
    refine C.mono ?_
    rintro e w2 ⟨ka, pa, rfl, rk2, rp2, b2⟩
    clear C
    have HRK2 : Hid (RdKV w2 ka Q.consts) := rk2
    have HRP2 : Hid (RdPV w2 pa Q.protos) := rp2
    obtain ⟨sk, ek, rfl, _, _⟩ := rk2
    obtain ⟨sp, ep, rfl, _, _⟩ := rp2
    have a0 := cellB a0' b2
    have a1 := cellB a1' b2
    have HB2 : Hid (Below w.heap.size w w2) := HB1.out.trans (b2.mono HB1.out.size)
    obtain ⟨W2, hW2⟩ : ∃ W2, W2 = w2.alloc (.cells #[.slice sk Q.consts.length ek, .slice sp Q.protos.length ep] 32) := ⟨_, rfl⟩
    have bW2 : Below w2.heap.size w2 W2 := by rw [hW2]; exact (Below.refl _ _).alloc (Nat.le_refl _) _
    have t0 : W2.cell? ⟨w2.heap.size, 0, none⟩ = some (.slice sk Q.consts.length ek) := by rw [hW2]; exact cellNew rfl
    have t1 : W2.cell? ⟨w2.heap.size, 1, none⟩ = some (.slice sp Q.protos.length ep) := by rw [hW2]; exact cellNew rfl
    have HBW2 : Hid (Below w.heap.size w W2) := HB2.out.trans (bW2.mono HB2.out.size)
    have HA : Hid (∀ W, Below W2.heap.size W2 W → W.cell? ⟨w.heap.size, 0, none⟩ = some (.slice ak p.consts.length ck) ∧ W.cell? ⟨w.heap.size, 1, none⟩ = some (.slice ap p.protos.length cp) ∧ W.cell? ⟨w2.heap.size, 0, none⟩ = some (.slice sk Q.consts.length ek) ∧ W.cell? ⟨w2.heap.size, 1, none⟩ = some (.slice sp Q.protos.length ep) ∧ RdKV W (.slice sk Q.consts.length ek) Q.consts ∧ RdPV W (.slice sp Q.protos.length ep) Q.protos ∧ Below w.heap.size w W) := fun W hW => ⟨cellB (cellB a0 bW2) hW, cellB (cellB a1 bW2) hW, cellB t0 hW, cellB t1 hW, (HRK2.out.below bW2).below hW, (HRP2.out.below bW2).below hW, HBW2.out.trans (hW.mono HBW2.out.size)⟩
    have HWX2 : Hid (W2 = w2.alloc (.cells #[.slice sk Q.consts.length ek, .slice sp Q.protos.length ep] 32)) := hW2
    have x0 := cellOld (o := .cells #[.slice sk Q.consts.length ek, .slice sp Q.protos.length ep] 32) a0
    have x1 := cellOld (o := .cells #[.slice sk Q.consts.length ek, .slice sp Q.protos.length ep] 32) a1
    clear a0' a1' b2 HB0 HB1 hW2 t0 t1 bW2
    go_wp2_with fail
    rw [← HWX2.out]
    refine (TM.out W2 HBW2.out).mono ?_
    rintro e w3 ⟨gk, gp, rfl, o3, q3, b3, hgk, mk3, mp3⟩
    have HB3 : Hid (Below W2.heap.size W2 w3) := b3
    have HO3 : Hid (RdKV w3 (.slice (some ⟨gk, 0, none⟩) p.consts.length p.consts.length) p.consts) := o3.rd OK1.out
    have HQ3 : Hid (RdPV w3 (.slice (some ⟨gp, 0, none⟩) p.protos.length p.protos.length) p.protos) := q3.rd OK2.out
    have HK3 : Hid (MkK w3 gk gp gk p.consts) := mk3
    have HP3 : Hid (MkP w3 gp w3.heap.size gp p.protos) := mp3
    have hgg : gk < gp := by obtain ⟨_, _, e, hg, _⟩ := mk3.row; simp only [Value.slice.injEq, Option.some.injEq, Addr.mk.injEq, and_true] at e; omega
    clear o3 q3 b3 mk3 mp3 a0 a1 x0 x1
    obtain ⟨a0, a1, t0, t1, _, _, _⟩ := HA.out w3 HB3.out
    go_wp2_with fail
    obtain ⟨W3, hW3⟩ : ∃ W3, W3 = w3.alloc (.cells #[.slice (some ⟨gk, 0, none⟩) p.consts.length p.consts.length, .slice (some ⟨gp, 0, none⟩) p.protos.length p.protos.length] 32) := ⟨_, rfl⟩
    rw [← hW3]
    have bX : Below w3.heap.size w3 W3 := by rw [hW3]; exact (Below.refl _ _).alloc (Nat.le_refl _) _
    have x0 : W3.cell? ⟨w3.heap.size, 0, none⟩ = some (.slice (some ⟨gk, 0, none⟩) p.consts.length p.consts.length) := by rw [hW3]; exact cellNew rfl
    have x1 : W3.cell? ⟨w3.heap.size, 1, none⟩ = some (.slice (some ⟨gp, 0, none⟩) p.protos.length p.protos.length) := by rw [hW3]; exact cellNew rfl
    have hX3 : W3.heap.size = w3.heap.size + 1 := by rw [hW3]; simp
    have HBX : Hid (Below W2.heap.size W2 W3) := HB3.out.trans (bX.mono HB3.out.size)
    clear hW3
    refine (IM.out W3 _ _ (HBW2.out.trans (HBX.out.mono HBW2.out.size)) (HO3.out.below bX) (HQ3.out.below bX)).mono ?_
    intro e w4 hP4
    obtain ⟨ik, ip, dk, dp, M, ut, uc, ud, rfl, hown4, b4⟩ := hP4.own
    clear hP4
    have HBx : Hid (Below w3.heap.size w3 W3) := bX
    have HXC : Hid (∀ W, Below W3.heap.size W3 W → W.cell? ⟨w3.heap.size, 0, none⟩ = some (.slice (some ⟨gk, 0, none⟩) p.consts.length p.consts.length) ∧ W.cell? ⟨w3.heap.size, 1, none⟩ = some (.slice (some ⟨gp, 0, none⟩) p.protos.length p.protos.length) ∧ Below W2.heap.size W2 W) := fun W hW => ⟨cellB x0 hW, cellB x1 hW, HBX.out.trans (hW.mono HBX.out.size)⟩
    have HOW4 : Hid (Own w4 W3.heap.size M w4.heap.size ik ip dk dp Q ut uc ud) := hown4
    have hs4 : W3.heap.size ≤ w4.heap.size := b4.size
    have y0 := cellB x0 b4
    have y1 := cellB x1 b4
    obtain ⟨_, _, h24⟩ := HXC.out w4 b4
    have HB4 : Hid (Below W3.heap.size W3 w4) := b4
    clear hown4 b4 x0 x1 a0 a1 t0 t1 bX
    obtain ⟨a0, a1, t0, t1, _, _, _⟩ := HA.out w4 h24
    clear h24
    obtain ⟨W4, hW4⟩ : ∃ W4, W4 = w4.alloc (.cells #[.slice ik Q.consts.length dk, .slice ip Q.protos.length dp] 32) := ⟨_, rfl⟩
    have bG : Below w4.heap.size w4 W4 := by rw [hW4]; exact (Below.refl _ _).alloc (Nat.le_refl _) _
    have g0 : W4.cell? ⟨w4.heap.size, 0, none⟩ = some (.slice ik Q.consts.length dk) := by rw [hW4]; exact cellNew rfl
    have g1 : W4.cell? ⟨w4.heap.size, 1, none⟩ = some (.slice ip Q.protos.length dp) := by rw [hW4]; exact cellNew rfl
    have hX4 : W4.heap.size = w4.heap.size + 1 := by rw [hW4]; simp
    have HBW4 : Hid (Below W3.heap.size W3 W4) := HB4.out.trans (bG.mono HB4.out.size)
    have HOWG : Hid (Own W4 W3.heap.size M w4.heap.size ik ip dk dp Q ut uc ud) := HOW4.out.hold (fun b _ h2 => bG.block b h2)
    have HGC : Hid (∀ W, (∀ b, W3.heap.size ≤ b → b < W4.heap.size → W.heap[b]? = W4.heap[b]?) → W.cell? ⟨w4.heap.size, 0, none⟩ = some (.slice ik Q.consts.length dk) ∧ W.cell? ⟨w4.heap.size, 1, none⟩ = some (.slice ip Q.protos.length dp) ∧ Own W W3.heap.size M w4.heap.size ik ip dk dp Q ut uc ud) := fun W hW => ⟨(World.cell?_of_block (a := ⟨w4.heap.size, 0, none⟩) (hW w4.heap.size (by omega) (by omega))).trans g0, (World.cell?_of_block (a := ⟨w4.heap.size, 1, none⟩) (hW w4.heap.size (by omega) (by omega))).trans g1, HOWG.out.hold (fun b h1 h2 => hW b h1 (by omega))⟩
    have a0G := cellOld (o := .cells #[.slice ik Q.consts.length dk, .slice ip Q.protos.length dp] 32) a0
    have a1G := cellOld (o := .cells #[.slice ik Q.consts.length dk, .slice ip Q.protos.length dp] 32) a1
    have t0G := cellOld (o := .cells #[.slice ik Q.consts.length dk, .slice ip Q.protos.length dp] 32) t0
    have t1G := cellOld (o := .cells #[.slice ik Q.consts.length dk, .slice ip Q.protos.length dp] 32) t1
    have HWX4 : Hid (W4 = w4.alloc (.cells #[.slice ik Q.consts.length dk, .slice ip Q.protos.length dp] 32)) := hW4
    obtain ⟨_, _, hA4⟩ := HXC.out W4 HBW4.out
    have HRK4 : Hid (RdKV W4 (.slice sk Q.consts.length ek) Q.consts ∧ RdPV W4 (.slice sp Q.protos.length ep) Q.protos) := ⟨(HA.out W4 hA4).2.2.2.2.1, (HA.out W4 hA4).2.2.2.2.2.1⟩
    clear hW4 g0 g1 bG hA4
    go_wp2_with fail
    rw [← HWX4.out]
    refine (EQQ.out W4 _ _ _ _ (HOWG.out.rdK QK1.out) (HOWG.out.rdP QK2.out) HRK4.out.1 HRK4.out.2).mono ?_
    rintro e w5 ⟨rfl, b5⟩
    have HX5 : Hid (Below W3.heap.size W3 w5) := HBW4.out.trans (b5.mono HBW4.out.size)
    have HG5 : Hid (∀ b, W3.heap.size ≤ b → b < W4.heap.size → w5.heap[b]? = W4.heap[b]?) := fun b _ h2 => b5.block b h2
    have hs5 : W4.heap.size ≤ w5.heap.size := b5.size
    clear b5 HRK4 HB4 HOW4 y0 y1 a0 a1 t0 t1 a0G a1G t0G t1G HBW4
    have HCC : Hid (∀ W, Below w5.heap.size w5 W → W.cell? ⟨w.heap.size, 0, none⟩ = some (.slice ak p.consts.length ck) ∧ W.cell? ⟨w.heap.size, 1, none⟩ = some (.slice ap p.protos.length cp) ∧ W.cell? ⟨w3.heap.size, 0, none⟩ = some (.slice (some ⟨gk, 0, none⟩) p.consts.length p.consts.length) ∧ W.cell? ⟨w3.heap.size, 1, none⟩ = some (.slice (some ⟨gp, 0, none⟩) p.protos.length p.protos.length)) := fun W hW => by
      obtain ⟨x0, x1, h2⟩ := HXC.out W (HX5.out.trans (hW.mono HX5.out.size))
      obtain ⟨a0, a1, _⟩ := HA.out W h2
      exact ⟨a0, a1, x0, x1⟩
    obtain ⟨a0, a1, x0, x1⟩ := HCC.out w5 (Below.refl _ _)
    have TO5 : Hid (∀ W, Below w5.heap.size w5 W → Calls Tryd.prog 7 #[.agg #[.slice ak p.consts.length ck, .slice ap p.protos.length cp]] W fun e w' => ∃ uk' up', e = .returned (.agg #[uk', up']) ∧ OwK w' W.heap.size uk' p.consts ∧ OwP w' W.heap.size up' p.protos ∧ Below w5.heap.size w5 w') := fun W hW => (TO.out W (HA.out W (HXC.out W (HX5.out.trans (hW.mono HX5.out.size))).2.2).2.2.2.2.2.2).mono (by
      rintro e w' ⟨uk', up', rfl, o, q, b⟩
      exact ⟨uk', up', rfl, o, q, hW.trans (b.mono hW.size)⟩)
    have EQ5 : Hid (∀ W c d, Below w5.heap.size w5 W → RdKV W c p.consts → RdPV W d p.protos → Calls Tryd.prog 10 #[.agg #[.slice (some ⟨gk, 0, none⟩) p.consts.length p.consts.length, .slice (some ⟨gp, 0, none⟩) p.protos.length p.protos.length], .agg #[c, d]] W fun e w' => e = .returned (.bool true) ∧ Below w5.heap.size w5 w') := fun W c d hW h1 h2 => (EQ.out W _ _ _ _ ((HO3.out.below HBx.out).below (HX5.out.trans (hW.mono HX5.out.size))) ((HQ3.out.below HBx.out).below (HX5.out.trans (hW.mono HX5.out.size))) h1 h2).mono (by
      rintro e w' ⟨rfl, b⟩
      exact ⟨rfl, hW.trans (b.mono hW.size)⟩)
    go_wp2_with fail
    go_region_held3 (fun W => (W.cell? ⟨w.heap.size, 0, none⟩ = some (.slice ak p.consts.length ck) ∧ W.cell? ⟨w.heap.size, 1, none⟩ = some (.slice ap p.protos.length cp) ∧ W.cell? ⟨w3.heap.size, 0, none⟩ = some (.slice (some ⟨gk, 0, none⟩) p.consts.length p.consts.length) ∧ W.cell? ⟨w3.heap.size, 1, none⟩ = some (.slice (some ⟨gp, 0, none⟩) p.protos.length p.protos.length)) ∧ Below w5.heap.size w5 W) (refine ⟨?_, ?_⟩ <;> first | (refine HCC.out _ ?_; (repeat (first | exact Below.refl _ _ | assumption | refine Below.drew ?_ | refine bel_drewN ?_ _))) | (repeat (first | exact Below.refl _ _ | assumption | refine Below.drew ?_ | refine bel_drewN ?_ _)))
      (first | (go_at_call 7; refine (TO5.out _ (by (repeat (first | exact Below.refl _ _ | assumption | refine Below.drew ?_ | refine bel_drewN ?_ _)))).mono ?_; rintro e w6 ⟨uk6, up6, rfl, o6, q6, b6⟩; have k6 := o6.rd OK1.out; have p6 := q6.rd OK2.out; clear o6 q6) | (go_at_call 10; refine (EQ5.out _ _ _ (by (repeat (first | exact Below.refl _ _ | assumption | refine Below.drew ?_ | refine bel_drewN ?_ _))) (RdKV.below k6 (by (repeat (first | exact Below.refl _ _ | assumption | refine Below.drew ?_ | refine bel_drewN ?_ _)))) (RdPV.below p6 (by (repeat (first | exact Below.refl _ _ | assumption | refine Below.drew ?_ | refine bel_drewN ?_ _))))).mono ?_; rintro e w7 ⟨rfl, b7⟩))
    have HX7 : Hid (Below W3.heap.size W3 w7) := HX5.out.trans (b7.mono HX5.out.size)
    have HG7 : Hid (∀ b, W3.heap.size ≤ b → b < W4.heap.size → w7.heap[b]? = W4.heap[b]?) := fun b h1 h2 => (b7.block b (by omega)).trans (HG5.out b h1 h2)
    have hs7 : w5.heap.size ≤ w7.heap.size := b7.size
    have H37 : Hid (Below w3.heap.size w3 w7) := HBx.out.trans (HX7.out.mono HBx.out.size)
    have hgp3 : gp < w3.heap.size := by obtain ⟨_, _, e, hg, _⟩ := HP3.out.row; simp only [Value.slice.injEq, Option.some.injEq, Addr.mk.injEq, and_true] at e; omega
    have CM := markProgram_any p gk gp W2.heap.size w3.heap.size w7 (HK3.out.keep (H37.out.mono (by omega))) (HP3.out.keep H37.out) hgk hgg H37.out.size HSZ.out
    clear a0 a1 x0 x1
    obtain ⟨a0, a1, x0, x1⟩ := HCC.out w7 b7
    clear k6 p6 b6 b7 TO5 EQ5 HCC
    go_wp2_with fail
    refine CM.mono ?_
    rintro e w8 ⟨k, rfl, m8⟩
    clear CM
    have HS8 : Hid (Below W2.heap.size W2 w8) := (HXC.out w7 HX7.out).2.2.trans m8.below
    have HG8 : Hid (∀ b, W3.heap.size ≤ b → b < W4.heap.size → w8.heap[b]? = W4.heap[b]?) := fun b h1 h2 => (m8.far b (by omega) (by omega)).trans (HG7.out b h1 h2)
    have hs8 : W4.heap.size ≤ w8.heap.size := by have := m8.below.size; omega
    clear m8 a0 a1 x0 x1 HX7 HG7 H37 HX5 HG5 hs7
    have hk0 : decide ((k : Int) < 0) = false := by simp
    obtain ⟨a0, a1, t0, t1, rK8, rP8, _⟩ := HA.out w8 HS8.out
    obtain ⟨g0, g1, ow8⟩ := HGC.out w8 HG8.out
    have C := EQQ.out w8 _ _ _ _ (ow8.rdK QK1.out) (ow8.rdP QK2.out) rK8 rP8
    clear rK8 rP8 ow8
    go_wp2_with fail
    refine C.mono ?_
    rintro e w9 ⟨rfl, b9⟩
    clear C
    have HS9 : Hid (Below W2.heap.size W2 w9) := HS8.out.trans (b9.mono HS8.out.size)
    have HG9 : Hid (∀ b, W3.heap.size ≤ b → b < W4.heap.size → w9.heap[b]? = W4.heap[b]?) := fun b h1 h2 => (b9.block b (by omega)).trans (HG8.out b h1 h2)
    have hs9 : w8.heap.size ≤ w9.heap.size := b9.size
    clear b9 a0 a1 t0 t1 g0 g1 HS8 HG8
    obtain ⟨g0, g1, ow9⟩ := HGC.out w9 HG9.out
    have CM := markProgram_ex Q ik ip dk dp W3.heap.size M w4.heap.size ut uc ud w9 ow9 (by omega) QS.out
    clear ow9
    go_wp2_with fail
    refine CM.mono ?_
    rintro e w10 ⟨rfl, mk10, on10⟩
    clear CM
    have HS10 : Hid (Below W2.heap.size W2 w10) := HS9.out.trans (on10.below.mono HBX.out.size)
    have g0' : w10.cell? ⟨w4.heap.size, 0, none⟩ = some (.slice ik Q.consts.length dk) := (World.cell?_of_block (a := ⟨w4.heap.size, 0, none⟩) (on10.far w4.heap.size (Nat.le_refl _) (by omega))).trans g0
    have g1' : w10.cell? ⟨w4.heap.size, 1, none⟩ = some (.slice ip Q.protos.length dp) := (World.cell?_of_block (a := ⟨w4.heap.size, 1, none⟩) (on10.far w4.heap.size (Nat.le_refl _) (by omega))).trans g1
    have CH := heldProgram_ex Q ik ip dk dp W3.heap.size M ut uc ud w10 mk10 QS.out
    generalize kn2 Q = K2 at CH
    clear mk10 on10 g0 g1 HS9 HG9
    go_wp2_with fail
    refine CH.mono ?_
    rintro e w11 ⟨rfl, b11⟩
    clear CH g0' g1'
    have HS11 : Hid (Below W2.heap.size W2 w11) := HS10.out.trans (b11.mono HS10.out.size)
    clear b11 HS10
    have n2 : decide ((K2 : Int) < 0) = false := by simp
    obtain ⟨a0, a1, _, _, _, _, hB11⟩ := HA.out w11 HS11.out
    have C := TO.out w11 hB11
    clear hB11
    go_wp2_with fail
    refine C.mono ?_
    rintro e w12 ⟨uk12, up12, rfl, o12, q12, b12⟩
    clear C
    have HS12 : Hid (Below W2.heap.size W2 w12) := HS11.out.trans (b12.mono HS11.out.size)
    have C := IM.out w12 uk12 up12 (HA.out w12 HS12.out).2.2.2.2.2.2 (o12.rd OK1.out) (q12.rd OK2.out)
    clear o12 q12 b12 a0 a1
    go_wp2_with fail
    refine C.mono ?_
    intro e w13 hP13
    obtain ⟨jk, jp, fk, fp, M2, ut2, uc2, ud2, rfl, hown13, b13⟩ := hP13.own
    clear C hP13
    have HS13 : Hid (Below W2.heap.size W2 w13) := HS12.out.trans (b13.mono HS12.out.size)
    have bH := (Below.refl w13.heap.size w13).alloc (Nat.le_refl _) (.cells #[.slice jk Q.consts.length fk, .slice jp Q.protos.length fp] 32)
    have HSH : Hid (Below W2.heap.size W2 (w13.alloc (.cells #[.slice jk Q.consts.length fk, .slice jp Q.protos.length fp] 32))) := HS13.out.trans (bH.mono HS13.out.size)
    obtain ⟨a0, a1, t0, t1, _, _, _⟩ := HA.out w13 HS13.out
    obtain ⟨_, _, _, _, rKH, rPH, _⟩ := HA.out _ HSH.out
    have C := EQQ.out (w13.alloc (.cells #[.slice jk Q.consts.length fk, .slice jp Q.protos.length fp] 32)) _ _ _ _ ((hown13.rdK QK1.out).below bH) ((hown13.rdP QK2.out).below bH) rKH rPH
    have t0H := cellOld (o := .cells #[.slice jk Q.consts.length fk, .slice jp Q.protos.length fp] 32) t0
    have t1H := cellOld (o := .cells #[.slice jk Q.consts.length fk, .slice jp Q.protos.length fp] 32) t1
    clear rKH rPH hown13 b13 bH
    go_wp2_with fail
    refine C.mono ?_
    rintro e w14 ⟨rfl, b14⟩
    clear C
    have HS14 : Hid (Below W2.heap.size W2 w14) := HSH.out.trans (b14.mono HSH.out.size)
    clear b14 a0 a1 t0 t1 t0H t1H
    go_wp2_with fail
    go_returns
    exact ⟨rfl, (HA.out w14 HS14.out).2.2.2.2.2.2⟩
  · have ZZ : Hid (∀ W, Below w.heap.size w W → Calls Tryd.prog 5 #[.agg #[uk, up], .int .i64 1048576] W fun e w' => e = .returned (.int .i64 (-1)) ∧ Below W.heap.size W w') := by
      intro W hW
      have := CZ W hW
      rw [szr_no (by omega)] at this
      exact this
    obtain ⟨ak, ck, rfl, _, _⟩ := hk
    obtain ⟨ap, cp, rfl, _, _⟩ := hp
    clear CZ hS hs
    go_enter Tryd.func4, Tryd.ntmps4
    go_wp2_with fail
    refine (ZZ.out _ (by first | exact Below.refl _ _ | go_grown)).mono ?_
    rintro e w0 ⟨rfl, b0⟩
    go_wp2_with fail
    go_returns
    exact ⟨rfl, by first | exact b0 | exact Below.trans (by go_grown) (b0.mono (by simp))⟩
end Go.Proofs.YtpkgibdbkmddiaaDoor.th
