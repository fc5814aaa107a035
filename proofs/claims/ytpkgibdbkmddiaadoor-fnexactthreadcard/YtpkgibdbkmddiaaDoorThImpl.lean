import Derived.Test.YtpkgibdbkmddiaaDoorThCode
import Derived.Test.YtpkgibdbkmddiaaDoorThOwn
import Derived.Test.YtpkgibdbkmddiaaDoorChkImpl
import Derived.Test.YtpkgibdbkmddiaaDoorSvPut
namespace Go.Proofs.YtpkgibdbkmddiaaDoor.th
open Go.RowKit Go.Proofs.YtpkgibdbkmddiaaDoor.bts Go.Proofs.YtpkgibdbkmddiaaDoor.pg Go.Proofs.YtpkgibdbkmddiaaDoor.chk Go.Proofs.YtpkgibdbkmddiaaDoor.sv

/-- All of it lies below M. -/
def UnderK (M : Nat) (v : Value) (n : Nat) (ut : Nat → Value) : Prop := (∀ b, v.ownBlock = some b → b < M) ∧ ∀ j, j < n → ∀ b, (ut j).ownBlock = some b → b < M
/-- A call answers this program, in memory of its own: the constants below M, the functions from M on. -/
def Prog (w : World) (q : Pg) (e : Ending) (w' : World) : Prop :=
  ∃ (ak ap : Option Addr) (ck cp M : Nat) (ut uc ud : Nat → Value), e = .returned (.agg #[.slice ak q.consts.length ck, .slice ap q.protos.length cp]) ∧ BK w' w.heap.size (.slice ak q.consts.length ck) q.consts.length (fun j => q.consts.getD j cn0) ut ∧ UnderK M (.slice ak q.consts.length ck) q.consts.length ut ∧ w.heap.size ≤ M ∧
    BP w' M (.slice ap q.protos.length cp) q.protos.length (fun j => q.protos.getD j pr0) uc ud ∧ M ≤ w'.heap.size ∧ Below w.heap.size w w'

set_option maxRecDepth 100000 in
set_option maxHeartbeats 4000000 in
theorem implThread_no (p : Pg) (uk up : Value) (w : World) (hk : RdKV w uk p.consts) (hp : RdPV w up p.protos) (hs : sizePg p ≤ 1048576) (hS : Shp w) (hw0 : 0 < w.heap.size) (hn : ¬ Sound p) :
    Calls Tryd.prog 15 #[.agg #[uk, up]] w (Prog w pg0) := by
  have IM : Hid (∀ W, Below w.heap.size w W → Calls Tryd.prog 23 #[.agg #[uk, up]] W fun e w' => e = .returned (.bool false) ∧ Below W.heap.size W w') := fun W hW => implCheck_any p uk up W (hk.below hW) (hp.below hW) hs (hS.below hW hw0) (by have := hW.size; omega) false (by show _ ↔ _; simp [hn])
  obtain ⟨ak, ck, rfl, _, _⟩ := hk
  obtain ⟨ap, cp, rfl, _, _⟩ := hp
  clear hS hs hn
  go_enter Tryd.func15, Tryd.ntmps15
  go_wp2_with fail
  refine (IM.out _ (by go_grown)).mono ?_
  rintro e w1 ⟨rfl, b1⟩
  simp only [World.size_alloc] at b1
  have HB1 : Hid (Below w.heap.size w w1) := Below.trans (by go_grown) (b1.mono (by omega))
  have L0 : Hid (Lone 32 2 w1 (w.heap.size + 1) [.slice none 0 0, .slice none 0 0]) := by
    refine Lone.of ((b1.block _ (by omega)).trans ?_) rfl
    have := heap_alloc_new (w.alloc (Obj.cells #[.slice ak p.consts.length ck, .slice ap p.protos.length cp] 32)) (Obj.cells #[Value.slice none 0 0, Value.slice none 0 0] 32)
    simpa only [World.size_alloc] using this
  have f0 := L0.out.free 0
  have f1 := L0.out.free 1
  have c0 := L0.out.at (j := 0) (by omega)
  have c1 := L0.out.at (j := 1) (by omega)
  simp only [List.getElem?_cons_zero, List.getElem?_cons_succ] at c0 c1
  have hsz : w.heap.size + 1 + 1 ≤ w1.heap.size := by have := b1.size; simp only [World.size_alloc] at this; omega
  clear b1
  go_wp2_with fail
  have MG := (L0.out.set 0 (.slice none 0 0)).set 1 (.slice none 0 0)
  refine bodyPost_ret (results_cell_row Tryd.results15 _ _ (w.heap.size + 1) 32 _ _ _ rfl (Lone.back MG) Tryd.underlying32 rfl rfl) rfl ?_
  have P2 : w.heap.size ≤ w.heap.size + 1 := by omega
  exact ⟨none, none, 0, 0, w.heap.size, fun _ => .slice none 0 0, fun _ => .slice none 0 0, fun _ => .slice none 0 0, rfl, bk_nil _ _ _ _, ⟨(fun b e => by cases e), fun j hj => absurd hj (by show ¬ j < 0; omega)⟩, Nat.le_refl _, bp_nil _ _ _ _ _, by simp only [World.size_setCell]; omega, (HB1.out.setCell (p := ⟨w.heap.size + 1, 0, none⟩) P2 _).setCell (p := ⟨w.heap.size + 1, 1, none⟩) P2 _⟩

set_option maxRecDepth 100000 in
set_option maxHeartbeats 4000000 in
theorem implThread_yes (p : Pg) (uk up : Value) (w : World) (hk : RdKV w uk p.consts) (hp : RdPV w up p.protos) (hs : sizePg p ≤ 1048576) (hS : Shp w) (hw0 : 0 < w.heap.size) (hn : Sound p) :
    Calls Tryd.prog 15 #[.agg #[uk, up]] w (Prog w (thread p)) := by
  have IM : Hid (∀ W, Below w.heap.size w W → Calls Tryd.prog 23 #[.agg #[uk, up]] W fun e w' => e = .returned (.bool true) ∧ Below W.heap.size W w') := fun W hW => implCheck_any p uk up W (hk.below hW) (hp.below hW) hs (hS.below hW hw0) (by have := hW.size; omega) true (by show _ ↔ _; simp [hn])
  have HSN : Hid (Sound p) := hn
  have HSH : Hid (∀ W, Below w.heap.size w W → Shp W) := fun W h => hS.below h hw0
  have HK : Hid (∀ W, Below w.heap.size w W → RdKV W uk p.consts) := fun W h => hk.below h
  have HP : Hid (∀ W, Below w.heap.size w W → RdPV W up p.protos) := fun W h => hp.below h
  have hnk : p.consts.length ≤ 1048576 := by unfold sizePg sizeK at hs; omega
  have hnp : p.protos.length ≤ 1048576 := by unfold sizePg sizeP at hs; omega
  have HSZ : Hid (∀ i, i < p.protos.length → (p.protos.getD i pr0).caps.length ≤ 1048576 ∧ (p.protos.getD i pr0).code.length ≤ 1048576) := fun i hi => by
    have hz := sumsF_at (f := sizePr) pr0 hi
    unfold sizePg sizeP at hs
    have e : sizePr (p.protos.getD i pr0) = (p.protos.getD i pr0).caps.length + (p.protos.getD i pr0).code.length := rfl
    exact ⟨by omega, by omega⟩
  obtain ⟨ak, ck, rfl, _, _⟩ := hk
  obtain ⟨ap, cp, rfl, _, _⟩ := hp
  clear hS hs hn
  go_enter Tryd.func15, Tryd.ntmps15
  go_wp2_with fail
  refine (IM.out _ (by go_grown)).mono ?_
  rintro e w1 ⟨rfl, b1⟩
  have HB1 : Hid (Below w.heap.size w w1) := Below.trans (by go_grown) (b1.mono (by simp only [World.size_alloc]; omega))
  have L0 : Hid (Lone 32 2 w1 (w.heap.size + 1) [.slice none 0 0, .slice none 0 0]) := by
    refine Lone.of ((b1.block _ (by simp only [World.size_alloc]; omega)).trans ?_) rfl
    have := heap_alloc_new (w.alloc (Obj.cells #[.slice ak p.consts.length ck, .slice ap p.protos.length cp] 32)) (Obj.cells #[Value.slice none 0 0, Value.slice none 0 0] 32)
    simpa only [World.size_alloc] using this
  have z0 := cellB (cellOld (o := .cells #[.slice none 0 0, .slice none 0 0] 32) (cellNew (w := w) (cs := #[.slice ak p.consts.length ck, .slice ap p.protos.length cp]) (t := 32) (j := 0) (v := .slice ak p.consts.length ck) rfl)) b1
  have z1 := cellB (cellOld (o := .cells #[.slice none 0 0, .slice none 0 0] 32) (cellNew (w := w) (cs := #[.slice ak p.consts.length ck, .slice ap p.protos.length cp]) (t := 32) (j := 1) (v := .slice ap p.protos.length cp) rfl)) b1
  have hsz : w.heap.size + 1 + 1 ≤ w1.heap.size := by have := b1.size; simp only [World.size_alloc] at this; omega
  clear b1 IM
  obtain ⟨W1, hW1⟩ : ∃ W1, W1 = w1.alloc (.cells #[.slice none 0 0, .slice none 0 0] 32) := ⟨_, rfl⟩
  have y0 := cellOld (o := .cells #[.slice none 0 0, .slice none 0 0] 32) z0
  have y1 := cellOld (o := .cells #[.slice none 0 0, .slice none 0 0] 32) z1
  have HBW : Hid (Below w.heap.size w W1) := by rw [hW1]; exact HB1.out.alloc HB1.out.size _
  have LR : Hid (Lone 32 2 W1 (w.heap.size + 1) [.slice none 0 0, .slice none 0 0]) := by rw [hW1]; exact L0.out.below ((Below.refl w1.heap.size w1).alloc (Nat.le_refl _) _) (by omega)
  have LO : Hid (Lone 32 2 W1 w1.heap.size [.slice none 0 0, .slice none 0 0]) := by rw [hW1]; exact Lone.of (heap_alloc_new _ _) rfl
  have hsW : W1.heap.size = w1.heap.size + 1 := by rw [hW1]; simp
  have HWX : Hid (W1 = w1.alloc (.cells #[.slice none 0 0, .slice none 0 0] 32)) := hW1
  have HZ0 : Hid (W1.cell? ⟨w.heap.size, 0, none⟩ = some (.slice ak p.consts.length ck)) := by rw [hW1]; exact y0
  have HZ1 : Hid (W1.cell? ⟨w.heap.size, 1, none⟩ = some (.slice ap p.protos.length cp)) := by rw [hW1]; exact y1
  clear hW1 z0 z1 L0
  go_wp2_with fail
  rw [← HWX.out]
  clear y0 y1
  obtain ⟨ik, hik, hkz0, hkz1, hkz2⟩ := info_parts info_const
  obtain ⟨ip, hip, hpz0, hpz1, hpz2⟩ := info_parts info_proto
  go_loopw [15] (fun x wr => ∃ (k : Nat) (av : Option Addr) (cv : Nat) (ut : Nat → Value), k ≤ p.consts.length ∧ x = .int .i64 (k : Int) ∧ Hid (Lone 32 2 wr w1.heap.size [.slice av k cv, .slice none 0 0]) ∧ Hid (BK wr (w1.heap.size + 1) (.slice av k cv) k (fun j => p.consts.getD j cn0) ut) ∧ Hid (Below w1.heap.size W1 wr)) (fun x _ => p.consts.length - (intOf x).toNat)
  case atStart => exact ⟨0, none, 0, fun _ => .slice none 0 0, by omega, rfl, LO.out, bk_nil _ _ _ _, Below.refl _ _⟩
  case round =>
    clear LO
    obtain ⟨k, av, cv, ut, hk, rfl, HLO, HBK, HB⟩ := hrel
    have HBw : Hid (Below w.heap.size w wr) := HBW.out.trans (HB.out.mono (by omega))
    have hsr : w1.heap.size + 1 ≤ wr.heap.size := by have := HB.out.size; omega
    by_cases hlt : k < p.consts.length
    · obtain ⟨_, _, eK, _, rK⟩ := HK.out w (Below.refl _ _)
      simp only [Value.slice.injEq] at eK
      obtain ⟨rfl, -, rfl⟩ := eK
      obtain ⟨b, off, ux, rfl, c0', c1', c2', ht⟩ := rK k hlt
      have c0 := cellB c0' HBw.out
      have c1 := cellB c1' HBw.out
      have c2 := cellB c2' HBw.out
      clear rK c0' c1' c2'
      have htl : (p.consts.getD k cn0).text.length ≤ 5000 := (HSN.out.1.2.1 k hlt).1
      have HDK : Hid (p.consts.getD k cn0 = p.consts.getD k cn0) := rfl
      generalize hdd : p.consts.getD k cn0 = d at c0 c1 ht htl
      have HD : Hid (p.consts.getD k cn0 = d) := hdd
      obtain ⟨kb, nn, tx⟩ := d
      simp only at c0 c1 ht htl
      have CB : Hid (∀ W, Below w.heap.size w W → Calls Tryd.prog 35 #[ux] W fun e w' => ∃ av cv, e = .returned (.slice av tx.length cv) ∧ w'.ownsRow W.heap.size 5 1 (.slice av tx.length cv) tx.length (bcells tx) ∧ Below W.heap.size W w') := fun W hW => cloneB_any ux tx W (ht.below hW) (by omega)
      obtain ⟨aX, cX, rfl, _, _⟩ := ht
      have hlt' : (k : Int) < (p.consts.length : Int) := by omega
      clear hdd HDK
      have HWa : Hid (Below w.heap.size w (wr.alloc (.cells #[.bool kb, .int .i64 nn, .slice aX tx.length cX] 51))) := HBw.out.alloc HBw.out.size _
      have HLc : Hid (Lone 51 3 (wr.alloc (.cells #[.bool kb, .int .i64 nn, .slice aX tx.length cX] 51)) wr.heap.size [.bool kb, .int .i64 nn, .slice aX tx.length cX]) := Lone.of (heap_alloc_new _ _) rfl
      have HLa : Hid (Lone 32 2 (wr.alloc (.cells #[.bool kb, .int .i64 nn, .slice aX tx.length cX] 51)) w1.heap.size [.slice av k cv, .slice none 0 0]) := HLO.out.below ((Below.refl wr.heap.size wr).alloc (Nat.le_refl _) _) (by omega)
      have HBa : Hid (Below wr.heap.size wr (wr.alloc (.cells #[.bool kb, .int .i64 nn, .slice aX tx.length cX] 51))) := (Below.refl _ _).alloc (Nat.le_refl _) _
      go_wp2_with fail
      refine (CB.out _ HWa.out).mono ?_
      rintro e w2 ⟨aT, cT, rfl, oT, b2⟩
      simp only [World.size_alloc] at oT b2 ⊢
      have HL2 : Hid (Lone 51 3 w2 wr.heap.size [.bool kb, .int .i64 nn, .slice aX tx.length cX]) := HLc.out.below b2 (by omega)
      have HP2 : Hid (Lone 32 2 w2 w1.heap.size [.slice av k cv, .slice none 0 0]) := HLa.out.below b2 (by omega)
      have hs2 : wr.heap.size + 1 ≤ w2.heap.size := by have := b2.size; simp only [World.size_alloc] at this; exact this
      have HH2 : Hid (∀ b, b < wr.heap.size → w2.heap[b]? = wr.heap[b]?) := fun b hb => (b2.block b (by omega)).trans (heap_alloc_old _ _ hb)
      have HOT : Hid (w2.ownsRow (wr.heap.size + 1) 5 1 (.slice aT tx.length cT) tx.length (bcells tx)) := oT
      have HB2 : Hid (Below w1.heap.size W1 w2) := HB.out.trans ((HBa.out.trans (b2.mono (by omega))).mono (by omega))
      clear oT b2 HLc HLa HWa HBa
      have f2 := HL2.out.free 2
      have g2 := HL2.out.at (j := 2) (by omega)
      simp only [List.getElem?_cons_succ, List.getElem?_cons_zero] at g2
      have HL3 : Hid (Lone 51 3 (w2.setCell ⟨wr.heap.size, 2, none⟩ (.slice aT tx.length cT)) wr.heap.size [.bool kb, .int .i64 nn, .slice aT tx.length cT]) := HL2.out.set 2 (.slice aT tx.length cT)
      have HP3 : Hid (Lone 32 2 (w2.setCell ⟨wr.heap.size, 2, none⟩ (.slice aT tx.length cT)) w1.heap.size [.slice av k cv, .slice none 0 0]) := HP2.out.other (by omega)
      have q0 := HL3.out.at (j := 0) (by omega)
      have q1 := HL3.out.at (j := 1) (by omega)
      have q2 := HL3.out.at (j := 2) (by omega)
      have r0 := HP3.out.at (j := 0) (by omega)
      simp only [List.getElem?_cons_succ, List.getElem?_cons_zero] at q0 q1 q2 r0
      have HH3 : Hid (∀ b, b < w2.heap.size → b ≠ wr.heap.size → ((w2.setCell ⟨wr.heap.size, 2, none⟩ (.slice aT tx.length cT)).alloc (.cells #[.bool kb, .int .i64 nn, .slice aT tx.length cT] 51)).heap[b]? = w2.heap[b]?) := fun b hb hne => by
        rw [heap_alloc_old _ _ (by simp only [World.size_setCell]; exact hb)]
        exact Below.heap_setCell w2 ⟨wr.heap.size, 2, none⟩ _ b hne
      have HBK3 : Hid (BK ((w2.setCell ⟨wr.heap.size, 2, none⟩ (.slice aT tx.length cT)).alloc (.cells #[.bool kb, .int .i64 nn, .slice aT tx.length cT] 51)) (w1.heap.size + 1) (.slice av k cv) k (fun j => p.consts.getD j cn0) ut) := HBK.out.hold (fun b _ h2 => (HH3.out b (by omega) (by omega)).trans (HH2.out b h2))
      have HT3 : Hid (RwS ((w2.setCell ⟨wr.heap.size, 2, none⟩ (.slice aT tx.length cT)).alloc (.cells #[.bool kb, .int .i64 nn, .slice aT tx.length cT] 51)) (wr.heap.size + 1) (.slice aT tx.length cT) tx) := RwS.hold ⟨⟨_, _, rfl⟩, HOT.out⟩ (fun b h1 h2 _ => HH3.out b h2 (by omega))
      have HB3 : Hid (Below w1.heap.size W1 ((w2.setCell ⟨wr.heap.size, 2, none⟩ (.slice aT tx.length cT)).alloc (.cells #[.bool kb, .int .i64 nn, .slice aT tx.length cT] 51))) := (HB2.out.setCell (p := ⟨wr.heap.size, 2, none⟩) (by show w1.heap.size ≤ wr.heap.size; omega) _).alloc (by simp only [World.size_setCell]; omega) _
      have HP4 : Hid (Lone 32 2 ((w2.setCell ⟨wr.heap.size, 2, none⟩ (.slice aT tx.length cT)).alloc (.cells #[.bool kb, .int .i64 nn, .slice aT tx.length cT] 51)) w1.heap.size [.slice av k cv, .slice none 0 0]) := HP3.out.below ((Below.refl (w2.setCell ⟨wr.heap.size, 2, none⟩ (.slice aT tx.length cT)).heap.size _).alloc (Nat.le_refl _) _) (by simp only [World.size_setCell]; omega)
      have NW : Hid (0 < 1 → ∃ ad, some ⟨w2.heap.size, 0, none⟩ = some ad ∧ ∀ j u, [Value.bool kb, .int .i64 nn, .slice aT tx.length cT][j]? = some u → ((w2.setCell ⟨wr.heap.size, 2, none⟩ (.slice aT tx.length cT)).alloc (.cells #[.bool kb, .int .i64 nn, .slice aT tx.length cT] 51)).cell? (Addr.add ad j) = some u) := fun _ => ⟨_, rfl, by
        have := World.news_of_block (cs := #[.bool kb, .int .i64 nn, .slice aT tx.length cT]) (t := 51) (fr := (0, 0)) (heap_alloc_new (w2.setCell ⟨wr.heap.size, 2, none⟩ (.slice aT tx.length cT)) (.cells #[.bool kb, .int .i64 nn, .slice aT tx.length cT] 51))
        simpa using this⟩
      obtain ⟨us, ho, hux⟩ := HBK3.out.row
      have HUS : Hid (((w2.setCell ⟨wr.heap.size, 2, none⟩ (.slice aT tx.length cT)).alloc (.cells #[.bool kb, .int .i64 nn, .slice aT tx.length cT] 51)).ownsRow (w1.heap.size + 1) 51 3 (.slice av k cv) k us) := ho
      have HUX : Hid _ := hux
      clear ho hux
      go_wp2_with (at_builtin; refine wpList_append_row rfl _ _ _ rfl 51 ik (.agg #[.bool false, .int .i64 0, .slice none 0 0]) 3 40 Tryd.underlying29 hik hkz0 hkz1 hkz2 rfl (by omega) (w1.heap.size + 1) av k cv us rfl HUS.out (some ⟨w2.heap.size, 0, none⟩) 1 1 [.bool kb, .int .i64 nn, .slice aT tx.length cT] rfl rfl NW.out (by simp [Value.oneCell']) (by unfold maxLen; omega) (by omega) (by simp only [World.size_alloc, World.size_setCell]; omega) ?_; intro av' cv' w4 hA; have HA : Hid _ := hA; have HP5 : Hid (Lone 32 2 w4 w1.heap.size [.slice av k cv, .slice none 0 0]) := (Lone.of ((hA.grow.block w1.heap.size (by simp only [World.size_alloc, World.size_setCell]; omega) (fun e => by have := (HUS.out.lt _ e.symm).1; omega)).trans (Lone.back HP4.out)) rfl); have t0 := HP5.out.at (j := 0) (by omega); have tf := HP5.out.free 0; simp only [List.getElem?_cons_zero] at t0; clear hA)
      have HBK5 : Hid (BK w4 (w1.heap.size + 1) (.slice av' (k + 1) cv') (k + 1) (fun j => p.consts.getD j cn0) (ext ut k (.slice aT tx.length cT))) := by
        have h := BK.snoc (x := ⟨kb, nn, tx⟩) HBK3.out (HT3.out.weaken (by omega)) (fun j hj b e e' => by have h1 := ((HBK.out.texts j hj).lt b e).2; have h2 := (HT3.out.lt b e').1; omega) (fun b e e' => by have h1 := (HBK.out.lt b e).2; have h2 := (HT3.out.lt b e').1; omega) us HUS.out HUX.out HA.out
        have e : ext (fun j => p.consts.getD j cn0) k (⟨kb, nn, tx⟩ : Cn) = fun j => p.consts.getD j cn0 := by
          funext j
          by_cases e : j = k
          · subst e; rw [ext_at, HD.out]
          · simp only [ext]; rw [if_neg e]
        rw [e] at h
        exact h
      have HBK6 : Hid (BK (w4.setCell ⟨w1.heap.size, 0, none⟩ (.slice av' (k + 1) cv')) (w1.heap.size + 1) (.slice av' (k + 1) cv') (k + 1) (fun j => p.consts.getD j cn0) (ext ut k (.slice aT tx.length cT))) := HBK5.out.hold (fun b h1 _ => Below.heap_setCell w4 ⟨w1.heap.size, 0, none⟩ _ b (by show b ≠ w1.heap.size; omega))
      have HLO6 : Hid (Lone 32 2 (w4.setCell ⟨w1.heap.size, 0, none⟩ (.slice av' (k + 1) cv')) w1.heap.size [.slice av' (k + 1) cv', .slice none 0 0]) := HP5.out.set 0 (.slice av' (k + 1) cv')
      have HB6 : Hid (Below w1.heap.size W1 (w4.setCell ⟨w1.heap.size, 0, none⟩ (.slice av' (k + 1) cv'))) := (HB3.out.grown HA.out.grow (by simp only [World.size_alloc, World.size_setCell]; omega) (fun k' hk' => by have := (HUS.out.lt k' hk').1; omega)).setCell (p := ⟨w1.heap.size, 0, none⟩) (Nat.le_refl _) _
      clear c0 c1 c2 q0 q1 q2 r0 f2 g2 t0 tf
      go_roundw
      case rel => exact ⟨k + 1, av', cv', _, by omega, by go_num, HLO6.out, HBK6.out, HB6.out⟩
      case measure => simp [intOf]; omega
    · have hkn : k = p.consts.length := by omega
      rw [hkn] at HLO HBK
      have HUN : Hid (UnderK wr.heap.size (.slice av p.consts.length cv) p.consts.length ut) := ⟨fun b e => (HBK.out.lt b e).2, fun j hj b e => ((HBK.out.texts j hj).lt b e).2⟩
      have z1 := cellL HZ1.out HB.out (by omega)
      clear hkn hk
      go_wp2_with fail
      go_loopw [33] (fun x wz => ∃ (k : Nat) (av2 : Option Addr) (cv2 : Nat) (uc ud : Nat → Value), k ≤ p.protos.length ∧ x = .int .i64 (k : Int) ∧ Hid (Lone 32 2 wz w1.heap.size [.slice av p.consts.length cv, .slice av2 k cv2]) ∧ Hid (BK wz (w1.heap.size + 1) (.slice av p.consts.length cv) p.consts.length (fun j => p.consts.getD j cn0) ut) ∧ Hid (BP wz wr.heap.size (.slice av2 k cv2) k (fun j => (thread p).protos.getD j pr0) uc ud) ∧ Hid (wr.heap.size ≤ wz.heap.size) ∧ Hid (Below w1.heap.size W1 wz)) (fun x _ => p.protos.length - (intOf x).toNat)
      case atStart => exact ⟨0, none, 0, fun _ => .slice none 0 0, fun _ => .slice none 0 0, by omega, rfl, HLO.out, HBK.out, bp_nil _ _ _ _ _, Nat.le_refl _, HB.out⟩
      case round =>
        rename World => wz
        clear HLO HBK HB HBw z1
        obtain ⟨k, av2, cv2, uc, ud, hk, rfl, HLO, HBK, HBP, HM, HB⟩ := hrel
        have HBw : Hid (Below w.heap.size w wz) := HBW.out.trans (HB.out.mono (by omega))
        have hM := HM.out
        by_cases hlt : k < p.protos.length
        · obtain ⟨_, _, eP, _, rP⟩ := HP.out w (Below.refl _ _)
          simp only [Value.slice.injEq] at eP
          obtain ⟨rfl, -, rfl⟩ := eP
          obtain ⟨b, off, xc, xd, rfl, c0', c1', c2', c3', hc, hd⟩ := rP k hlt
          have c0 := cellB c0' HBw.out
          have c1 := cellB c1' HBw.out
          have c2 := cellB c2' HBw.out
          have c3 := cellB c3' HBw.out
          clear rP c0' c1' c2' c3'
          have hfits := HSN.out.1.2.2.1 k hlt
          have hok := (HSN.out.2 k hlt).1
          have hx : ∀ i, i < (p.protos.getD k pr0).code.length → XOk (p.protos.getD k pr0).code.length ((p.protos.getD k pr0).code.getD i in0) := fun i hi => insOK_ok (hok i hi)
          have hne0 : 0 < (p.protos.getD k pr0).code.length := hfits.2.2.2.2.1
          obtain ⟨hcl, hdl⟩ := HSZ.out k hlt
          have HD : Hid ((thread p).protos.getD k pr0 = thP (p.protos.getD k pr0)) := by show (p.protos.map thP).getD k pr0 = _; simp [List.getD_eq_getElem?_getD, List.getElem?_eq_getElem hlt]
          clear hfits hok
          generalize p.protos.getD k pr0 = d at c0 c1 hc hd hx hne0 hcl hdl HD
          obtain ⟨fp, fs, fa, fo⟩ := d
          simp only at c0 c1 hc hd hx hne0 hcl hdl
          have CC : Hid (∀ W, Below w.heap.size w W → Calls Tryd.prog 36 #[xc] W fun e w' => ∃ av cv, e = .returned (.slice av fa.length cv) ∧ w'.ownsRow W.heap.size 70 2 (.slice av fa.length cv) fa.length (cpRow fa) ∧ Below W.heap.size W w') := fun W hW => cloneC_any xc fa W (hc.below hW) hcl
          have CT : Hid (∀ W, Below w.heap.size w W → Calls Tryd.prog 37 #[xd] W fun e w' => ∃ av cv us, e = .returned (.slice av fo.length cv) ∧ w'.ownsRow W.heap.size 65 3 (.slice av fo.length cv) fo.length us ∧ (∀ j, j < fo.length → InAt us j (thI fo (fo.getD j in0))) ∧ Below W.heap.size W w') := fun W hW => threadCode_any xd fo W (hd.below hW) hdl hne0 hx (HSH.out W hW) (by have := hW.size; omega)
          obtain ⟨aC, cC, rfl, _, _⟩ := hc
          obtain ⟨aD, cD, rfl, _, _⟩ := hd
          have hlt' : (k : Int) < (p.protos.length : Int) := by omega
          clear hx
          have HWa : Hid (Below w.heap.size w (wz.alloc (.cells #[.int .i64 fp, .int .i64 fs, .slice aC fa.length cC, .slice aD fo.length cD] 56))) := HBw.out.alloc HBw.out.size _
          have HLf : Hid (Lone 56 4 (wz.alloc (.cells #[.int .i64 fp, .int .i64 fs, .slice aC fa.length cC, .slice aD fo.length cD] 56)) wz.heap.size [.int .i64 fp, .int .i64 fs, .slice aC fa.length cC, .slice aD fo.length cD]) := Lone.of (heap_alloc_new _ _) rfl
          have HLa : Hid (Lone 32 2 (wz.alloc (.cells #[.int .i64 fp, .int .i64 fs, .slice aC fa.length cC, .slice aD fo.length cD] 56)) w1.heap.size [.slice av p.consts.length cv, .slice av2 k cv2]) := HLO.out.below ((Below.refl wz.heap.size wz).alloc (Nat.le_refl _) _) (by omega)
          have HBa : Hid (Below wz.heap.size wz (wz.alloc (.cells #[.int .i64 fp, .int .i64 fs, .slice aC fa.length cC, .slice aD fo.length cD] 56))) := (Below.refl _ _).alloc (Nat.le_refl _) _
          go_wp2_with fail
          refine (CC.out _ HWa.out).mono ?_
          rintro e w2 ⟨aT, cT, rfl, oT, b2⟩
          simp only [World.size_alloc] at oT b2 ⊢
          have HL2 : Hid (Lone 56 4 w2 wz.heap.size [.int .i64 fp, .int .i64 fs, .slice aC fa.length cC, .slice aD fo.length cD]) := HLf.out.below b2 (by omega)
          have HP2 : Hid (Lone 32 2 w2 w1.heap.size [.slice av p.consts.length cv, .slice av2 k cv2]) := HLa.out.below b2 (by omega)
          have hs2 : wz.heap.size + 1 ≤ w2.heap.size := by have := b2.size; simp only [World.size_alloc] at this; exact this
          have HH2 : Hid (∀ b, b < wz.heap.size → w2.heap[b]? = wz.heap[b]?) := fun b hb => (b2.block b (by omega)).trans (heap_alloc_old _ _ hb)
          have HOT : Hid (RwC w2 (wz.heap.size + 1) (.slice aT fa.length cT) fa) := ⟨⟨_, _, rfl⟩, _, oT, fun j hj => cpRow_at hj⟩
          have HB2 : Hid (Below w1.heap.size W1 w2) := HB.out.trans ((HBa.out.trans (b2.mono (by omega))).mono (by omega))
          have HBw2 : Hid (Below w.heap.size w (w2.setCell ⟨wz.heap.size, 2, none⟩ (.slice aT fa.length cT))) := (HWa.out.trans (b2.mono (by have := HBw.out.size; omega))).setCell (p := ⟨wz.heap.size, 2, none⟩) HBw.out.size _
          clear oT b2 HLf HLa HWa HBa
          have f2 := HL2.out.free 2
          have g2 := HL2.out.at (j := 2) (by omega)
          simp only [List.getElem?_cons_succ, List.getElem?_cons_zero] at g2
          have HL3 : Hid (Lone 56 4 (w2.setCell ⟨wz.heap.size, 2, none⟩ (.slice aT fa.length cT)) wz.heap.size [.int .i64 fp, .int .i64 fs, .slice aT fa.length cT, .slice aD fo.length cD]) := HL2.out.set 2 (.slice aT fa.length cT)
          have HP3 : Hid (Lone 32 2 (w2.setCell ⟨wz.heap.size, 2, none⟩ (.slice aT fa.length cT)) w1.heap.size [.slice av p.consts.length cv, .slice av2 k cv2]) := HP2.out.other (by omega)
          have q3 := HL3.out.at (j := 3) (by omega)
          simp only [List.getElem?_cons_succ, List.getElem?_cons_zero] at q3
          have HH3 : Hid (∀ b, b ≠ wz.heap.size → (w2.setCell ⟨wz.heap.size, 2, none⟩ (.slice aT fa.length cT)).heap[b]? = w2.heap[b]?) := fun b hne => Below.heap_setCell w2 ⟨wz.heap.size, 2, none⟩ _ b hne
          go_wp2_with fail
          refine (CT.out _ HBw2.out).mono ?_
          rintro e w3 ⟨aU, cU, vs, rfl, oU, hvs, b3⟩
          simp only [World.size_setCell] at oU b3 ⊢
          have HL4 : Hid (Lone 56 4 w3 wz.heap.size [.int .i64 fp, .int .i64 fs, .slice aT fa.length cT, .slice aD fo.length cD]) := HL3.out.below b3 (by omega)
          have HP4 : Hid (Lone 32 2 w3 w1.heap.size [.slice av p.consts.length cv, .slice av2 k cv2]) := HP3.out.below b3 (by omega)
          have hs3 : w2.heap.size ≤ w3.heap.size := by have := b3.size; simp only [World.size_setCell] at this; exact this
          have HH4 : Hid (∀ b, b < w2.heap.size → b ≠ wz.heap.size → w3.heap[b]? = w2.heap[b]?) := fun b hb hne => (b3.block b hb).trans (HH3.out b hne)
          have HOU : Hid (RwI w3 w2.heap.size (.slice aU fo.length cU) (fo.map (thI fo))) := ⟨⟨aU, cU, by rw [List.length_map]⟩, vs, by rw [List.length_map]; exact oU, fun j hj => by rw [List.length_map] at hj; rw [map_getD hj]; exact hvs j hj⟩
          have HB4 : Hid (Below w1.heap.size W1 w3) := (HB2.out.setCell (p := ⟨wz.heap.size, 2, none⟩) (by show w1.heap.size ≤ wz.heap.size; omega) _).trans (b3.mono (by omega))
          clear oU b3 hvs HL3 HP3 HBw2 f2 g2 q3 HH3
          have f3 := HL4.out.free 3
          have g3 := HL4.out.at (j := 3) (by omega)
          simp only [List.getElem?_cons_succ, List.getElem?_cons_zero] at g3
          have HL5 : Hid (Lone 56 4 (w3.setCell ⟨wz.heap.size, 3, none⟩ (.slice aU fo.length cU)) wz.heap.size [.int .i64 fp, .int .i64 fs, .slice aT fa.length cT, .slice aU fo.length cU]) := HL4.out.set 3 (.slice aU fo.length cU)
          have HP5 : Hid (Lone 32 2 (w3.setCell ⟨wz.heap.size, 3, none⟩ (.slice aU fo.length cU)) w1.heap.size [.slice av p.consts.length cv, .slice av2 k cv2]) := HP4.out.other (by omega)
          have q0 := HL5.out.at (j := 0) (by omega)
          have q1 := HL5.out.at (j := 1) (by omega)
          have q2 := HL5.out.at (j := 2) (by omega)
          have q3 := HL5.out.at (j := 3) (by omega)
          have r1 := HP5.out.at (j := 1) (by omega)
          simp only [List.getElem?_cons_succ, List.getElem?_cons_zero] at q0 q1 q2 q3 r1
          have HH5 : Hid (∀ b, b < w3.heap.size → b ≠ wz.heap.size → ((w3.setCell ⟨wz.heap.size, 3, none⟩ (.slice aU fo.length cU)).alloc (.cells #[.int .i64 fp, .int .i64 fs, .slice aT fa.length cT, .slice aU fo.length cU] 56)).heap[b]? = w3.heap[b]?) := fun b hb hne => by
            rw [heap_alloc_old _ _ (by simp only [World.size_setCell]; exact hb)]
            exact Below.heap_setCell w3 ⟨wz.heap.size, 3, none⟩ _ b hne
          have HH6 : Hid (∀ b, b < wz.heap.size → ((w3.setCell ⟨wz.heap.size, 3, none⟩ (.slice aU fo.length cU)).alloc (.cells #[.int .i64 fp, .int .i64 fs, .slice aT fa.length cT, .slice aU fo.length cU] 56)).heap[b]? = wz.heap[b]?) := fun b hb => (HH5.out b (by omega) (by omega)).trans ((HH4.out b (by omega) (by omega)).trans (HH2.out b hb))
          have HBK4 : Hid (BK ((w3.setCell ⟨wz.heap.size, 3, none⟩ (.slice aU fo.length cU)).alloc (.cells #[.int .i64 fp, .int .i64 fs, .slice aT fa.length cT, .slice aU fo.length cU] 56)) (w1.heap.size + 1) (.slice av p.consts.length cv) p.consts.length (fun j => p.consts.getD j cn0) ut) := HBK.out.hold (fun b _ h2 => HH6.out b h2)
          have HBP4 : Hid (BP ((w3.setCell ⟨wz.heap.size, 3, none⟩ (.slice aU fo.length cU)).alloc (.cells #[.int .i64 fp, .int .i64 fs, .slice aT fa.length cT, .slice aU fo.length cU] 56)) wr.heap.size (.slice av2 k cv2) k (fun j => (thread p).protos.getD j pr0) uc ud) := HBP.out.hold (fun b _ h2 => HH6.out b h2)
          have HC4 : Hid (RwC ((w3.setCell ⟨wz.heap.size, 3, none⟩ (.slice aU fo.length cU)).alloc (.cells #[.int .i64 fp, .int .i64 fs, .slice aT fa.length cT, .slice aU fo.length cU] 56)) (wz.heap.size + 1) (.slice aT fa.length cT) fa) := HOT.out.hold (fun b h1 h2 _ => (HH5.out b (by omega) (by omega)).trans (HH4.out b h2 (by omega)))
          have HI4 : Hid (RwI ((w3.setCell ⟨wz.heap.size, 3, none⟩ (.slice aU fo.length cU)).alloc (.cells #[.int .i64 fp, .int .i64 fs, .slice aT fa.length cT, .slice aU fo.length cU] 56)) w2.heap.size (.slice aU fo.length cU) (fo.map (thI fo))) := HOU.out.hold (fun b h1 h2 _ => HH5.out b h2 (by omega))
          have HCL : Hid (∀ b, (Value.slice aT fa.length cT).ownBlock = some b → b < w2.heap.size) := fun b e => (HOT.out.lt b e).2
          have HB5 : Hid (Below w1.heap.size W1 ((w3.setCell ⟨wz.heap.size, 3, none⟩ (.slice aU fo.length cU)).alloc (.cells #[.int .i64 fp, .int .i64 fs, .slice aT fa.length cT, .slice aU fo.length cU] 56))) := (HB4.out.setCell (p := ⟨wz.heap.size, 3, none⟩) (by show w1.heap.size ≤ wz.heap.size; omega) _).alloc (by simp only [World.size_setCell]; omega) _
          have HP6 : Hid (Lone 32 2 ((w3.setCell ⟨wz.heap.size, 3, none⟩ (.slice aU fo.length cU)).alloc (.cells #[.int .i64 fp, .int .i64 fs, .slice aT fa.length cT, .slice aU fo.length cU] 56)) w1.heap.size [.slice av p.consts.length cv, .slice av2 k cv2]) := HP5.out.below ((Below.refl (w3.setCell ⟨wz.heap.size, 3, none⟩ (.slice aU fo.length cU)).heap.size _).alloc (Nat.le_refl _) _) (by simp only [World.size_setCell]; omega)
          have NW : Hid (0 < 1 → ∃ ad, some ⟨w3.heap.size, 0, none⟩ = some ad ∧ ∀ j u, [Value.int .i64 fp, .int .i64 fs, .slice aT fa.length cT, .slice aU fo.length cU][j]? = some u → ((w3.setCell ⟨wz.heap.size, 3, none⟩ (.slice aU fo.length cU)).alloc (.cells #[.int .i64 fp, .int .i64 fs, .slice aT fa.length cT, .slice aU fo.length cU] 56)).cell? (Addr.add ad j) = some u) := fun _ => ⟨_, rfl, by
            have := World.news_of_block (cs := #[.int .i64 fp, .int .i64 fs, .slice aT fa.length cT, .slice aU fo.length cU]) (t := 56) (fr := (0, 0)) (heap_alloc_new (w3.setCell ⟨wz.heap.size, 3, none⟩ (.slice aU fo.length cU)) (.cells #[.int .i64 fp, .int .i64 fs, .slice aT fa.length cT, .slice aU fo.length cU] 56))
            simpa using this⟩
          obtain ⟨us, ho, hux⟩ := HBP4.out.row
          have HUS : Hid (((w3.setCell ⟨wz.heap.size, 3, none⟩ (.slice aU fo.length cU)).alloc (.cells #[.int .i64 fp, .int .i64 fs, .slice aT fa.length cT, .slice aU fo.length cU] 56)).ownsRow wr.heap.size 56 4 (.slice av2 k cv2) k us) := ho
          have HUX : Hid _ := hux
          clear ho hux
          go_wp2_with (at_builtin; refine wpList_append_row rfl _ _ _ rfl 56 ip (.agg #[.int .i64 0, .int .i64 0, .slice none 0 0, .slice none 0 0]) 4 64 Tryd.underlying30 hip hpz0 hpz1 hpz2 rfl (by omega) wr.heap.size av2 k cv2 us rfl HUS.out (some ⟨w3.heap.size, 0, none⟩) 1 1 [.int .i64 fp, .int .i64 fs, .slice aT fa.length cT, .slice aU fo.length cU] rfl rfl NW.out (by simp [Value.oneCell']) (by unfold maxLen; omega) (by omega) (by simp only [World.size_alloc, World.size_setCell]; omega) ?_; intro av' cv' w4 hA; have HA : Hid _ := hA; have HP7 : Hid (Lone 32 2 w4 w1.heap.size [.slice av p.consts.length cv, .slice av2 k cv2]) := (Lone.of ((hA.grow.block w1.heap.size (by simp only [World.size_alloc, World.size_setCell]; omega) (fun e => by have := (HUS.out.lt _ e.symm).1; omega)).trans (Lone.back HP6.out)) rfl); have t1 := HP7.out.at (j := 1) (by omega); have tf := HP7.out.free 1; simp only [List.getElem?_cons_zero, List.getElem?_cons_succ] at t1; clear hA)
          have HBP5 : Hid (BP w4 wr.heap.size (.slice av' (k + 1) cv') (k + 1) (fun j => (thread p).protos.getD j pr0) (ext uc k (.slice aT fa.length cT)) (ext ud k (.slice aU fo.length cU))) := by
            have h := BP.snoc (x := thP ⟨fp, fs, fa, fo⟩) HBP4.out (HC4.out.weaken (by omega)) (HI4.out.weaken (by omega))
              (fun j hj b e e' => by have h1 := ((HBP.out.caps j hj).lt b e).2; have h2 := (HC4.out.lt b e').1; omega)
              (fun j hj b e e' => by have h1 := ((HBP.out.code j hj).lt b e).2; have h2 := (HI4.out.lt b e').1; omega)
              (fun j hj b e e' => by have h1 := ((HBP.out.caps j hj).lt b e).2; have h2 := (HI4.out.lt b e').1; omega)
              (fun j hj b e e' => by have h1 := ((HBP.out.code j hj).lt b e').2; have h2 := (HC4.out.lt b e).1; omega)
              (fun b e e' => by have h1 := HCL.out b e; have h2 := (HI4.out.lt b e').1; omega)
              (fun b e e' => by have h1 := (HBP.out.lt b e).2; have h2 := (HC4.out.lt b e').1; omega)
              (fun b e e' => by have h1 := (HBP.out.lt b e).2; have h2 := (HI4.out.lt b e').1; omega) us HUS.out HUX.out HA.out
            have e : ext (fun j => (thread p).protos.getD j pr0) k (thP ⟨fp, fs, fa, fo⟩) = fun j => (thread p).protos.getD j pr0 := by
              funext j
              by_cases e : j = k
              · subst e; rw [ext_at, HD.out]
              · simp only [ext]; rw [if_neg e]
            rw [e] at h
            exact h
          have HBP6 : Hid (BP (w4.setCell ⟨w1.heap.size, 1, none⟩ (.slice av' (k + 1) cv')) wr.heap.size (.slice av' (k + 1) cv') (k + 1) (fun j => (thread p).protos.getD j pr0) (ext uc k (.slice aT fa.length cT)) (ext ud k (.slice aU fo.length cU))) := HBP5.out.hold (fun b h1 _ => Below.heap_setCell w4 ⟨w1.heap.size, 1, none⟩ _ b (by show b ≠ w1.heap.size; omega))
          have HBK6 : Hid (BK (w4.setCell ⟨w1.heap.size, 1, none⟩ (.slice av' (k + 1) cv')) (w1.heap.size + 1) (.slice av p.consts.length cv) p.consts.length (fun j => p.consts.getD j cn0) ut) := by
            have hK : ∀ b, w1.heap.size + 1 ≤ b → b < wr.heap.size → (w4.setCell ⟨w1.heap.size, 1, none⟩ (.slice av' (k + 1) cv')).heap[b]? = ((w3.setCell ⟨wz.heap.size, 3, none⟩ (.slice aU fo.length cU)).alloc (.cells #[.int .i64 fp, .int .i64 fs, .slice aT fa.length cT, .slice aU fo.length cU] 56)).heap[b]? := fun b h1 h2 => by
              rw [Below.heap_setCell w4 ⟨w1.heap.size, 1, none⟩ _ b (by show b ≠ w1.heap.size; omega)]
              exact HA.out.grow.block b (by simp only [World.size_alloc, World.size_setCell]; omega) (fun e => by have := (HUS.out.lt b e.symm).1; omega)
            obtain ⟨us', ho', hx'⟩ := HBK4.out.row
            exact ⟨⟨us', own_hold ho' (fun b h1 _ e => hK b h1 (HUN.out.1 b e)), hx'⟩, fun j hj => (HBK4.out.texts j hj).hold (fun b h1 _ e => hK b h1 (HUN.out.2 j hj b e)), HBK4.out.apart, HBK4.out.spine⟩
          have HLO6 : Hid (Lone 32 2 (w4.setCell ⟨w1.heap.size, 1, none⟩ (.slice av' (k + 1) cv')) w1.heap.size [.slice av p.consts.length cv, .slice av' (k + 1) cv']) := HP7.out.set 1 (.slice av' (k + 1) cv')
          have HB6 : Hid (Below w1.heap.size W1 (w4.setCell ⟨w1.heap.size, 1, none⟩ (.slice av' (k + 1) cv'))) := (HB5.out.grown HA.out.grow (by simp only [World.size_alloc, World.size_setCell]; omega) (fun k' hk' => by have := (HUS.out.lt k' hk').1; omega)).setCell (p := ⟨w1.heap.size, 1, none⟩) (Nat.le_refl _) _
          have HM6 : Hid (wr.heap.size ≤ (w4.setCell ⟨w1.heap.size, 1, none⟩ (.slice av' (k + 1) cv')).heap.size) := by have := HA.out.grow.size; simp only [World.size_alloc, World.size_setCell] at this; show _ ≤ _; simp only [World.size_setCell]; omega
          clear c0 c1 c2 c3 q0 q1 q2 q3 r1 f3 g3 t1 tf
          go_roundw
          case rel => exact ⟨k + 1, av', cv', _, _, by omega, by go_num, HLO6.out, HBK6.out, HBP6.out, HM6.out, HB6.out⟩
          case measure => simp [intOf]; omega
        · have hkn : k = p.protos.length := by omega
          rw [hkn] at HLO HBP
          have o0 := HLO.out.at (j := 0) (by omega)
          have o1 := HLO.out.at (j := 1) (by omega)
          simp only [List.getElem?_cons_zero, List.getElem?_cons_succ] at o0 o1
          have LRz : Hid (Lone 32 2 wz (w.heap.size + 1) [.slice none 0 0, .slice none 0 0]) := LR.out.below HB.out (by omega)
          have f0 := LRz.out.free 0
          have f1 := LRz.out.free 1
          have c0 := LRz.out.at (j := 0) (by omega)
          have c1 := LRz.out.at (j := 1) (by omega)
          simp only [List.getElem?_cons_zero, List.getElem?_cons_succ] at c0 c1
          clear hkn hk
          go_wp2_with fail
          have MG := (LRz.out.set 0 (.slice av p.consts.length cv)).set 1 (.slice av2 p.protos.length cv2)
          refine bodyPost_ret (results_cell_row Tryd.results15 _ _ (w.heap.size + 1) 32 _ _ _ rfl (Lone.back MG) Tryd.underlying32 rfl rfl) rfl ?_
          have P2 : w.heap.size ≤ w.heap.size + 1 := by omega
          have hH : ∀ b, w1.heap.size + 1 ≤ b → ((wz.setCell ⟨w.heap.size + 1, 0, none⟩ (.slice av p.consts.length cv)).setCell ⟨w.heap.size + 1, 1, none⟩ (.slice av2 p.protos.length cv2)).heap[b]? = wz.heap[b]? := fun b hb => by
            rw [Below.heap_setCell _ ⟨w.heap.size + 1, 1, none⟩ _ b (by show b ≠ w.heap.size + 1; omega), Below.heap_setCell _ ⟨w.heap.size + 1, 0, none⟩ _ b (by show b ≠ w.heap.size + 1; omega)]
          have hpl : (thread p).protos.length = p.protos.length := List.length_map ..
          have hKK := (HBK.out.hold (w' := (wz.setCell ⟨w.heap.size + 1, 0, none⟩ (.slice av p.consts.length cv)).setCell ⟨w.heap.size + 1, 1, none⟩ (.slice av2 p.protos.length cv2)) (fun b h1 _ => hH b h1))
          have hPP := (HBP.out.hold (w' := (wz.setCell ⟨w.heap.size + 1, 0, none⟩ (.slice av p.consts.length cv)).setCell ⟨w.heap.size + 1, 1, none⟩ (.slice av2 p.protos.length cv2)) (fun b h1 _ => hH b (by omega)))
          refine ⟨av, av2, cv, cv2, wr.heap.size, ut, uc, ud, by rw [hpl]; rfl, ?_, HUN.out, by have := HB1.out.size; omega, by rw [hpl]; exact hPP, by simp only [World.size_setCell]; exact HM.out, (HBw.out.setCell (p := ⟨w.heap.size + 1, 0, none⟩) P2 _).setCell (p := ⟨w.heap.size + 1, 1, none⟩) P2 _⟩
          obtain ⟨us', ho', hx'⟩ := hKK.row
          exact ⟨⟨us', own_weaken ho' (by have := HB1.out.size; omega), hx'⟩, fun j hj => (hKK.texts j hj).weaken (by have := HB1.out.size; omega), hKK.apart, hKK.spine⟩
end Go.Proofs.YtpkgibdbkmddiaaDoor.th
