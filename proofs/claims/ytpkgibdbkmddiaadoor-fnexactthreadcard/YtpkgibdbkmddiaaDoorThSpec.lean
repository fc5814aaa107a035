import Derived.Test.YtpkgibdbkmddiaaDoorThCopy
import Derived.Test.YtpkgibdbkmddiaaDoorChkSpec
namespace Go.Proofs.YtpkgibdbkmddiaaDoor.th
open Go.RowKit Go.Proofs.YtpkgibdbkmddiaaDoor.bts Go.Proofs.YtpkgibdbkmddiaaDoor.pg Go.Proofs.YtpkgibdbkmddiaaDoor.chk Go.Proofs.YtpkgibdbkmddiaaDoor.sv

/-- A function whose code's k-th instruction is another. -/
def setI (f : Pr) (k : Nat) (x : In) : Pr := ⟨f.params, f.slots, f.caps, f.code.set k x⟩
theorem setI_at {l : List In} {k j : Nat} {x : In} (hk : k < l.length) : (l.set k x).getD j in0 = if j = k then x else l.getD j in0 := by
  by_cases e : j = k
  · subst e; rw [if_pos rfl]; simp [List.getD_eq_getElem?_getD, List.getElem?_set_self hk]
  · rw [if_neg e]; simp [List.getD_eq_getElem?_getD, List.getElem?_set_ne (Ne.symm e)]

theorem BP.put {w : World} {B n i g c k r : Nat} {v : Value} {d : Nat → Pr} {uc ud : Nat → Value} {z : Int} {x' : In} (h : BP w B v n d uc ud) (hi : i < n) (e : ud i = .slice (some ⟨g, 0, none⟩) (d i).code.length c) (hk : k < (d i).code.length)
    (hr : (r = 1 ∧ x' = ⟨((d i).code.getD k in0).op, z, ((d i).code.getD k in0).b⟩) ∨ (r = 2 ∧ x' = ⟨((d i).code.getD k in0).op, ((d i).code.getD k in0).a, z⟩)) :
    BP (w.setCell ⟨g, k * 3 + r, none⟩ (.int .i64 z)) B v n (ext d i (setI (d i) k x')) uc ud := by
  have hob : (ud i).ownBlock = some g := by rw [e]; rfl
  have hh : ∀ b, b ≠ g → (w.setCell ⟨g, k * 3 + r, none⟩ (.int .i64 z)).heap[b]? = w.heap[b]? := fun b hb => Below.heap_setCell w ⟨g, k * 3 + r, none⟩ _ b hb
  obtain ⟨us, ho, hx⟩ := h.row
  have hd : ∀ j, (ext d i (setI (d i) k x') j).params = (d j).params ∧ (ext d i (setI (d i) k x') j).slots = (d j).slots ∧ (ext d i (setI (d i) k x') j).caps = (d j).caps := fun j => by
    by_cases e : j = i
    · subst e; rw [ext_at]; exact ⟨rfl, rfl, rfl⟩
    · simp only [ext]; rw [if_neg e]; exact ⟨rfl, rfl, rfl⟩
  refine ⟨⟨us, own_hold ho (fun b _ _ e' => hh b (fun e2 => h.spineD i hi b e' (by rw [e2]; exact hob))), fun j hj => by rw [(hd j).1, (hd j).2.1]; exact hx j hj⟩, fun j hj => ?_, fun j hj => ?_, h.apartC, h.apartD, h.cross, h.spineC, h.spineD⟩
  · rw [(hd j).2.2]
    exact (h.caps j hj).hold (fun b _ _ e' => hh b (fun e2 => h.cross j i hj hi b e' (by rw [e2]; exact hob)))
  · by_cases ej : j = i
    · subst ej
      rw [ext_at]
      obtain ⟨⟨a', c', e2⟩, vs, hv, hvx⟩ := h.code j hj
      have hl : (setI (d j) k x').code.length = (d j).code.length := by simp [setI]
      rw [e] at hv
      have s1 := (hv.stored (k * 3 + r) (.int .i64 z)).1
      refine ⟨⟨a', c', by rw [hl, e2]⟩, vs.set (k * 3 + r) (.int .i64 z), by rw [hl, e]; exact s1, fun q hq => ?_⟩
      rw [hl] at hq
      have hvl := hv.1
      rw [show (setI (d j) k x').code = (d j).code.set k x' from rfl, setI_at hk]
      obtain ⟨y0, y1, y2⟩ := hvx q hq
      by_cases eq : q = k
      · rw [if_pos eq]
        subst eq
        rcases hr with ⟨rfl, rfl⟩ | ⟨rfl, rfl⟩
        · exact ⟨by rw [List.getElem?_set_ne (by omega)]; exact y0, by rw [List.getElem?_set_self (by omega)], by rw [List.getElem?_set_ne (by omega)]; exact y2⟩
        · exact ⟨by rw [List.getElem?_set_ne (by omega)]; exact y0, by rw [List.getElem?_set_ne (by omega)]; exact y1, by rw [List.getElem?_set_self (by omega)]⟩
      · rw [if_neg eq]
        have hr2 : r = 1 ∨ r = 2 := by rcases hr with ⟨h, _⟩ | ⟨h, _⟩ <;> omega
        exact ⟨by rw [List.getElem?_set_ne (by omega)]; exact y0, by rw [List.getElem?_set_ne (by omega)]; exact y1, by rw [List.getElem?_set_ne (by omega)]; exact y2⟩
    · have : ext d i (setI (d i) k x') j = d j := by simp only [ext]; rw [if_neg ej]
      rw [this]
      exact (h.code j hj).hold (fun b _ _ e' => hh b (fun e2 => h.apartD j i hj hi ej b e' (by rw [e2]; exact hob)))

/-- A call answers a program that reads so. -/
def Reads (w : World) (q : Pg) (e : Ending) (w' : World) : Prop := ∃ a b, e = .returned (.agg #[a, b]) ∧ RdKV w' a q.consts ∧ RdPV w' b q.protos ∧ Below w.heap.size w w'

theorem ch9 (n : Nat) (h : n < 28) : ((chU (shA n)).toNat = 116 ↔ 18 ≤ n ∧ n ≤ 21) ∧ ((chU (shB n)).toNat = 116 ↔ 26 ≤ n) := by
  revert n; decide

set_option maxRecDepth 100000 in
set_option maxHeartbeats 4000000 in
theorem specThread_yes (p : Pg) (uk up : Value) (w : World) (hk : RdKV w uk p.consts) (hp : RdPV w up p.protos) (hs : sizePg p ≤ 1048576) (hn : Sound p) :
    Calls Tryd.prog 14 #[.agg #[uk, up]] w (Reads w (thread p)) := by
  have SP : Hid (∀ W, Below w.heap.size w W → Calls Tryd.prog 19 #[.agg #[uk, up]] W fun e w' => e = .returned (.bool true) ∧ Below W.heap.size W w') := fun W hW => specCheck_any p uk up W (hk.below hW) (hp.below hW) hs true (by show _ ↔ _; simp [hn])
  have CP : Hid (∀ W, Below w.heap.size w W → Calls Tryd.prog 32 #[.agg #[uk, up]] W (Prog W p)) := fun W hW => l5copy_any p uk up W (hk.below hW) (hp.below hW) hs
  have OK1 : Hid (KOk p.consts) := hk.ok
  have OK2 : Hid (POk p.protos) := hp.ok
  have HSN : Hid (Sound p) := hn
  have HP : Hid (∀ W, Below w.heap.size w W → RdPV W up p.protos) := fun W h => hp.below h
  have hnk : p.consts.length ≤ 1048576 := by unfold sizePg sizeK at hs; omega
  have hnp : p.protos.length ≤ 1048576 := by unfold sizePg sizeP at hs; omega
  have HSZ : Hid (∀ i, i < p.protos.length → (p.protos.getD i pr0).caps.length ≤ 1048576 ∧ (p.protos.getD i pr0).code.length ≤ 1048576) := fun i hi => by
    have hz := sumsF_at (f := sizePr) pr0 hi
    unfold sizePg sizeP at hs
    have e : sizePr (p.protos.getD i pr0) = (p.protos.getD i pr0).caps.length + (p.protos.getD i pr0).code.length := rfl
    exact ⟨by omega, by omega⟩
  obtain ⟨ak, ck, rfl, _, _⟩ := hk
  obtain ⟨ap, cp, rfl, _, _⟩ := hp
  clear hs hn
  go_enter Tryd.func14, Tryd.ntmps14
  go_wp2_with fail
  refine (SP.out _ (by go_grown)).mono ?_
  rintro e w1 ⟨rfl, b1⟩
  have HB1 : Hid (Below w.heap.size w w1) := Below.trans (by go_grown) (b1.mono (by simp only [World.size_alloc]; omega))
  have L0 : Hid (Lone 32 2 w1 (w.heap.size + 1) [.slice none 0 0, .slice none 0 0]) := by
    refine Lone.of ((b1.block _ (by simp only [World.size_alloc]; omega)).trans ?_) rfl
    have := heap_alloc_new (w.alloc (Obj.cells #[.slice ak p.consts.length ck, .slice ap p.protos.length cp] 32)) (Obj.cells #[Value.slice none 0 0, Value.slice none 0 0] 32)
    simpa only [World.size_alloc] using this
  have z0 := cellB (cellOld (o := .cells #[.slice none 0 0, .slice none 0 0] 32) (cellNew (w := w) (cs := #[.slice ak p.consts.length ck, .slice ap p.protos.length cp]) (t := 32) (j := 0) (v := .slice ak p.consts.length ck) rfl)) b1
  have z1 := cellB (cellOld (o := .cells #[.slice none 0 0, .slice none 0 0] 32) (cellNew (w := w) (cs := #[.slice ak p.consts.length ck, .slice ap p.protos.length cp]) (t := 32) (j := 1) (v := .slice ap p.protos.length cp) rfl)) b1
  have hsz : w.heap.size + 1 + 1 ≤ w1.heap.size := by have := b1.size; simp only [World.size_alloc] at this; omega
  clear b1 SP
  go_wp2_with fail
  refine (CP.out w1 HB1.out).mono ?_
  rintro e w2 ⟨bk, bp, ek, ep, M, ut, uc, ud, rfl, hBK, hUN, hM1, hBP, hM2, b2⟩
  obtain ⟨W3, hW3⟩ : ∃ W3, W3 = w2.alloc (.cells #[.slice bk p.consts.length ek, .slice bp p.protos.length ep] 32) := ⟨_, rfl⟩
  have HBW : Hid (Below w.heap.size w W3) := by rw [hW3]; exact (HB1.out.trans (b2.mono HB1.out.size)).alloc (by have := b2.size; omega) _
  have HZ1 : Hid (W3.cell? ⟨w.heap.size, 1, none⟩ = some (.slice ap p.protos.length cp)) := by rw [hW3]; exact cellOld (cellB z1 b2)
  have LR : Hid (Lone 32 2 W3 (w.heap.size + 1) [.slice none 0 0, .slice none 0 0]) := by rw [hW3]; exact (L0.out.below b2 (by omega)).below ((Below.refl w2.heap.size w2).alloc (Nat.le_refl _) _) (by have := b2.size; omega)
  have HO0 : Hid (W3.cell? ⟨w2.heap.size, 0, none⟩ = some (.slice bk p.consts.length ek)) := by rw [hW3]; exact cellNew rfl
  have HO1 : Hid (W3.cell? ⟨w2.heap.size, 1, none⟩ = some (.slice bp p.protos.length ep)) := by rw [hW3]; exact cellNew rfl
  have HBK : Hid (BK W3 w1.heap.size (.slice bk p.consts.length ek) p.consts.length (fun j => p.consts.getD j cn0) ut) := by rw [hW3]; exact hBK.hold (fun b _ h2 => heap_alloc_old _ _ h2)
  have HBP : Hid (BP W3 M (.slice bp p.protos.length ep) p.protos.length (fun j => p.protos.getD j pr0) uc ud) := by rw [hW3]; exact hBP.hold (fun b _ h2 => heap_alloc_old _ _ h2)
  have HBL : Hid (∀ j, j < p.protos.length → ∀ b, (ud j).ownBlock = some b → b < w2.heap.size) := fun j hj b e => ((hBP.code j hj).lt b e).2
  have HUN : Hid (UnderK M (.slice bk p.consts.length ek) p.consts.length ut) := hUN
  have hsW : W3.heap.size = w2.heap.size + 1 := by rw [hW3]; simp
  have hM3 : w.heap.size + 2 ≤ M := by omega
  have hs12 : w1.heap.size ≤ w2.heap.size := b2.size
  have HWX : Hid (W3 = w2.alloc (.cells #[.slice bk p.consts.length ek, .slice bp p.protos.length ep] 32)) := hW3
  have y1 := cellOld (o := (.cells #[.slice bk p.consts.length ek, .slice bp p.protos.length ep] 32)) (cellB z1 b2)
  clear hW3 hBK hBP hUN b2 z0 z1 L0 CP
  go_wp2_with fail
  rw [← HWX.out]
  clear y1
  go_loopw [4] (fun x wr => ∃ (i : Nat) (D : Nat → Pr), i ≤ p.protos.length ∧ x = .int .i64 (i : Int) ∧ Hid (BP wr M (.slice bp p.protos.length ep) p.protos.length D uc ud) ∧ Hid ((∀ j, j < i → D j = thP (p.protos.getD j pr0)) ∧ ∀ j, i ≤ j → D j = p.protos.getD j pr0) ∧ Hid (Lone 32 2 wr w2.heap.size [.slice bk p.consts.length ek, .slice bp p.protos.length ep]) ∧ Hid (Below M W3 wr)) (fun x _ => p.protos.length - (intOf x).toNat)
  case atStart => exact ⟨0, _, by omega, rfl, HBP.out, ⟨fun j hj => absurd hj (by omega), fun j _ => rfl⟩, Lone.of (by rw [HWX.out]; exact heap_alloc_new _ _) rfl, Below.refl _ _⟩
  case round =>
    clear HBP HO0 HO1
    obtain ⟨i, D, hi, rfl, HBP, HDD, HLO, HB⟩ := hrel
    have hsr : w2.heap.size + 1 ≤ wr.heap.size := by have := HB.out.size; omega
    have HBw : Hid (Below w.heap.size w wr) := HBW.out.trans (HB.out.mono (by omega))
    have z1 := cellL HZ1.out HB.out (by omega)
    by_cases hlt : i < p.protos.length
    · obtain ⟨_, _, eP, _, rP⟩ := HP.out w (Below.refl _ _)
      simp only [Value.slice.injEq] at eP
      obtain ⟨rfl, -, rfl⟩ := eP
      obtain ⟨b, off, xc, xd, rfl, _, _, _, c3', _, hd⟩ := rP i hlt
      have c3 := cellB c3' HBw.out
      clear rP c3'
      have hx : ∀ q, q < (p.protos.getD i pr0).code.length → XOk (p.protos.getD i pr0).code.length ((p.protos.getD i pr0).code.getD q in0) := fun q hq => insOK_ok ((HSN.out.2 i hlt).1 q hq)
      obtain ⟨hcl, hdl⟩ := HSZ.out i hlt
      have HDi : Hid (D i = p.protos.getD i pr0) := HDD.out.2 i (Nat.le_refl _)
      generalize hdd : p.protos.getD i pr0 = d at hd hx hcl hdl HDi
      have HD : Hid (p.protos.getD i pr0 = d) := hdd
      obtain ⟨fp, fs, fa, fo⟩ := d
      simp only at hd hx hcl hdl
      have HX : Hid (∀ q, q < fo.length → XOk fo.length (fo.getD q in0)) := hx
      have HDc : Hid (∀ W, Below w.heap.size w W → RdIV W xd fo) := fun W h => hd.below h
      obtain ⟨aD, cD, rfl, _, _⟩ := hd
      have hlt' : (i : Int) < (p.protos.length : Int) := by omega
      clear hdd hx
      go_wp2_with fail
      go_loopw [6] (fun x wq => ∃ (k : Nat) (E : Nat → Pr) (c : List In), k ≤ fo.length ∧ x = .int .i64 (k : Int) ∧ Hid (BP wq M (.slice bp p.protos.length ep) p.protos.length E uc ud) ∧ Hid ((∀ j, j ≠ i → E j = D j) ∧ E i = ⟨fp, fs, fa, c⟩ ∧ c.length = fo.length ∧ (∀ q, q < k → c.getD q in0 = thI fo (fo.getD q in0)) ∧ ∀ q, k ≤ q → c.getD q in0 = fo.getD q in0) ∧ Hid (Lone 32 2 wq w2.heap.size [.slice bk p.consts.length ek, .slice bp p.protos.length ep]) ∧ Hid (Below M W3 wq)) (fun x _ => fo.length - (intOf x).toNat)
      case atStart => exact ⟨0, D, fo, by omega, rfl, HBP.out, ⟨fun _ _ => rfl, HDi.out, rfl, fun q hq => absurd hq (by omega), fun _ _ => rfl⟩, HLO.out, HB.out⟩
      case round =>
        rename World => wq
        clear HBP HLO HB HBw z1 c3
        obtain ⟨k, E, c, hk, rfl, HBP, HE, HLO, HB⟩ := hrel
        have hsr : w2.heap.size + 1 ≤ wq.heap.size := by have := HB.out.size; omega
        have HBw : Hid (Below w.heap.size w wq) := HBW.out.trans (HB.out.mono (by omega))
        by_cases hkt : k < fo.length
        · obtain ⟨_, _, eD, _, rD⟩ := HDc.out w (Below.refl _ _)
          simp only [Value.slice.injEq] at eD
          obtain ⟨rfl, -, rfl⟩ := eD
          obtain ⟨bd, od, rfl, d0', d1', d2'⟩ := rD k hkt
          have d0 := cellB d0' HBw.out
          clear rD
          have hxk := HX.out k hkt
          obtain ⟨op, hop, eop⟩ := op_cases hxk.lo hxk.hi
          have h9 := ch9 op hop
          have hjmp := hxk.jmp
          have hloop := hxk.loop
          generalize hxx : fo.getD k in0 = x at d0 d0' d1' d2' eop hjmp hloop
          have HXK : Hid (fo.getD k in0 = x) := hxx
          obtain ⟨xo, xa, xb⟩ := x
          simp only at d0 d0' d1' d2' eop hjmp hloop
          subst eop
          have hkt' : (k : Int) < (fo.length : Int) := by omega
          have C := l4row_any op hop wq
          generalize chU (shA op) = ca at C h9
          generalize chU (shB op) = cb at C h9
          generalize tk op = tkk at C
          generalize lvS op = lvv at C
          clear hxx hxk d0'
          obtain ⟨gd, cd, eU, hgd1, hgd2⟩ : ∃ g c', ud i = .slice (some ⟨g, 0, none⟩) fo.length c' ∧ M ≤ g ∧ g < w2.heap.size := by
            obtain ⟨_, vs, hv, _⟩ := HBP.out.code i hlt
            rw [HE.out.2.1] at hv
            simp only [HE.out.2.2.1] at hv
            obtain ⟨g, c', e, h1, h2⟩ := hv.form (by omega)
            exact ⟨g, c', e, h1, HBL.out i hlt g (by rw [e]; rfl)⟩
          obtain ⟨gp, cp', eV, hgp⟩ : ∃ g c', (Value.slice bp p.protos.length ep) = .slice (some ⟨g, 0, none⟩) p.protos.length c' ∧ M ≤ g := by
            obtain ⟨vs, hv, _⟩ := HBP.out.row
            obtain ⟨g, c', e, h1, _⟩ := hv.form (by omega)
            exact ⟨g, c', e, h1⟩
          simp only [Value.slice.injEq, true_and] at eV
          obtain ⟨rfl, rfl⟩ := eV
          go_wp2_with fail
          refine C.mono ?_
          rintro e w4 ⟨rfl, b4⟩
          clear C
          have HB4 : Hid (Below M W3 w4) := HB.out.trans (b4.mono (by have := hM2; omega))
          have HBw4 : Hid (Below w.heap.size w w4) := HBw.out.trans (b4.mono HBw.out.size)
          have HBP4 : Hid (BP w4 M (.slice (some ⟨gp, 0, none⟩) p.protos.length ep) p.protos.length E uc ud) := HBP.out.hold (fun b _ h2 => b4.block b h2)
          have HLO4 : Hid (Lone 32 2 w4 w2.heap.size [.slice bk p.consts.length ek, .slice (some ⟨gp, 0, none⟩) p.protos.length ep]) := HLO.out.below b4 (by omega)
          have d1 := cellB d1' HBw4.out
          have d2 := cellB d2' HBw4.out
          have o1 := HLO4.out.at (j := 1) (by omega)
          simp only [List.getElem?_cons_zero, List.getElem?_cons_succ] at o1
          have v3 : w4.cell? ⟨gp, i * 4 + 3, none⟩ = some (.slice (some ⟨gd, 0, none⟩) fo.length cd) := by
            obtain ⟨vs, hv, hvx⟩ := HBP4.out.row
            rw [hv.cellAt _ (by omega), (hvx i hlt).2.2.2, eU]
          clear b4 d0
          by_cases hA : 18 ≤ op ∧ op ≤ 21
          · have hc1 : (ca.toNat : Int) = 116 := by have := h9.1.2 hA; omega
            have hc2 : ¬ (cb.toNat : Int) = 116 := fun e => by have := h9.2.1 (by omega); omega
            obtain ⟨ha0, ha1⟩ := hjmp (by omega) (by omega)
            obtain ⟨t, ht⟩ : ∃ t : Nat, xa = (t : Int) := ⟨xa.toNat, by omega⟩
            subst ht
            have htN : t < fo.length := by omega
            have hb0 : (((({ data := #[ca, cb] } : ByteArray)[0]'(show 0 < 2 by omega)).toNat : Int) == 116) = true := by show ((ca.toNat : Int) == 116) = true; simpa using hc1
            have hb1 : (((({ data := #[ca, cb] } : ByteArray)[1]'(show 1 < 2 by omega)).toNat : Int) == 116) = false := by show ((cb.toNat : Int) == 116) = false; simpa using hc2
            have HTH : Hid (thI fo (fo.getD k in0) = ⟨(op : Int), (lastF fo t : Int), xb⟩) := by show _ = _; rw [HXK.out]; unfold thI; simp only; rw [if_pos (by omega)]; simp only [Int.toNat_natCast]
            have CL : Hid (∀ W, Below w.heap.size w W → Calls Tryd.prog 34 #[.slice (some ⟨bd, od, none⟩) fo.length cD, .int .i64 (t : Int)] W fun e w' => e = .returned (.int .i64 (lastF fo t : Nat)) ∧ w' = W) := fun W hW => by
              obtain ⟨_, _, e, _, h⟩ := HDc.out W hW
              simp only [Value.slice.injEq] at e
              obtain ⟨rfl, -, rfl⟩ := e
              exact l5last_any _ cD fo t W h hdl htN HX.out
            have hc4 : (E i).code = c := by rw [HE.out.2.1]
            have hcl4 : (E i).code.length = fo.length := by rw [hc4, HE.out.2.2.1]
            have hck : (E i).code.getD k in0 = ⟨(op : Int), (t : Int), xb⟩ := by rw [hc4, HE.out.2.2.2.2 k (Nat.le_refl _), HXK.out]
            have HBP4d : Hid (BP w4.drew M (.slice (some ⟨gp, 0, none⟩) p.protos.length ep) p.protos.length E uc ud) := HBP4.out.hold (fun _ _ _ => rfl)
            have HPT := BP.put (g := gd) (c := cd) (k := k) (r := 1) (z := (lastF fo t : Int)) (x' := ⟨(op : Int), (lastF fo t : Int), xb⟩) HBP4d.out hlt (by rw [hcl4]; exact eU) (by omega) (.inl ⟨rfl, by rw [hck]⟩)
            have HPU : Hid (BP (w4.drew.setCell ⟨gd, k * 3 + 1, none⟩ (.int .i64 (lastF fo t : Int))) M (.slice (some ⟨gp, 0, none⟩) p.protos.length ep) p.protos.length (ext E i (setI (E i) k ⟨(op : Int), (lastF fo t : Int), xb⟩)) uc ud) := HPT
            have HE2 : Hid ((∀ j, j ≠ i → (ext E i (setI (E i) k ⟨(op : Int), (lastF fo t : Int), xb⟩)) j = D j) ∧ (ext E i (setI (E i) k ⟨(op : Int), (lastF fo t : Int), xb⟩)) i = ⟨fp, fs, fa, c.set k ⟨(op : Int), (lastF fo t : Int), xb⟩⟩ ∧ (c.set k ⟨(op : Int), (lastF fo t : Int), xb⟩).length = fo.length ∧ (∀ q, q < k + 1 → (c.set k ⟨(op : Int), (lastF fo t : Int), xb⟩).getD q in0 = thI fo (fo.getD q in0)) ∧ ∀ q, k + 1 ≤ q → (c.set k ⟨(op : Int), (lastF fo t : Int), xb⟩).getD q in0 = fo.getD q in0) := by
              refine ⟨fun j hj => ?_, ?_, by rw [List.length_set]; exact HE.out.2.2.1, fun q hq => ?_, fun q hq => ?_⟩
              · simp only [ext]; rw [if_neg hj]; exact HE.out.1 j hj
              · rw [ext_at]; unfold setI; rw [HE.out.2.1]
              · rw [setI_at (by rw [HE.out.2.2.1]; exact hkt)]
                by_cases e : q = k
                · rw [if_pos e, e, HTH.out]
                · rw [if_neg e]; exact HE.out.2.2.2.1 q (by omega)
              · rw [setI_at (by rw [HE.out.2.2.1]; exact hkt), if_neg (by omega)]; exact HE.out.2.2.2.2 q (by omega)
            have hne1 : gd ≠ w2.heap.size := by omega
            have hne2 : gd ≠ gp := fun e => HBP4.out.spineD i hlt gp rfl (by rw [eU, e]; rfl)
            have hne3 : gd ≠ bd := by have := World.block_lt_of_cell? _ _ d1'; simp only at this; omega
            have HLO5 : Hid (Lone 32 2 (w4.drew.setCell ⟨gd, k * 3 + 1, none⟩ (.int .i64 (lastF fo t : Int))) w2.heap.size [.slice bk p.consts.length ek, .slice (some ⟨gp, 0, none⟩) p.protos.length ep]) := Lone.other (Lone.of (Lone.back HLO4.out) rfl : Lone 32 2 w4.drew w2.heap.size _) hne1
            have HB5 : Hid (Below M W3 (w4.drew.setCell ⟨gd, k * 3 + 1, none⟩ (.int .i64 (lastF fo t : Int)))) := HB4.out.drew.setCell (p := ⟨gd, k * 3 + 1, none⟩) hgd1 _
            obtain ⟨fF, uC, eC⟩ : w4.frozen? ⟨gd, k * 3 + 1, none⟩ = false ∧ ∃ u, w4.cell? ⟨gd, k * 3 + 1, none⟩ = some u := by
              obtain ⟨_, vs, hv, _⟩ := HBP4.out.code i hlt
              rw [hcl4, eU] at hv
              have hl := hv.1
              exact ⟨hv.frozenAt _, _, (hv.cellAt _ (by omega)).trans (List.getElem?_eq_getElem (by omega))⟩
            have hkI : (k : Int) < (fo.length : Int) := by omega
            clear HPT hjmp hloop hc1 hc2 h9
            have hi0 : (0 : Int) ≤ (i : Int) := by omega
            have hk0 : (0 : Int) ≤ (k : Int) := by omega
            have fFd : w4.drew.frozen? ⟨gd, k * 3 + 1, none⟩ = false := fF
            have eCd : w4.drew.cell? ⟨gd, k * 3 + 1, none⟩ = some uC := eC
            have HBd : Hid (Below w.heap.size w w4.drew) := HBw4.out.drew
            go_wp2_with fail
            go_region_held3 (fun W => W.cell? ⟨w2.heap.size, 1, none⟩ = some (.slice (some ⟨gp, 0, none⟩) p.protos.length ep) ∧ W.cell? ⟨gp, i * 4 + 3, none⟩ = some (.slice (some ⟨gd, 0, none⟩) fo.length cd) ∧ W.cell? ⟨bd, od + k * 3 + 1, none⟩ = some (.int .i64 (t : Int))) (first | exact ⟨o1, v3, d1⟩ | exact ⟨(cell_far hne1).trans o1, (cell_far hne2).trans v3, (cell_far hne3).trans d1⟩) (first | (go_at_call 34; refine (CL.out _ HBd.out).mono ?_; rintro e w5 ⟨rfl, rfl⟩))
            clear d1 d2 o1 v3 fF eC fFd eCd
            go_wp2_with fail
            go_roundw
            case rel => exact ⟨k + 1, _, _, by omega, by go_num, HPU.out, HE2.out, HLO5.out, HB5.out⟩
            case measure => simp [intOf]; omega
          · by_cases hB : 26 ≤ op
            · have hc1 : ¬ (ca.toNat : Int) = 116 := fun e => by have := h9.1.1 (by omega); omega
              have hc2 : (cb.toNat : Int) = 116 := by have := h9.2.2 hB; omega
              obtain ⟨ha0, ha1⟩ := hloop (by omega)
              obtain ⟨t, ht⟩ : ∃ t : Nat, xb = (t : Int) := ⟨xb.toNat, by omega⟩
              subst ht
              have htN : t < fo.length := by omega
              have hb0 : (((({ data := #[ca, cb] } : ByteArray)[0]'(show 0 < 2 by omega)).toNat : Int) == 116) = false := by show ((ca.toNat : Int) == 116) = false; simpa using hc1
              have hb1 : (((({ data := #[ca, cb] } : ByteArray)[1]'(show 1 < 2 by omega)).toNat : Int) == 116) = true := by show ((cb.toNat : Int) == 116) = true; simpa using hc2
              have HTH : Hid (thI fo (fo.getD k in0) = ⟨(op : Int), xa, (lastF fo t : Int)⟩) := by show _ = _; rw [HXK.out]; unfold thI; simp only; rw [if_neg (by omega), if_pos (by omega)]; simp only [Int.toNat_natCast]
              have CL : Hid (∀ W, Below w.heap.size w W → Calls Tryd.prog 34 #[.slice (some ⟨bd, od, none⟩) fo.length cD, .int .i64 (t : Int)] W fun e w' => e = .returned (.int .i64 (lastF fo t : Nat)) ∧ w' = W) := fun W hW => by
                obtain ⟨_, _, e, _, h⟩ := HDc.out W hW
                simp only [Value.slice.injEq] at e
                obtain ⟨rfl, -, rfl⟩ := e
                exact l5last_any _ cD fo t W h hdl htN HX.out
              have hc4 : (E i).code = c := by rw [HE.out.2.1]
              have hcl4 : (E i).code.length = fo.length := by rw [hc4, HE.out.2.2.1]
              have hck : (E i).code.getD k in0 = ⟨(op : Int), xa, (t : Int)⟩ := by rw [hc4, HE.out.2.2.2.2 k (Nat.le_refl _), HXK.out]
              have HBP4d : Hid (BP w4.drew M (.slice (some ⟨gp, 0, none⟩) p.protos.length ep) p.protos.length E uc ud) := HBP4.out.hold (fun _ _ _ => rfl)
              have HPT := BP.put (g := gd) (c := cd) (k := k) (r := 2) (z := (lastF fo t : Int)) (x' := ⟨(op : Int), xa, (lastF fo t : Int)⟩) HBP4d.out hlt (by rw [hcl4]; exact eU) (by omega) (.inr ⟨rfl, by rw [hck]⟩)
              have HPU : Hid (BP (w4.drew.setCell ⟨gd, k * 3 + 2, none⟩ (.int .i64 (lastF fo t : Int))) M (.slice (some ⟨gp, 0, none⟩) p.protos.length ep) p.protos.length (ext E i (setI (E i) k ⟨(op : Int), xa, (lastF fo t : Int)⟩)) uc ud) := HPT
              have HE2 : Hid ((∀ j, j ≠ i → (ext E i (setI (E i) k ⟨(op : Int), xa, (lastF fo t : Int)⟩)) j = D j) ∧ (ext E i (setI (E i) k ⟨(op : Int), xa, (lastF fo t : Int)⟩)) i = ⟨fp, fs, fa, c.set k ⟨(op : Int), xa, (lastF fo t : Int)⟩⟩ ∧ (c.set k ⟨(op : Int), xa, (lastF fo t : Int)⟩).length = fo.length ∧ (∀ q, q < k + 1 → (c.set k ⟨(op : Int), xa, (lastF fo t : Int)⟩).getD q in0 = thI fo (fo.getD q in0)) ∧ ∀ q, k + 1 ≤ q → (c.set k ⟨(op : Int), xa, (lastF fo t : Int)⟩).getD q in0 = fo.getD q in0) := by
                refine ⟨fun j hj => ?_, ?_, by rw [List.length_set]; exact HE.out.2.2.1, fun q hq => ?_, fun q hq => ?_⟩
                · simp only [ext]; rw [if_neg hj]; exact HE.out.1 j hj
                · rw [ext_at]; unfold setI; rw [HE.out.2.1]
                · rw [setI_at (by rw [HE.out.2.2.1]; exact hkt)]
                  by_cases e : q = k
                  · rw [if_pos e, e, HTH.out]
                  · rw [if_neg e]; exact HE.out.2.2.2.1 q (by omega)
                · rw [setI_at (by rw [HE.out.2.2.1]; exact hkt), if_neg (by omega)]; exact HE.out.2.2.2.2 q (by omega)
              have hne1 : gd ≠ w2.heap.size := by omega
              have hne2 : gd ≠ gp := fun e => HBP4.out.spineD i hlt gp rfl (by rw [eU, e]; rfl)
              have hne3 : gd ≠ bd := by have := World.block_lt_of_cell? _ _ d2'; simp only at this; omega
              have HLO5 : Hid (Lone 32 2 (w4.drew.setCell ⟨gd, k * 3 + 2, none⟩ (.int .i64 (lastF fo t : Int))) w2.heap.size [.slice bk p.consts.length ek, .slice (some ⟨gp, 0, none⟩) p.protos.length ep]) := Lone.other (Lone.of (Lone.back HLO4.out) rfl : Lone 32 2 w4.drew w2.heap.size _) hne1
              have HB5 : Hid (Below M W3 (w4.drew.setCell ⟨gd, k * 3 + 2, none⟩ (.int .i64 (lastF fo t : Int)))) := HB4.out.drew.setCell (p := ⟨gd, k * 3 + 2, none⟩) hgd1 _
              obtain ⟨fF, uC, eC⟩ : w4.frozen? ⟨gd, k * 3 + 2, none⟩ = false ∧ ∃ u, w4.cell? ⟨gd, k * 3 + 2, none⟩ = some u := by
                obtain ⟨_, vs, hv, _⟩ := HBP4.out.code i hlt
                rw [hcl4, eU] at hv
                have hl := hv.1
                exact ⟨hv.frozenAt _, _, (hv.cellAt _ (by omega)).trans (List.getElem?_eq_getElem (by omega))⟩
              have hkI : (k : Int) < (fo.length : Int) := by omega
              clear HPT hjmp hloop hc1 hc2 h9
              have hi0 : (0 : Int) ≤ (i : Int) := by omega
              have hk0 : (0 : Int) ≤ (k : Int) := by omega
              have fFd : w4.drew.frozen? ⟨gd, k * 3 + 2, none⟩ = false := fF
              have eCd : w4.drew.cell? ⟨gd, k * 3 + 2, none⟩ = some uC := eC
              have HBd : Hid (Below w.heap.size w w4.drew) := HBw4.out.drew
              go_wp2_with fail
              go_region_held3 (fun W => W.cell? ⟨w2.heap.size, 1, none⟩ = some (.slice (some ⟨gp, 0, none⟩) p.protos.length ep) ∧ W.cell? ⟨gp, i * 4 + 3, none⟩ = some (.slice (some ⟨gd, 0, none⟩) fo.length cd) ∧ W.cell? ⟨bd, od + k * 3 + 2, none⟩ = some (.int .i64 (t : Int))) (first | exact ⟨o1, v3, d2⟩ | exact ⟨(cell_far hne1).trans o1, (cell_far hne2).trans v3, (cell_far hne3).trans d2⟩) (first | (go_at_call 34; refine (CL.out _ HBd.out).mono ?_; rintro e w5 ⟨rfl, rfl⟩))
              clear d1 d2 o1 v3 fF eC fFd eCd
              go_wp2_with fail
              go_roundw
              case rel => exact ⟨k + 1, _, _, by omega, by go_num, HPU.out, HE2.out, HLO5.out, HB5.out⟩
              case measure => simp [intOf]; omega
            · have hc1 : ¬ (ca.toNat : Int) = 116 := fun e => by have := h9.1.1 (by omega); omega
              have hc2 : ¬ (cb.toNat : Int) = 116 := fun e => by have := h9.2.1 (by omega); omega
              have hb0 : (((({ data := #[ca, cb] } : ByteArray)[0]'(show 0 < 2 by omega)).toNat : Int) == 116) = false := by show ((ca.toNat : Int) == 116) = false; simpa using hc1
              have hb1 : (((({ data := #[ca, cb] } : ByteArray)[1]'(show 1 < 2 by omega)).toNat : Int) == 116) = false := by show ((cb.toNat : Int) == 116) = false; simpa using hc2
              have HTH : Hid (thI fo (fo.getD k in0) = fo.getD k in0) := by show _ = _; rw [HXK.out]; unfold thI; simp only; rw [if_neg (by omega), if_neg (by omega)]
              have HE2 : Hid ((∀ j, j ≠ i → E j = D j) ∧ E i = ⟨fp, fs, fa, c⟩ ∧ c.length = fo.length ∧ (∀ q, q < k + 1 → c.getD q in0 = thI fo (fo.getD q in0)) ∧ ∀ q, k + 1 ≤ q → c.getD q in0 = fo.getD q in0) := by
                refine ⟨HE.out.1, HE.out.2.1, HE.out.2.2.1, fun q hq => ?_, fun q hq => HE.out.2.2.2.2 q (by omega)⟩
                by_cases e : q = k
                · rw [e, HTH.out]; exact HE.out.2.2.2.2 k (Nat.le_refl _)
                · exact HE.out.2.2.2.1 q (by omega)
              clear hjmp hloop hc1 hc2 h9 hA hB
              go_wp2_with fail
              go_roundw
              case rel => exact ⟨k + 1, E, c, by omega, by go_num, HBP4.out, HE2.out, HLO4.out, HB4.out⟩
              case measure => simp [intOf]; omega
        · have hkn : k = fo.length := by omega
          have HDE : Hid ((∀ j, j < i + 1 → E j = thP (p.protos.getD j pr0)) ∧ ∀ j, i + 1 ≤ j → E j = p.protos.getD j pr0) := by
            refine ⟨fun j hj => ?_, fun j hj => ?_⟩
            · by_cases e : j = i
              · rw [e, HE.out.2.1, HD.out]
                unfold thP
                simp only
                have hc : c = fo.map (thI fo) := by
                  apply List.ext_getElem?
                  intro q
                  by_cases hq : q < fo.length
                  · have h1 := HE.out.2.2.2.1 q (by omega)
                    have hql : q < c.length := by rw [HE.out.2.2.1]; exact hq
                    rw [List.getElem?_map, List.getElem?_eq_getElem hq, List.getElem?_eq_getElem hql, Option.map_some]
                    rw [List.getD_eq_getElem?_getD, List.getElem?_eq_getElem hql, List.getD_eq_getElem?_getD, List.getElem?_eq_getElem hq] at h1
                    exact congrArg some h1
                  · rw [List.getElem?_eq_none (by rw [HE.out.2.2.1]; omega), List.getElem?_eq_none (by rw [List.length_map]; omega)]
                rw [hc]
              · rw [HE.out.1 j e]; exact HDD.out.1 j (by omega)
            · rw [HE.out.1 j (by omega)]; exact HDD.out.2 j (by omega)
          clear hkn
          go_wp2
          go_roundw
          case rel => exact ⟨i + 1, E, by omega, by go_num, HBP.out, HDE.out, HLO.out, HB.out⟩
          case measure => simp [intOf]; omega
    · have hin : i = p.protos.length := by omega
      have HPF : Hid (∀ W', (∀ b, b ≠ w.heap.size + 1 → W'.heap[b]? = wr.heap[b]?) → RdPV W' (.slice bp p.protos.length ep) (thread p).protos) := by
        intro W' hW'
        have hpl : (thread p).protos.length = p.protos.length := List.length_map ..
        have h1 : BP W' M (.slice bp (thread p).protos.length ep) (thread p).protos.length (fun j => (thread p).protos.getD j pr0) uc ud := by
          rw [hpl]
          have HBQ := HBP.out.hold (w' := W') (fun b h1 _ => hW' b (by omega))
          obtain ⟨us, ho, hx⟩ := HBQ.row
          have hD : ∀ j, j < p.protos.length → D j = (thread p).protos.getD j pr0 := fun j hj => by
            rw [HDD.out.1 j (by omega)]
            show _ = (p.protos.map thP).getD j pr0
            simp [List.getD_eq_getElem?_getD, List.getElem?_eq_getElem hj]
          exact ⟨⟨us, ho, fun j hj => by have := hx j hj; rw [hD j hj] at this; exact this⟩, fun j hj => by have := HBQ.caps j hj; rw [hD j hj] at this; exact this, fun j hj => by have := HBQ.code j hj; rw [hD j hj] at this; exact this, HBP.out.apartC, HBP.out.apartD, HBP.out.cross, HBP.out.spineC, HBP.out.spineD⟩
        have h2 := h1.rd ⟨by rw [hpl]; exact OK2.out.1, fun j hj => by
          rw [hpl] at hj
          have e : (thread p).protos.getD j pr0 = thP (p.protos.getD j pr0) := by show (p.protos.map thP).getD j pr0 = _; simp [List.getD_eq_getElem?_getD, List.getElem?_eq_getElem hj]
          rw [e]
          unfold thP
          simp only [List.length_map]
          exact OK2.out.2 j hj⟩
        rw [hpl] at h2
        exact h2
      have HKF : Hid (∀ W', (∀ b, b ≠ w.heap.size + 1 → W'.heap[b]? = wr.heap[b]?) → RdKV W' (.slice bk p.consts.length ek) p.consts) := by
        intro W' hW'
        have hK : ∀ b, w1.heap.size ≤ b → b < M → W'.heap[b]? = W3.heap[b]? := fun b h1 h2 => (hW' b (by omega)).trans (HB.out.block b h2)
        obtain ⟨us', ho', hx'⟩ := HBK.out.row
        have h1 : BK W' w1.heap.size (.slice bk p.consts.length ek) p.consts.length (fun j => p.consts.getD j cn0) ut := ⟨⟨us', own_hold ho' (fun b h1 _ e => hK b h1 (HUN.out.1 b e)), hx'⟩, fun j hj => (HBK.out.texts j hj).hold (fun b h1 _ e => hK b h1 (HUN.out.2 j hj b e)), HBK.out.apart, HBK.out.spine⟩
        exact h1.rd OK1.out
      have o0 := HLO.out.at (j := 0) (by omega)
      have o1 := HLO.out.at (j := 1) (by omega)
      simp only [List.getElem?_cons_zero, List.getElem?_cons_succ] at o0 o1
      have LRz : Hid (Lone 32 2 wr (w.heap.size + 1) [.slice none 0 0, .slice none 0 0]) := LR.out.below HB.out (by omega)
      have f0 := LRz.out.free 0
      have f1 := LRz.out.free 1
      have c0 := LRz.out.at (j := 0) (by omega)
      have c1 := LRz.out.at (j := 1) (by omega)
      simp only [List.getElem?_cons_zero, List.getElem?_cons_succ] at c0 c1
      clear hin hi
      go_wp2_with fail
      have MG := (LRz.out.set 0 (.slice bk p.consts.length ek)).set 1 (.slice bp p.protos.length ep)
      refine bodyPost_ret (results_cell_row Tryd.results14 _ _ (w.heap.size + 1) 32 _ _ _ rfl (Lone.back MG) Tryd.underlying32 rfl rfl) rfl ?_
      have P2 : w.heap.size ≤ w.heap.size + 1 := by omega
      have hH : ∀ (W' : World), W' = (wr.setCell ⟨w.heap.size + 1, 0, none⟩ (.slice bk p.consts.length ek)).setCell ⟨w.heap.size + 1, 1, none⟩ (.slice bp p.protos.length ep) → ∀ b, b ≠ w.heap.size + 1 → W'.heap[b]? = wr.heap[b]? := fun W' e b hb => by
        rw [e, Below.heap_setCell _ ⟨w.heap.size + 1, 1, none⟩ _ b hb, Below.heap_setCell _ ⟨w.heap.size + 1, 0, none⟩ _ b hb]
      exact ⟨_, _, rfl, HKF.out _ (fun b hb => hH _ rfl b hb), HPF.out _ (fun b hb => hH _ rfl b hb), (HBw.out.setCell (p := ⟨w.heap.size + 1, 0, none⟩) P2 _).setCell (p := ⟨w.heap.size + 1, 1, none⟩) P2 _⟩
end Go.Proofs.YtpkgibdbkmddiaaDoor.th
