import Derived.Test.YtpkgibdbkmddiaaDoorSvImpl
import Derived.Test.YtpkgibdbkmddiaaDoorChkImpl
import Derived.Lib.SlBytesConst
namespace Go.Proofs.YtpkgibdbkmddiaaDoor.sv
open Go.RowKit Go.Proofs.YtpkgibdbkmddiaaDoor.bts Go.Proofs.YtpkgibdbkmddiaaDoor.pg Go.Proofs.YtpkgibdbkmddiaaDoor.chk

/-- What SaveProgram answers. -/
def ans (b : Bool) (p : Pg) : List Int := if b then save p else []


theorem conv_at (w : World) (C : Array Value) (n c g : Nat) (hg : g = w.heap.size) : (convert 27 27 (.slice (some ⟨g, 0, none⟩) n c)).run Tryd.prog (w.alloc (.cells C 5)) = .ok (.slice (some ⟨g, 0, none⟩) n c) (w.alloc (.cells C 5 (C.size, C.size + 1))) := by
  subst hg; exact Lib.run_convert_bytes_const w 27 5 C n c Tryd.underlying27 Tryd.underlying5
theorem wr_new (w : World) : Wr (w.alloc (.cells #[.slice none 0 0] 47)) w.heap.size [] :=
  ⟨none, 0, heap_alloc_new w _, World.ownsRow_nil _ _ _ _⟩
theorem rd_mark (w : World) (fr : Nat × Nat) : Rd (w.alloc (.cells #[.int .u8 77, .int .u8 78, .int .u8 76, .int .u8 84] 5 fr)) (some ⟨w.heap.size, 0, none⟩) [77, 78, 76, 84] := by
  intro i hi
  refine ⟨w.heap.size, 0, rfl, ?_⟩
  rw [cell_of_row _ w.heap.size _ _ _ _ (heap_alloc_new w _)]
  simp only [List.length_cons, List.length_nil] at hi
  match i, hi with
  | 0, _ => rfl
  | 1, _ => rfl
  | 2, _ => rfl
  | 3, _ => rfl

set_option maxRecDepth 100000 in
set_option maxHeartbeats 4000000 in
theorem implSave_no (p : Pg) (uk up : Value) (w : World) (hk : RdKV w uk p.consts) (hp : RdPV w up p.protos) (hs : sizePg p ≤ 1048576) (hS : Shp w) (hw0 : 0 < w.heap.size) (hn : ¬ Sound p) :
    Calls Tryd.prog 8 #[.agg #[uk, up]] w fun e w' => e = .returned (.slice none 0 0) ∧ Below w.heap.size w w' := by
  have IM : Hid (∀ W, Below w.heap.size w W → Calls Tryd.prog 23 #[.agg #[uk, up]] W fun e w' => e = .returned (.bool false) ∧ Below W.heap.size W w') := fun W hW => implCheck_any p uk up W (hk.below hW) (hp.below hW) hs (hS.below hW hw0) (by have := hW.size; omega) false (by show _ ↔ _; simp [hn])
  obtain ⟨ak, ck, rfl, _, _⟩ := hk
  obtain ⟨ap, cp, rfl, _, _⟩ := hp
  clear hS hs hn
  go_enter Tryd.func8, Tryd.ntmps8
  go_wp2_with fail
  refine (IM.out _ (by go_grown)).mono ?_
  rintro e w1 ⟨rfl, b1⟩
  go_wp2
  go_returns
  exact ⟨rfl, Below.trans (by go_grown) (b1.mono (by simp))⟩

set_option maxRecDepth 100000 in
set_option maxHeartbeats 4000000 in
theorem implSave_yes (p : Pg) (uk up : Value) (w : World) (hk : RdKV w uk p.consts) (hp : RdPV w up p.protos) (hs : sizePg p ≤ 1048576) (hS : Shp w) (hw0 : 0 < w.heap.size) (hn : Sound p) :
    Calls Tryd.prog 8 #[.agg #[uk, up]] w fun e w' => ∃ av cv, e = .returned (.slice av (save p).length cv) ∧ w'.ownsRow w.heap.size 5 1 (.slice av (save p).length cv) (save p).length (bcells (save p)) ∧ Below w.heap.size w w' := by
  have IM : Hid (∀ W, Below w.heap.size w W → Calls Tryd.prog 23 #[.agg #[uk, up]] W fun e w' => e = .returned (.bool true) ∧ Below W.heap.size W w') := fun W hW => implCheck_any p uk up W (hk.below hW) (hp.below hW) hs (hS.below hW hw0) (by have := hW.size; omega) true (by show _ ↔ _; simp [hn])
  have HSM : Hid (SmallG p) := sound_small hn hs
  have HK : Hid (∀ W, Below w.heap.size w W → RdKV W uk p.consts) := fun W h => hk.below h
  have HP : Hid (∀ W, Below w.heap.size w W → RdPV W up p.protos) := fun W h => hp.below h
  obtain ⟨ak, ck, rfl, _, _⟩ := hk
  obtain ⟨ap, cp, rfl, _, _⟩ := hp
  have hnk : p.consts.length ≤ 1048576 := by unfold sizePg sizeK at hs; omega
  have hnp : p.protos.length ≤ 1048576 := by unfold sizePg sizeP at hs; omega
  have HSZ : Hid (sizePg p ≤ 1048576) := hs
  clear hS hn hs
  go_enter Tryd.func8, Tryd.ntmps8
  go_wp2_with fail
  refine (IM.out _ (by go_grown)).mono ?_
  rintro e w1 ⟨rfl, b1⟩
  have z0 := cellB (cellNew (w := w) (cs := #[.slice ak p.consts.length ck, .slice ap p.protos.length cp]) (t := 32) (j := 0) (v := .slice ak p.consts.length ck) rfl) b1
  have z1 := cellB (cellNew (w := w) (cs := #[.slice ak p.consts.length ck, .slice ap p.protos.length cp]) (t := 32) (j := 1) (v := .slice ap p.protos.length cp) rfl) b1
  have HB1 : Hid (Below w.heap.size w w1) := Below.trans (by go_grown) (b1.mono (by simp))
  have hz1 := World.block_lt_of_cell? _ _ z0
  simp only at hz1
  clear b1 IM
  have kc := conv_at (w1.alloc (.cells #[.slice none 0 0] 47)) #[.int .u8 77, .int .u8 78, .int .u8 76, .int .u8 84] 4 4 (w1.heap.size + 1) (by simp)
  have HW2 : Hid (Wr ((w1.alloc (.cells #[.slice none 0 0] 47)).alloc (.cells #[.int .u8 77, .int .u8 78, .int .u8 76, .int .u8 84] 5 (4, 5))) w1.heap.size []) := (wr_new w1).alloc _
  have HB2 : Hid (Below w1.heap.size w1 ((w1.alloc (.cells #[.slice none 0 0] 47)).alloc (.cells #[.int .u8 77, .int .u8 78, .int .u8 76, .int .u8 84] 5 (4, 5)))) := by show Below _ _ _; go_grown
  have P2 : Hid (Calls Tryd.prog 24 #[.pointer (some ⟨w1.heap.size, 0, none⟩), .slice (some ⟨w1.heap.size + 1, 0, none⟩) 4 4] ((w1.alloc (.cells #[.slice none 0 0] 47)).alloc (.cells #[.int .u8 77, .int .u8 78, .int .u8 76, .int .u8 84] 5 (4, 5))) fun e w' => (∃ v, e = .returned v) ∧ Wr w' w1.heap.size [77, 78, 76, 84] ∧ Fr w1.heap.size ((w1.alloc (.cells #[.slice none 0 0] 47)).alloc (.cells #[.int .u8 77, .int .u8 78, .int .u8 76, .int .u8 84] 5 (4, 5))) w') := put_any w1.heap.size _ 4 4 [77, 78, 76, 84] [] _ HW2.out rfl (by have := rd_mark (w1.alloc (.cells #[.slice none 0 0] 47)) (4, 5); simpa using this) (by simp)
  go_wp2_with fail
  with_reducible refine P2.out.mono ?_
  rintro e w2 ⟨⟨v2, rfl⟩, hW2, hF2⟩
  have HF2 : Hid (Below w1.heap.size w1 w2) := HB2.out.trans hF2.below
  have y0 := cellB z0 HF2.out
  have y1 := cellB z1 HF2.out
  have HW3 : Hid (Wr w2 w1.heap.size [77, 78, 76, 84]) := hW2
  clear hW2 hF2 kc P2 HW2 HB2
  have l1 := var_len p.consts.length
  have l2 := var_len p.protos.length
  have HLK : Hid (∀ k, k ≤ p.consts.length → (fl kc p.consts k).length ≤ 5013 * k) := fl_len cn0 (fun i hi => kc_len _ (HSM.out.texts i hi))
  have HCD : Hid (∀ i, i < p.protos.length → (p.protos.getD i pr0).caps.length ≤ 1048576 ∧ (p.protos.getD i pr0).code.length ≤ 1048576) := fun i hi => by
    have hz := sumsF_at (f := sizePr) pr0 hi
    have h2 := HSZ.out
    unfold sizePg sizeP at h2
    have e : sizePr (p.protos.getD i pr0) = (p.protos.getD i pr0).caps.length + (p.protos.getD i pr0).code.length := rfl
    exact ⟨by omega, by omega⟩
  have HLP : Hid (∀ k, k ≤ p.protos.length → (fl fc p.protos k).length ≤ 11534352 * k) := fl_len pr0 (fun i hi => fc_len _ (HCD.out i hi).1 (HCD.out i hi).2)
  go_wp2_with fail
  refine (number_any w1.heap.size p.consts.length _ _ HW3.out (by omega) (by simp)).mono ?_
  rintro e w3 ⟨⟨v3, rfl⟩, hW4, hF4⟩
  have HF4 : Hid (Below w1.heap.size w1 w3) := HF2.out.trans hF4.below
  have x0 := cellB z0 HF4.out
  have x1 := cellB z1 HF4.out
  have HW4 : Hid (Wr w3 w1.heap.size ([77, 78, 76, 84] ++ var p.consts.length)) := hW4
  clear hW4 hF4 y0 y1
  go_wp2_with fail
  have HRK : Hid (∀ W, Below w1.heap.size w1 W → RdKV W (.slice ak p.consts.length ck) p.consts) := fun W h => HK.out W (HB1.out.trans (h.mono HB1.out.size))
  have HRP : Hid (∀ W, Below w1.heap.size w1 W → RdPV W (.slice ap p.protos.length cp) p.protos) := fun W h => HP.out W (HB1.out.trans (h.mono HB1.out.size))
  go_loopw [25] (fun x wr => ∃ k : Nat, k ≤ p.consts.length ∧ x = .int .i64 (k : Int) ∧ Hid (Wr wr w1.heap.size ([77, 78, 76, 84] ++ var p.consts.length ++ fl kc p.consts k)) ∧ Hid (Below w1.heap.size w1 wr)) (fun x _ => p.consts.length - (intOf x).toNat)
  case atStart => exact ⟨0, by omega, rfl, HW4.out.to (by simp [fl_zero]), HF4.out⟩
  case round =>
    clear x0 x1 HW4 HF4 HW3 HF2
    obtain ⟨k, hk, rfl, HW4, HF4⟩ := hrel
    have lk := HLK.out k hk
    have hgr := HW4.out.lt
    have y1 := cellB z1 HF4.out
    by_cases hlt : k < p.consts.length
    · obtain ⟨_, _, eK, _, rK⟩ := HRK.out w1 (Below.refl _ _)
      simp only [Value.slice.injEq] at eK
      obtain ⟨rfl, -, rfl⟩ := eK
      obtain ⟨b, off, ut, rfl, c0', c1', c2', ht⟩ := rK k hlt
      have c0 := cellB c0' HF4.out
      have c1 := cellB c1' HF4.out
      have c2 := cellB c2' HF4.out
      clear rK c0' c1' c2'
      have HS : Hid ([77, 78, 76, 84] ++ var p.consts.length ++ fl kc p.consts (k + 1) = [77, 78, 76, 84] ++ var p.consts.length ++ fl kc p.consts k ++ kc (p.consts.getD k cn0)) := by show _ = _; rw [fl_succ cn0 hlt]; simp
      have htx := HSM.out.texts k hlt
      generalize p.consts.getD k cn0 = d at c0 c1 ht HS htx
      obtain ⟨kb, nn, tx⟩ := d
      simp only at c0 c1 ht htx
      have P : Hid (∀ W, Wr W w1.heap.size ([77, 78, 76, 84] ++ var p.consts.length ++ fl kc p.consts k) → Below w1.heap.size w1 W → Calls Tryd.prog 26 #[.pointer (some ⟨w1.heap.size, 0, none⟩), .agg #[.bool kb, .int .i64 nn, ut]] W fun e w' => (∃ v, e = .returned v) ∧ Wr w' w1.heap.size ([77, 78, 76, 84] ++ var p.consts.length ++ fl kc p.consts k ++ kc ⟨kb, nn, tx⟩) ∧ Fr w1.heap.size W w') := fun W h1 h2 => constant_any w1.heap.size kb nn ut tx _ w1 W h1 h2 (Nat.le_refl _) ht htx (by simp; omega)
      obtain ⟨aX, cX, rfl, _, _⟩ := ht
      have hlt' : (k : Int) < (p.consts.length : Int) := by omega
      have HFa : Hid (∀ o, Below w1.heap.size w1 (wr.alloc o)) := fun o => HF4.out.alloc HF4.out.size o
      go_wp2_with fail
      refine (P.out _ (HW4.out.alloc _) (HFa.out _)).mono ?_
      rintro e w4 ⟨⟨v4, rfl⟩, hW5, hF5⟩
      have HF5 : Hid (Below w1.heap.size w1 w4) := (HFa.out _).trans hF5.below
      have HW5 : Hid (Wr w4 w1.heap.size ([77, 78, 76, 84] ++ var p.consts.length ++ fl kc p.consts (k + 1))) := hW5.to HS.out.symm
      clear hW5 hF5 c0 c1 c2 y1
      go_wp2
      go_roundw
      case rel => exact ⟨k + 1, by omega, by go_num, HW5.out, HF5.out⟩
      case measure => simp [intOf]; omega
    · have hkn : k = p.consts.length := by omega
      rw [hkn] at HW4 lk
      clear hkn hk
      go_wp2_with fail
      refine (number_any w1.heap.size p.protos.length _ _ HW4.out (by omega) (by simp; omega)).mono ?_
      rintro e w4 ⟨⟨v4, rfl⟩, hW5, hF5⟩
      have HF5 : Hid (Below w1.heap.size w1 w4) := HF4.out.trans hF5.below
      have x1 := cellB z1 HF5.out
      have HW5 : Hid (Wr w4 w1.heap.size ([77, 78, 76, 84] ++ var p.consts.length ++ fl kc p.consts p.consts.length ++ var p.protos.length)) := hW5
      clear hW5 hF5 y1
      go_wp2_with fail
      go_loopw [41] (fun x wr => ∃ k : Nat, k ≤ p.protos.length ∧ x = .int .i64 (k : Int) ∧ Hid (Wr wr w1.heap.size ([77, 78, 76, 84] ++ var p.consts.length ++ fl kc p.consts p.consts.length ++ var p.protos.length ++ fl fc p.protos k)) ∧ Hid (Below w1.heap.size w1 wr)) (fun x _ => p.protos.length - (intOf x).toNat)
      case atStart => exact ⟨0, by omega, rfl, HW5.out.to (by simp [fl_zero]), HF5.out⟩
      case round =>
        clear x1 HW5 HF5 HW4 HF4 hgr
        obtain ⟨k, hk, rfl, HW4, HF4⟩ := hrel
        have lp := HLP.out k hk
        have hgr := HW4.out.lt
        by_cases hlt : k < p.protos.length
        · obtain ⟨_, _, eP, _, rP⟩ := HRP.out w1 (Below.refl _ _)
          simp only [Value.slice.injEq] at eP
          obtain ⟨rfl, -, rfl⟩ := eP
          obtain ⟨b, off, uc, ud, rfl, c0', c1', c2', c3', hc, hd⟩ := rP k hlt
          have c0 := cellB c0' HF4.out
          have c1 := cellB c1' HF4.out
          have c2 := cellB c2' HF4.out
          have c3 := cellB c3' HF4.out
          clear rP c0' c1' c2' c3'
          have HS : Hid ([77, 78, 76, 84] ++ var p.consts.length ++ fl kc p.consts p.consts.length ++ var p.protos.length ++ fl fc p.protos (k + 1) = [77, 78, 76, 84] ++ var p.consts.length ++ fl kc p.consts p.consts.length ++ var p.protos.length ++ fl fc p.protos k ++ fc (p.protos.getD k pr0)) := by show _ = _; rw [fl_succ pr0 hlt]; simp
          have hsm := HSM.out.protos k hlt
          obtain ⟨hcl, hdl⟩ := HCD.out k hlt
          generalize p.protos.getD k pr0 = d at c0 c1 hc hd HS hsm hcl hdl
          have P : Hid (∀ W, Wr W w1.heap.size ([77, 78, 76, 84] ++ var p.consts.length ++ fl kc p.consts p.consts.length ++ var p.protos.length ++ fl fc p.protos k) → Below w1.heap.size w1 W → Calls Tryd.prog 27 #[.pointer (some ⟨w1.heap.size, 0, none⟩), .agg #[.int .i64 d.params, .int .i64 d.slots, uc, ud]] W fun e w' => (∃ v, e = .returned v) ∧ Wr w' w1.heap.size ([77, 78, 76, 84] ++ var p.consts.length ++ fl kc p.consts p.consts.length ++ var p.protos.length ++ fl fc p.protos k ++ fc d) ∧ Fr w1.heap.size W w') := fun W h1 h2 => function_any w1.heap.size d uc ud _ w1 W h1 h2 (Nat.le_refl _) hc hd hsm hcl hdl (by simp; omega)
          obtain ⟨aC, cC, rfl, _, _⟩ := hc
          obtain ⟨aD, cD, rfl, _, _⟩ := hd
          obtain ⟨fp, fs, fca, fco⟩ := d
          simp only at c0 c1 c2 c3 P
          have hlt' : (k : Int) < (p.protos.length : Int) := by omega
          have HFa : Hid (∀ o, Below w1.heap.size w1 (wr.alloc o)) := fun o => HF4.out.alloc HF4.out.size o
          clear hsm
          go_wp2_with fail
          refine (P.out _ (HW4.out.alloc _) (HFa.out _)).mono ?_
          rintro e w5 ⟨⟨v5, rfl⟩, hW6, hF6⟩
          have HF6 : Hid (Below w1.heap.size w1 w5) := (HFa.out _).trans hF6.below
          have HW6 : Hid (Wr w5 w1.heap.size ([77, 78, 76, 84] ++ var p.consts.length ++ fl kc p.consts p.consts.length ++ var p.protos.length ++ fl fc p.protos (k + 1))) := hW6.to HS.out.symm
          clear hW6 hF6 c0 c1 c2 c3
          go_wp2
          go_roundw
          case rel => exact ⟨k + 1, by omega, by go_num, HW6.out, HF6.out⟩
          case measure => simp [intOf]; omega
        · have hkn : k = p.protos.length := by omega
          rw [hkn] at HW4
          have HW6 : Hid (Wr wr w1.heap.size (save p)) := HW4.out
          obtain ⟨av, cv, hh, ho⟩ := HW6.out
          have a0 : wr.cell? ⟨w1.heap.size, 0, none⟩ = some (.slice av (save p).length cv) := by
            have := cell_of_row wr w1.heap.size 0 #[.slice av (save p).length cv] 47 (0, 0) hh
            simpa using this
          have HO : Hid _ := ho
          clear hkn hh ho
          go_wp2
          go_returns
          exact ⟨av, cv, rfl, own_weaken HO.out (by have := HB1.out.size; omega), HB1.out.trans (HF4.out.mono HB1.out.size)⟩
end Go.Proofs.YtpkgibdbkmddiaaDoor.sv
