import Derived.Test.YtopibfnjbejiiaaGreatDoorLsHead
import Derived.Test.YtopibfnjbejiiaaGreatDoorLsIns
import Derived.Test.YtopibfnjbejiiaaGreatDoorChkImpl
import Derived.Lib.FieldsLaws
import Derived.Shelf.Strings.Fields
namespace Go.Proofs.YtopibfnjbejiiaaGreatDoor.ls
open Go.RowKit Go.Proofs.YtopibfnjbejiiaaGreatDoor.bts Go.Proofs.YtopibfnjbejiiaaGreatDoor.pg Go.Proofs.YtopibfnjbejiiaaGreatDoor.chk Go.Proofs.YtopibfnjbejiiaaGreatDoor.sv Go.Proofs.YtopibfnjbejiiaaGreatDoor.fmt Go.Proofs.YtopibfnjbejiiaaGreatDoor.quo

theorem sound_const {p : Pg} (h : Sound p) {i j : Nat} (hi : i < p.protos.length) (hj : j < (p.protos.getD i pr0).code.length) (h0 : ((p.protos.getD i pr0).code.getD j in0).op = 0) : ((p.protos.getD i pr0).code.getD j in0).a.toNat < p.consts.length := by
  have hx := (h.2 i hi).1 j hj
  unfold insOK at hx
  simp only [Bool.and_eq_true, decide_eq_true_eq] at hx
  obtain ⟨_, _, hA, _⟩ := hx
  replace hA := knows_at hA
  rw [h0, show shA (0 : Int).toNat = 1 from rfl] at hA
  generalize ((p.protos.getD i pr0).code.getD j in0).a = z at hA ⊢
  simp [low, top] at hA
  omega

/-- The library's table of white space lies in its block. -/
def Asc (w : World) : Prop := Lib.TabIs Tryz.prog w "strings.asciiSpace" .u8 Lib.asciiSpaceTab
theorem ascAt : Tryz.prog.globalNamed "strings.asciiSpace" = some 0 := by kernel_rfl
theorem Asc.below {w w' : World} (h : Asc w) (hb : Below w.heap.size w w') : Asc w' := by
  refine var?_below hb ascAt ?_ h
  unfold Asc Lib.TabIs World.var? at h
  rw [ascAt] at h
  simp only [Option.bind_some] at h
  rcases Nat.lt_or_ge 0 w.heap.size with h' | h'
  · exact h'
  · simp [Array.getElem?_eq_none h'] at h

def insB : List UInt8 := [99, 111, 110, 115, 116, 32, 110, 105, 108, 32, 116, 114, 117, 101, 32, 102, 97, 108, 115, 101, 32, 98, 117, 105, 108, 116, 105, 110, 32, 103, 101, 116, 32, 115, 101, 116, 32, 110, 101, 119, 32, 117, 112, 32, 115, 101, 116, 117, 112, 32, 102, 117, 110, 99, 32, 116, 97, 98, 108, 101, 32, 102, 105, 101, 108, 100, 32, 105, 110, 100, 101, 120, 32, 115, 116, 111, 114, 101, 32, 98, 105, 110, 32, 110, 111, 116, 32, 110, 101, 103, 32, 106, 117, 109, 112, 32, 106, 117, 109, 112, 102, 97, 108, 115, 101, 32, 97, 110, 100, 32, 111, 114, 32, 99, 97, 108, 108, 32, 116, 97, 105, 108, 32, 114, 101, 116, 117, 114, 110, 32, 112, 111, 112, 32, 102, 111, 114, 116, 101, 115, 116, 32, 102, 111, 114, 110, 101, 120, 116]
set_option maxRecDepth 100000 in
theorem insB_fields : Lib.fields insB = wds := by kernel_rfl
set_option maxRecDepth 100000 in
theorem insB_ascii : ∀ (j : Nat) b, insB[j]? = some b → b.toNat < 128 := by
  have h : ∀ b ∈ insB, b.toNat < 128 := by decide
  exact fun j b hb => h b (List.mem_of_getElem? hb)
theorem wds_cell (w : World) (o : Nat) (ho : o < 28) : (w.alloc (.cells ((wds.map fun l => Value.string ⟨l.toArray⟩).toArray) 9)).cell? ⟨w.heap.size, o, none⟩ = some (.string ⟨(wd o).toArray⟩) := by
  rw [cell_of_row _ w.heap.size _ _ _ _ (heap_alloc_new w _)]
  have h : o < wds.length := ho
  simp [wd, h]
set_option maxRecDepth 100000 in
/-- The words, parted. -/
theorem fields_any (s : ByteArray) (w1 W : World) (hA : Asc w1) (hs : s.data.toList = insB) (hb : Below w1.heap.size w1 W) :
    Calls Tryz.prog 21 #[.string s] W fun e w2 => ∃ gw, e = .returned (.slice (some ⟨gw, 0, none⟩) 28 28) ∧ Hid (Below w1.heap.size w1 w2 ∧ gw < w2.heap.size ∧ ∀ o, o < 28 → w2.cell? ⟨gw, o, none⟩ = some (.string ⟨(wd o).toArray⟩)) := by
  have h := Any.strings_Fields Tryz.lays157 (by kernel_rfl) ascAt s W (by have := congrArg List.length hs; simp at this; rw [this]; decide) (by rw [hs]; exact insB_ascii) (hA.below hb)
  rw [hs, insB_fields] at h
  refine h.mono ?_
  rintro e w2 ⟨rfl, rfl⟩
  exact ⟨W.heap.size, rfl, hb.alloc hb.size _, by simp, fun o ho => wds_cell W o ho⟩
end Go.Proofs.YtopibfnjbejiiaaGreatDoor.ls

namespace Go.Proofs.YtopibfnjbejiiaaGreatDoor.ls
open Go.RowKit Go.Proofs.YtopibfnjbejiiaaGreatDoor.bts Go.Proofs.YtopibfnjbejiiaaGreatDoor.pg Go.Proofs.YtopibfnjbejiiaaGreatDoor.chk Go.Proofs.YtopibfnjbejiiaaGreatDoor.sv Go.Proofs.YtopibfnjbejiiaaGreatDoor.fmt Go.Proofs.YtopibfnjbejiiaaGreatDoor.quo

theorem wl_new (uw uk : Value) (w : World) : Wl uw uk (w.alloc (.cells #[.slice none 0 0, uw, uk] 60)) w.heap.size [] :=
  ⟨none, 0, heap_alloc_new w _, World.ownsRow_nil _ _ _ _⟩

set_option maxRecDepth 100000 in
set_option maxHeartbeats 4000000 in
theorem implList_no (p : Pg) (uk up : Value) (w : World) (hk : RdKV w uk p.consts) (hp : RdPV w up p.protos) (hs : sizePg p ≤ 1048576) (hS : Shp w) (hn : ¬ Sound p) :
    Calls Tryz.prog 7 #[.agg #[uk, up]] w fun e w' => e = .returned (.slice none 0 0) ∧ Below w.heap.size w w' := by
  have hw0 := hS.lt
  have IM : Hid (∀ W, Below w.heap.size w W → Calls Tryz.prog 20 #[.agg #[uk, up]] W fun e w' => e = .returned (.bool false) ∧ Below W.heap.size W w') := fun W hW => implCheck_any p uk up W (hk.below hW) (hp.below hW) hs (hS.below hW hw0) (by have := hW.size; omega) false (by show _ ↔ _; simp [hn])
  obtain ⟨ak, ck, rfl, _, _⟩ := hk
  obtain ⟨ap, cp, rfl, _, _⟩ := hp
  clear hS hs hn hw0
  go_enter Tryz.func7, Tryz.ntmps7
  go_wp2_with fail
  refine (IM.out _ (by go_grown)).mono ?_
  rintro e w1 ⟨rfl, b1⟩
  go_wp2
  go_returns
  exact ⟨rfl, Below.trans (by go_grown) (b1.mono (by simp))⟩

set_option maxRecDepth 100000 in
set_option maxHeartbeats 4000000 in
theorem implList_yes (p : Pg) (uk up : Value) (w : World) (hk : RdKV w uk p.consts) (hp : RdPV w up p.protos) (hs : sizePg p ≤ 1048576) (hS : Shp w) (hT : Tab w) (hA : Asc w) (hN : Num p.consts) (hn : Sound p) :
    Calls Tryz.prog 7 #[.agg #[uk, up]] w fun e w' => ∃ av cv, e = .returned (.slice av (listing p).length cv) ∧ w'.ownsRow w.heap.size 5 1 (.slice av (listing p).length cv) (listing p).length (bcells (listing p)) ∧ Below w.heap.size w w' := by
  have hw0 := hS.lt
  have IM : Hid (∀ W, Below w.heap.size w W → Calls Tryz.prog 20 #[.agg #[uk, up]] W fun e w' => e = .returned (.bool true) ∧ Below W.heap.size W w') := fun W hW => implCheck_any p uk up W (hk.below hW) (hp.below hW) hs (hS.below hW hw0) (by have := hW.size; omega) true (by show _ ↔ _; simp [hn])
  have HSM : Hid (SmallG p) := sound_small hn hs
  have HTX : Hid (∀ i, i < p.consts.length → (p.consts.getD i cn0).text.length ≤ 5000) := HSM.out.texts
  have HSO : Hid (Sound p) := hn
  have HNU : Hid (Num p.consts) := hN
  have HK : Hid (∀ W, Below w.heap.size w W → RdKV W uk p.consts) := fun W h => hk.below h
  have HP : Hid (∀ W, Below w.heap.size w W → RdPV W up p.protos) := fun W h => hp.below h
  have HSH : Hid (∀ W, Below w.heap.size w W → Shp W) := fun W h => hS.below h hw0
  have HTB : Hid (∀ W, Below w.heap.size w W → Tab W) := fun W h => hT.below h
  have HAS : Hid (∀ W, Below w.heap.size w W → Asc W) := fun W h => hA.below h
  obtain ⟨ak, ck, rfl, _, _⟩ := hk
  obtain ⟨ap, cp, rfl, _, _⟩ := hp
  have hnp : p.protos.length ≤ 1048576 := by unfold sizePg sizeP at hs; omega
  have HSZ : Hid (sizePg p ≤ 1048576) := hs
  have HLP : Hid (∀ k, k ≤ p.protos.length → (protL p.consts p.protos k).length ≤ 30000000000) := protL_top p hs HSM.out hN
  have HCD : Hid (∀ i, i < p.protos.length → (p.protos.getD i pr0).caps.length ≤ 1048576 ∧ (p.protos.getD i pr0).code.length ≤ 1048576) := fun i hi => by
    have hz := sumsF_at (f := sizePr) pr0 hi
    have h2 := HSZ.out
    unfold sizePg sizeP at h2
    have e : sizePr (p.protos.getD i pr0) = (p.protos.getD i pr0).caps.length + (p.protos.getD i pr0).code.length := rfl
    exact ⟨by omega, by omega⟩
  clear hS hn hs hT hA hN hw0
  go_enter Tryz.func7, Tryz.ntmps7
  go_wp2_with fail
  refine (IM.out _ (by go_grown)).mono ?_
  rintro e w1 ⟨rfl, b1⟩
  have z0 := cellB (cellNew (w := w) (cs := #[.slice ak p.consts.length ck, .slice ap p.protos.length cp]) (t := 32) (j := 0) (v := .slice ak p.consts.length ck) rfl) b1
  have z1 := cellB (cellNew (w := w) (cs := #[.slice ak p.consts.length ck, .slice ap p.protos.length cp]) (t := 32) (j := 1) (v := .slice ap p.protos.length cp) rfl) b1
  have HB1 : Hid (Below w.heap.size w w1) := Below.trans (by go_grown) (b1.mono (by simp))
  have FD : Hid (∀ s W, s.data.toList = insB → Below w1.heap.size w1 W → Calls Tryz.prog 21 #[.string s] W fun e w2 => ∃ gw, e = .returned (.slice (some ⟨gw, 0, none⟩) 28 28) ∧ Hid (Below w1.heap.size w1 w2 ∧ gw < w2.heap.size ∧ ∀ o, o < 28 → w2.cell? ⟨gw, o, none⟩ = some (.string ⟨(wd o).toArray⟩))) := fun s W h1 h2 => fields_any s w1 W (HAS.out w1 HB1.out) h1 h2
  have HC1 : Hid (∀ W, Below w1.heap.size w1 W → W.cell? ⟨w.heap.size, 0, none⟩ = some (.slice ak p.consts.length ck)) := fun W h => cellB z0 h
  have hz1 := World.block_lt_of_cell? _ _ z0
  simp only at hz1
  clear b1 IM
  go_wp2_with fail
  go_region_held3 (fun W => W.cell? ⟨w.heap.size, 0, none⟩ = some (.slice ak p.consts.length ck)) (first | (refine HC1.out _ ?_; repeat (first | exact Below.refl _ _ | exact HF.out.1 | refine Below.drew ?_ | refine bel_drewN ?_ _ | refine Below.alloc ?_ (by have := HF.out.1.size; simp; omega) _))) (first | (go_at_call 21; with_reducible refine Calls.mono (FD.out _ _ (by kernel_rfl) (by repeat (first | exact Below.refl _ _ | refine Below.drew ?_ | refine bel_drewN ?_ _))) ?_; rintro e w2 ⟨gw, rfl, HF⟩))
  obtain ⟨hF1, hgw, hwd⟩ := HF.out
  have HWD : Hid (∀ o, o < 28 → w2.cell? ⟨gw, o, none⟩ = some (.string ⟨(wd o).toArray⟩)) := hwd
  have HB2 : Hid (Below w.heap.size w w2) := HB1.out.trans (hF1.mono HB1.out.size)
  have HW3 : Hid (Wl (.slice (some ⟨gw, 0, none⟩) 28 28) (.slice ak p.consts.length ck) (w2.alloc (.cells #[.slice none 0 0, (.slice (some ⟨gw, 0, none⟩) 28 28), (.slice ak p.consts.length ck)] 60)) w2.heap.size []) := wl_new _ _ w2
  have HB3 : Hid (Below w2.heap.size w2 (w2.alloc (.cells #[.slice none 0 0, (.slice (some ⟨gw, 0, none⟩) 28 28), (.slice ak p.consts.length ck)] 60))) := by show Below _ _ _; go_grown
  have y1 : (w2.alloc (.cells #[.slice none 0 0, (.slice (some ⟨gw, 0, none⟩) 28 28), (.slice ak p.consts.length ck)] 60)).cell? ⟨w.heap.size, 1, none⟩ = some (.slice ap p.protos.length cp) := cellB (cellB z1 hF1) HB3.out
  generalize w2.alloc (.cells #[.slice none 0 0, (.slice (some ⟨gw, 0, none⟩) 28 28), (.slice ak p.consts.length ck)] 60) = w3 at HW3 HB3 y1 ⊢
  clear hF1 hwd z0 z1 HF FD HC1 hgw
  have HRK : Hid (RdKV w2 (.slice ak p.consts.length ck) p.consts) := HK.out w2 HB2.out
  have HRP : Hid (RdPV w2 (.slice ap p.protos.length cp) p.protos) := HP.out w2 HB2.out
  have HS2 : Hid (Shp w2) := HSH.out w2 HB2.out
  have HT2 : Hid (Tab w2) := HTB.out w2 HB2.out
  go_wp2_with fail
  go_loopw [19] (fun x wr => ∃ k : Nat, k ≤ p.protos.length ∧ x = .int .i64 (k : Int) ∧ Hid (Wl (.slice (some ⟨gw, 0, none⟩) 28 28) (.slice ak p.consts.length ck) wr w2.heap.size (protL p.consts p.protos k)) ∧ Hid (Below w2.heap.size w2 wr)) (fun x _ => p.protos.length - (intOf x).toNat)
  case atStart => exact ⟨0, by omega, rfl, HW3.out, HB3.out⟩
  case round =>
    clear y1 HW3 HB3
    obtain ⟨k, hk, rfl, HW4, HF4⟩ := hrel
    have lp := HLP.out k hk
    have hgr := HW4.out.lt
    by_cases hlt : k < p.protos.length
    · obtain ⟨_, _, eP, _, rP⟩ := HRP.out
      simp only [Value.slice.injEq] at eP
      obtain ⟨rfl, -, rfl⟩ := eP
      obtain ⟨b, off, uc, ud, rfl, c0', c1', c2', c3', hc, hd⟩ := rP k hlt
      have c0 := cellB c0' HF4.out
      have c1 := cellB c1' HF4.out
      have c2 := cellB c2' HF4.out
      have c3 := cellB c3' HF4.out
      clear rP c0' c1' c2' c3'
      have HS : Hid (protL p.consts p.protos (k + 1) = protL p.consts p.protos k ++ headL k (p.protos.getD k pr0) ++ codeL p.consts (p.protos.getD k pr0).code (p.protos.getD k pr0).code.length) := rfl
      have hsm := HSM.out.protos k hlt
      have HSC : Hid (∀ j, j < (p.protos.getD k pr0).code.length → ((p.protos.getD k pr0).code.getD j in0).op = 0 → ((p.protos.getD k pr0).code.getD j in0).a.toNat < p.consts.length) := fun j hj h => sound_const HSO.out hlt hj h
      obtain ⟨hcl, hdl⟩ := HCD.out k hlt
      generalize p.protos.getD k pr0 = d at c0 c1 hc hd HS hsm hcl hdl HSC
      have HHD : Hid (∀ W, Wl (.slice (some ⟨gw, 0, none⟩) 28 28) (.slice ak p.consts.length ck) W w2.heap.size (protL p.consts p.protos k) → Below w2.heap.size w2 W → Calls Tryz.prog 22 #[.pointer (some ⟨w2.heap.size, 0, none⟩), .int .i64 (k : Int), .agg #[.int .i64 d.params, .int .i64 d.slots, uc, ud]] W fun e w' => (∃ v, e = .returned v) ∧ Wl (.slice (some ⟨gw, 0, none⟩) 28 28) (.slice ak p.consts.length ck) w' w2.heap.size (protL p.consts p.protos k ++ headL k d) ∧ Fl w2.heap.size W w') := fun W h1 h2 =>
        head_any _ _ w2.heap.size k d uc ud _ w2 W h1 h2 (Nat.le_refl _) HT2.out hc hd hsm (by omega) hcl (by omega)
      have lh := headL_len k d (by omega) hsm
      have HSI : Hid (∀ j, j < d.code.length → SmallI (d.code.getD j in0)) := hsm.code
      have HLC : Hid (∀ j, j ≤ d.code.length → (codeL p.consts d.code j).length ≤ 20100 * j) := codeL_len p.consts HNU.out HTX.out d.code hdl hsm.code
      have HRD : Hid (RdIV w2 ud d.code) := hd
      obtain ⟨Y, hY⟩ : ∃ Y, Y = protL p.consts p.protos k ++ headL k d := ⟨_, rfl⟩
      have lY : Y.length ≤ 40000000000 := by rw [hY, List.length_append]; omega
      rw [← hY] at HS HHD
      clear hsm hY lh
      obtain ⟨aC, cC, rfl, _, _⟩ := hc
      obtain ⟨aD, cD, rfl, _, _⟩ := hd
      obtain ⟨fp, fs, fca, fco⟩ := d
      simp only at c0 c1 c2 c3 HHD HS HSC HSI HLC HRD hcl hdl
      have hlt' : (k : Int) < (p.protos.length : Int) := by omega
      have hne : wr.heap.size ≠ w2.heap.size := by omega
      obtain ⟨W4, hW4⟩ : ∃ W4, W4 = wr.alloc (.cells #[.int .i64 fp, .int .i64 fs, .slice aC fca.length cC, .slice aD fco.length cD] 45) := ⟨_, rfl⟩
      have HX : Hid (¬ Ot W4 w2.heap.size wr.heap.size) := by rw [hW4]; exact HW4.out.fresh _
      have HB4 : Hid (Below w2.heap.size w2 W4) := by rw [hW4]; exact HF4.out.alloc HF4.out.size _
      have HW5 : Hid (Wl (.slice (some ⟨gw, 0, none⟩) 28 28) (.slice ak p.consts.length ck) W4 w2.heap.size (protL p.consts p.protos k)) := by rw [hW4]; exact HW4.out.alloc _
      have b3 : W4.cell? ⟨wr.heap.size, 3, none⟩ = some (.slice aD fco.length cD) := by rw [hW4]; exact cellNew rfl
      have PH : Hid _ := HHD.out W4 HW5.out HB4.out
      rw [hW4] at PH
      have HWX : Hid (W4 = wr.alloc (.cells #[.int .i64 fp, .int .i64 fs, .slice aC fca.length cC, .slice aD fco.length cD] 45)) := hW4
      clear hW4 HHD HW5
      go_wp2_with fail
      refine Calls.mono PH.out ?_
      rw [← HWX.out]
      rintro e w5 ⟨⟨v5, rfl⟩, hW6, hF6⟩
      have a3 := hF6.cell hne HX.out b3
      have HF6 : Hid (Below w2.heap.size w2 w5) := HB4.out.trans hF6.below
      have HW6 : Hid (Wl (.slice (some ⟨gw, 0, none⟩) 28 28) (.slice ak p.consts.length ck) w5 w2.heap.size Y) := hW6
      clear hW6 hF6 b3 c0 c1 c2 c3 PH
      go_wp2_with fail
      go_loopw [31] (fun x wr => ∃ j : Nat, j ≤ fco.length ∧ x = .int .i64 (j : Int) ∧ Hid (Wl (.slice (some ⟨gw, 0, none⟩) 28 28) (.slice ak p.consts.length ck) wr w2.heap.size (Y ++ codeL p.consts fco j)) ∧ Hid (Below w2.heap.size w2 wr)) (fun x _ => fco.length - (intOf x).toNat)
      case atStart => exact ⟨0, by omega, rfl, HW6.out.to (by simp [codeL]), HF6.out⟩
      case round =>
        clear a3 HW6 HF6 HW4 HF4
        obtain ⟨j, hj, rfl, HW6, HF6⟩ := hrel
        have lj := HLC.out j hj
        have hgr2 := HW6.out.lt
        by_cases hjl : j < fco.length
        · obtain ⟨_, _, eD, _, rD⟩ := HRD.out
          simp only [Value.slice.injEq] at eD
          obtain ⟨rfl, -, rfl⟩ := eD
          obtain ⟨bd, od, rfl, e0', e1', e2'⟩ := rD j hjl
          have e0 := cellB e0' HF6.out
          have e1 := cellB e1' HF6.out
          have e2 := cellB e2' HF6.out
          clear rD e0' e1' e2'
          have HSJ : Hid (codeL p.consts fco (j + 1) = codeL p.consts fco j ++ insL p.consts j (fco.getD j in0)) := rfl
          obtain ⟨o0, o1, a0, a1, b0, b1⟩ := HSI.out j hjl
          have hcst := HSC.out j hjl
          generalize fco.getD j in0 = x at e0 e1 e2 HSJ o0 o1 a0 a1 b0 b1 hcst
          obtain ⟨opz, azz, bzz⟩ := x
          simp only at e0 e1 e2 o0 o1 a0 a1 b0 b1 hcst
          obtain ⟨op, rfl⟩ : ∃ z : Nat, opz = (z : Int) := ⟨opz.toNat, by omega⟩
          obtain ⟨az, rfl⟩ : ∃ z : Nat, azz = (z : Int) := ⟨azz.toNat, by omega⟩
          obtain ⟨bz, rfl⟩ : ∃ z : Nat, bzz = (z : Int) := ⟨bzz.toNat, by omega⟩
          have IN : Hid (∀ W, Wl (.slice (some ⟨gw, 0, none⟩) 28 28) (.slice ak p.consts.length ck) W w2.heap.size (Y ++ codeL p.consts fco j) → Below w2.heap.size w2 W → Calls Tryz.prog 23 #[.pointer (some ⟨w2.heap.size, 0, none⟩), .int .i64 (j : Int), .agg #[.int .i64 (op : Int), .int .i64 (az : Int), .int .i64 (bz : Int)]] W fun e w' => (∃ v, e = .returned v) ∧ Wl (.slice (some ⟨gw, 0, none⟩) 28 28) (.slice ak p.consts.length ck) w' w2.heap.size (Y ++ codeL p.consts fco j ++ insL p.consts j ⟨(op : Int), (az : Int), (bz : Int)⟩) ∧ Fl w2.heap.size W w') := fun W h1 h2 => by
            by_cases hz : op = 0
            · subst hz
              exact ins_const w2.heap.size gw j az bz ak ck p.consts _ w2 W h1 h2 (Nat.le_refl _) HT2.out HS2.out HWD.out HRK.out HNU.out HTX.out (by have := hcst rfl; omega) (by omega) (by simp; omega)
            · exact ins_other w2.heap.size gw j op az bz ak ck p.consts _ w2 W h1 h2 (Nat.le_refl _) HT2.out HS2.out HWD.out HRK.out HNU.out HTX.out hz (by omega) (by omega) (by omega) (by omega) (by simp; omega)
          clear hcst o0 o1 a0 a1 b0 b1
          have hjl' : (j : Int) < (fco.length : Int) := by omega
          have HFa : Hid (∀ o, Below w2.heap.size w2 (wr.alloc o)) := fun o => HF6.out.alloc HF6.out.size o
          go_wp2_with fail
          refine (IN.out _ (HW6.out.alloc _) (HFa.out _)).mono ?_
          rintro e w6 ⟨⟨v6, rfl⟩, hW7, hF7⟩
          have HF7 : Hid (Below w2.heap.size w2 w6) := (HFa.out _).trans hF7.below
          have HW7 : Hid (Wl (.slice (some ⟨gw, 0, none⟩) 28 28) (.slice ak p.consts.length ck) w6 w2.heap.size (Y ++ codeL p.consts fco (j + 1))) := hW7.to (by rw [HSJ.out, List.append_assoc])
          clear hW7 hF7 e0 e1 e2 IN
          go_wp2
          go_roundw
          case rel => exact ⟨j + 1, by omega, by go_num, HW7.out, HF7.out⟩
          case measure => simp [intOf]; omega
        · have hjn : j = fco.length := by omega
          rw [hjn] at HW6
          have HW8 : Hid (Wl (.slice (some ⟨gw, 0, none⟩) 28 28) (.slice ak p.consts.length ck) wr w2.heap.size (protL p.consts p.protos (k + 1))) := HW6.out.to HS.out.symm
          clear hjn hj HW6
          go_wp2
          go_roundw
          case rel => exact ⟨k + 1, by omega, by go_num, HW8.out, HF6.out⟩
          case measure => simp [intOf]; omega
    · have hkn : k = p.protos.length := by omega
      rw [hkn] at HW4
      have HW6 : Hid (Wl (.slice (some ⟨gw, 0, none⟩) 28 28) (.slice ak p.consts.length ck) wr w2.heap.size (listing p)) := HW4.out
      obtain ⟨av, cv, hh, ho⟩ := HW6.out
      have a0 : wr.cell? ⟨w2.heap.size, 0, none⟩ = some (.slice av (listing p).length cv) := by
        have := cell_of_row wr w2.heap.size 0 #[.slice av (listing p).length cv, (.slice (some ⟨gw, 0, none⟩) 28 28), (.slice ak p.consts.length ck)] 60 (0, 0) hh
        simpa using this
      have HO : Hid _ := ho
      clear hkn hh ho
      go_wp2
      go_returns
      exact ⟨av, cv, rfl, own_weaken HO.out (by have := HB2.out.size; omega), HB2.out.trans (HF4.out.mono HB2.out.size)⟩
end Go.Proofs.YtopibfnjbejiiaaGreatDoor.ls
