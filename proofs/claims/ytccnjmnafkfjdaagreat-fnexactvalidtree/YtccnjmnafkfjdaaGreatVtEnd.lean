import Derived.Test.YtccnjmnafkfjdaaGreatVtLists
import Derived.Test.YtccnjmnafkfjdaaGreatNodeEq
import Derived.Deep.AppendLies
namespace Go.Proofs.YtccnjmnafkfjdaaGreat.vt
open Go.RowKit Go.Proofs.YtccnjmnafkfjdaaGreat.bts Go.Proofs.YtccnjmnafkfjdaaGreat.nod

/-- The cell of a node's count. -/
theorem RdN.countAt {w : World} {ao : Option Addr} {l : List Nd} (h : RdN w ao l) {i : Nat} (hi : i < l.length) : ∃ b off, ao = some ⟨b, off, none⟩ ∧ w.cell? ⟨b, off + i * 5 + 4, none⟩ = some (.int .i64 (cnt l i)) := by
  obtain ⟨b, off, _, _, e, _, _, _, _, c4, _, _⟩ := h i hi
  exact ⟨b, off, e, c4⟩

set_option maxRecDepth 100000 in
set_option maxHeartbeats 4000000 in
theorem l3end_any (ao : Option Addr) (n cap : Nat) (l : List Nd) (w : World) (hl : l.length = n) (hr : RdN w ao l) (hn : n ≤ 6000) : ∀ (deep i : Nat), deep ≤ 200 → i ≤ n →
    Calls Tryz.prog 10 #[.slice ao n cap, .int .i64 i, .int .i64 deep] w fun e w' => e = .returned (.int .i64 (endI (endAt l deep i))) ∧ w' = w := by
  intro deep
  induction deep with
  | zero =>
    intro i _ hi
    have HE : Hid (endI (endAt l 0 i) = -1) := rfl
    by_cases hin : i < n
    · go_enter Tryz.func10, Tryz.ntmps10
      go_wp2
      go_ret
      exact ⟨ret_i (by rw [HE.out]), rfl⟩
    · have hin' : i = n := by omega
      subst hin'
      go_enter Tryz.func10, Tryz.ntmps10
      go_wp2
      go_ret
      exact ⟨ret_i (by rw [HE.out]), rfl⟩
  | succ d ih =>
    intro i hd hi
    have HL : Hid (l.length = n) := hl
    have HR : Hid (RdN w ao l) := hr
    have IH : Hid _ := ih
    clear hl hr ih
    by_cases hin : i < n
    · obtain ⟨b, off, rfl, hc⟩ := RdN.countAt HR.out (show i < l.length by rw [HL.out]; exact hin)
      have hine : decide (n ≤ i) = false := by simp; omega
      have hd0 : ((d : Int) + 1 == 0) = false := by simp; omega
      by_cases hneg : cnt l i < 0
      · have HE : Hid (endI (endAt l (d + 1) i) = -1) := by show _ = _; rw [endAt, if_neg (by omega)]; rfl
        generalize cnt l i = c at hc hneg
        go_enter Tryz.func10, Tryz.ntmps10
        go_wp2
        go_ret
        exact ⟨ret_i (by rw [HE.out]), rfl⟩
      · have hneg' : decide (cnt l i < 0) = false := by simp; omega
        by_cases hbig : (n : Int) < cnt l i
        · have HE : Hid (endI (endAt l (d + 1) i) = -1) := by show _ = _; rw [endAt, if_neg (by rw [HL.out]; omega)]; rfl
          generalize cnt l i = c at hc hneg hneg' hbig
          go_enter Tryz.func10, Tryz.ntmps10
          go_wp2
          go_ret
          exact ⟨ret_i (by rw [HE.out]), rfl⟩
        · have HE : Hid (endAt l (d + 1) i = loopN (endAt l d) (cnt l i).toNat (i + 1)) := by show _ = _; rw [endAt, if_pos (by rw [HL.out]; omega)]
          obtain ⟨c, hcc⟩ : ∃ c : Nat, cnt l i = (c : Int) := ⟨(cnt l i).toNat, by omega⟩
          rw [hcc] at hc hneg hneg' hbig
          have HE2 : Hid (endAt l (d + 1) i = loopN (endAt l d) c (i + 1)) := by show _ = _; rw [HE.out, hcc]; rfl
          clear hcc HE
          have hbig' : decide ((n : Int) < (c : Int)) = false := by simp; omega
          go_enter Tryz.func10, Tryz.ntmps10
          go_wp2
          go_loop [7, 8] (fun p q => ∃ (k m : Nat), k ≤ c ∧ m ≤ n ∧ p = .int .i64 m ∧ q = .int .i64 k ∧ Hid (endAt l (d + 1) i = loopN (endAt l d) (c - k) m)) (fun _ q => c - (intOf q).toNat)
          case atStart => exact ⟨0, i + 1, by omega, by omega, by go_num, rfl, HE2⟩
          case round =>
            obtain ⟨k, m, hk, hm, rfl, rfl, HK⟩ := hrel
            by_cases hkc : k < c
            · have C := IH.out m (by omega) hm
              cases hf : endAt l d m with
              | none =>
                rw [hf] at C
                have HF : Hid (endI (endAt l (d + 1) i) = -1) := by show _ = _; rw [HK.out, show c - k = (c - k - 1) + 1 by omega, loopN_none hf]; rfl
                go_wp2_with fail
                refine C.mono ?_
                rintro e w' ⟨rfl, hw⟩
                replace hw := hw.symm
                subst hw
                go_wp2
                go_ret
                exact ⟨ret_i (by rw [HF.out]), rfl⟩
              | some m' =>
                rw [hf] at C
                have hb := endAt_bd hf
                rw [HL.out] at hb
                have HF : Hid (endAt l (d + 1) i = loopN (endAt l d) (c - (k + 1)) m') := by show _ = _; rw [HK.out, show c - k = (c - (k + 1)) + 1 by omega, loopN_some hf]
                have hm' : decide ((m' : Int) < 0) = false := by simp
                obtain ⟨hb1, hb2⟩ := hb
                clear hf
                go_wp2_with fail
                refine C.mono ?_
                rintro e w' ⟨rfl, hw⟩
                replace hw := hw.symm
                subst hw
                unfold endI
                go_wp2
                go_round
                case rel => exact ⟨k + 1, m', by omega, hb2, rfl, by go_num, HF⟩
                case measure => simp [intOf]; omega
            · have hkc' : k = c := by omega
              subst hkc'
              have HF : Hid (endI (endAt l (d + 1) i) = (m : Int)) := by show _ = _; rw [HK.out, Nat.sub_self]; rfl
              go_wp2
              go_ret
              exact ⟨ret_i (by rw [HF.out]), rfl⟩
    · have HE : Hid (endI (endAt l (d + 1) i) = -1) := by show _ = _; rw [endAt, if_neg (by rw [HL.out]; omega)]; rfl
      have hin' : i = n := by omega
      subst hin'
      go_enter Tryz.func10, Tryz.ntmps10
      go_wp2
      go_ret
      exact ⟨ret_i (by rw [HE.out]), rfl⟩

set_option maxRecDepth 100000 in
set_option maxHeartbeats 2000000 in
theorem l3next_any (ao : Option Addr) (n cap : Nat) (l : List Nd) (w : World) (hl : l.length = n) (hr : RdN w ao l) (hn : n ≤ 6000) (i e : Nat) (hE : endAt l 200 i = some e) :
    Calls Tryz.prog 29 #[.slice ao n cap, .int .i64 i] w fun x w' => x = .returned (.int .i64 (e : Int)) ∧ w' = w := by
  have HL : Hid (l.length = n) := hl
  have HR : Hid (RdN w ao l) := hr
  have h1 := open_one (l := l) (D := 200) (o := 0) (p := i) (e := e) (by rw [loopN_some hE]; rfl)
  rw [hl] at h1
  obtain ⟨hin, hc0, hc1, hlp⟩ := h1
  obtain ⟨b, off, rfl, hc⟩ := RdN.countAt hr (show i < l.length by rw [hl]; exact hin)
  have hbd := endAt_bd hE
  rw [hl] at hbd
  obtain ⟨c, hcc⟩ : ∃ c : Nat, cnt l i = (c : Int) := ⟨(cnt l i).toNat, by omega⟩
  rw [hcc] at hc hc1 hlp
  have HP : Hid (loopN (endAt l 200) c (i + 1) = some e) := hlp
  obtain ⟨hb1, hb2⟩ := hbd
  clear hlp hcc hc0 hE hl hr
  go_enter Tryz.func29, Tryz.ntmps29
  go_wp2
  go_loop [5, 6] (fun p q => ∃ (m o : Nat), m + o ≤ n ∧ p = .int .i64 m ∧ q = .int .i64 o ∧ Hid (loopN (endAt l 200) o m = some e)) (fun p _ => n - (intOf p).toNat)
  case atStart =>
    have := loopN_bd (l := l) (fun i e h => endAt_bd h) (by rw [HL.out]; omega) HP.out
    rw [HL.out] at this
    exact ⟨i + 1, c, by omega, by go_num, rfl, HP⟩
  case round =>
    obtain ⟨m, o, hmo, rfl, rfl, HK⟩ := hrel
    by_cases ho : 0 < o
    · have h1 := open_one (l := l) (D := 200) (o := o - 1) (p := m) (e := e) (by rw [show o - 1 + 1 = o by omega]; exact HK.out)
      rw [HL.out] at h1
      obtain ⟨hmn, hd0, hd1, hlp⟩ := h1
      obtain ⟨b', off', e', hc'⟩ := RdN.countAt HR.out (show m < l.length by rw [HL.out]; exact hmn)
      simp only [Option.some.injEq, Addr.mk.injEq, and_true] at e'
      obtain ⟨rfl, rfl⟩ := e'
      obtain ⟨c', hcc⟩ : ∃ c : Nat, cnt l m = (c : Int) := ⟨(cnt l m).toNat, by omega⟩
      rw [hcc] at hc' hd1 hlp
      have HP' : Hid (loopN (endAt l 200) (c' + (o - 1)) (m + 1) = some e) := hlp
      have hbd := loopN_bd (l := l) (fun i e h => endAt_bd h) (by rw [HL.out]; omega) HP'.out
      rw [HL.out] at hbd
      obtain ⟨hb3, hb4⟩ := hbd
      clear hlp hcc hd0
      have ho' : (0 : Int) < (o : Int) := by omega
      go_wp2
      go_round
      case rel => exact ⟨m + 1, c' + (o - 1), by omega, by go_num, by go_num, HP'⟩
      case measure => simp [intOf]; omega
    · have ho' : o = 0 := by omega
      subst ho'
      have HF : Hid (m = e) := by show _ = _; have := HK.out; rw [loopN] at this; simpa using this
      go_wp2
      go_ret
      exact ⟨ret_i (by rw [HF.out]), rfl⟩

/-- The cells of a list of places. -/
def icells (ks : List Nat) : List Value := ks.map fun (k : Nat) => Value.int .i64 (k : Int)
theorem info_int : (Tryz.prog.info? 3).map (fun i => (i.zero, i.size, i.bytes)) = some (some (.int .i64 0), 1, 8) := by kernel_rfl

/-- The places of a node's children. -/
def kids (l : List Nd) (i : Nat) : List Nat := kidsL l (cnt l i).toNat (i + 1)

set_option maxRecDepth 100000 in
set_option maxHeartbeats 4000000 in
theorem l3kids_any (ao : Option Addr) (n cap : Nat) (l : List Nd) (w : World) (hl : l.length = n) (hr : RdN w ao l) (hn : n ≤ 6000) (d i e : Nat) (hd : d ≤ 200) (hE : endAt l d i = some e) :
    Calls Tryz.prog 19 #[.slice ao n cap, .int .i64 i] w fun x w' => ∃ a' c', x = .returned (.slice a' (kids l i).length c') ∧ w'.ownsRow w.heap.size 3 1 (.slice a' (kids l i).length c') (kids l i).length (icells (kids l i)) ∧ Below w.heap.size w w' := by
  obtain ⟨i0, hi, hz0, hz1, hz2⟩ := info_parts info_int
  obtain ⟨d, rfl⟩ := endAt_pos hE
  obtain ⟨⟨hin, hc0, hc1⟩, hlp⟩ := endAt_step hE
  have HL : Hid (l.length = n) := hl
  have HR : Hid (RdN w ao l) := hr
  rw [hl] at hin hc1
  obtain ⟨b, off, rfl, hc⟩ := RdN.countAt hr (show i < l.length by rw [hl]; exact hin)
  have hgw := World.block_lt_of_cell? _ _ hc
  obtain ⟨c, hcc⟩ : ∃ c : Nat, cnt l i = (c : Int) := ⟨(cnt l i).toNat, by omega⟩
  rw [hcc] at hc hc1 hlp
  have HK : Hid (kids l i = kidsL l c (i + 1)) := by show _ = _; unfold kids; rw [hcc]; rfl
  have HP : Hid (loopN (endAt l d) c (i + 1) = some e) := hlp
  obtain ⟨P, hP⟩ : ∃ P : Ending → World → Prop, P = fun x w' => ∃ a' c', x = .returned (.slice a' (kids l i).length c') ∧ w'.ownsRow w.heap.size 3 1 (.slice a' (kids l i).length c') (kids l i).length (icells (kids l i)) ∧ Below w.heap.size w w' := ⟨_, rfl⟩
  rw [← hP]
  have HPP : Hid (P = fun x w' => ∃ a' c', x = .returned (.slice a' (kids l i).length c') ∧ w'.ownsRow w.heap.size 3 1 (.slice a' (kids l i).length c') (kids l i).length (icells (kids l i)) ∧ Below w.heap.size w w') := hP
  clear hlp hcc hc0 hE hl hr hP
  go_enter Tryz.func19, Tryz.ntmps19
  go_wp2
  go_loopw [5, 6, 7] (fun v p q wr => ∃ (k m cp : Nat) (a' : Option Addr) (out : List Nat), k ≤ c ∧ m ≤ n ∧ v = .slice a' k cp ∧ p = .int .i64 m ∧ q = .int .i64 k ∧ Hid (out.length = k) ∧ wr.ownsRow w.heap.size 3 1 (.slice a' k cp) k (icells out) ∧ Hid (kids l i = out ++ kidsL l (c - k) m) ∧ Hid (loopN (endAt l d) (c - k) m = some e) ∧ Below w.heap.size w wr) (fun _ _ q _ => c - (intOf q).toNat)
  case atStart => exact ⟨0, i + 1, 0, none, [], by omega, by omega, rfl, by go_num, rfl, rfl, World.ownsRow_nil _ _ _ _, HK, HP, Below.refl _ _⟩
  case round =>
    obtain ⟨k, m, cp, a', out, hk, hm, rfl, rfl, rfl, HO, hown, HQ, HJ, hbel⟩ := hrel
    have hcw := (hbel.cell (p := ⟨b, off + i * 5 + 4, none⟩) hgw).trans hc
    by_cases hkc : k < c
    · have HJ2 := HJ.out
      rw [show c - k = (c - (k + 1)) + 1 by omega] at HJ2
      cases hf : endAt l d m with
      | none => rw [loopN_none hf] at HJ2; cases HJ2
      | some m' =>
        rw [loopN_some hf] at HJ2
        have HJ' : Hid (loopN (endAt l d) (c - (k + 1)) m' = some e) := HJ2
        have hf2 := endAt_le hf (show d ≤ 200 by omega)
        have hb := endAt_bd hf
        rw [HL.out] at hb
        have HQ' : Hid (kids l i = (out ++ [m]) ++ kidsL l (c - (k + 1)) m') := by
          show _ = _
          rw [HQ.out, show c - k = (c - (k + 1)) + 1 by omega, kidsL, List.append_assoc]
          unfold nx; rw [hf2]; rfl
        have C : Hid (∀ W, Below w.heap.size w W → Calls Tryz.prog 29 #[.slice (some ⟨b, off, none⟩) n cap, .int .i64 m] W fun x w' => x = .returned (.int .i64 (m' : Int)) ∧ w' = W) :=
          fun W hW => l3next_any (some ⟨b, off, none⟩) n cap l W HL.out (HR.out.below hW) hn m m' hf2
        have HBL : Hid (Below w.heap.size w wr) := hbel
        have hBs := hbel.size
        have hgB : ∀ k', (Value.slice a' k cp).ownBlock = some k' → w.heap.size ≤ k' := fun k' hk' => (hown.lt k' hk').1
        obtain ⟨hb1, hb2⟩ := hb
        clear hf hf2 HJ2 hbel
        go_wp2_with (at_builtin; refine wpList_append_lies _ rfl _ _ _ rfl w.heap.size 3 i0 (.int .i64 0) 1 8 Tryz.underlying46 hi hz0 hz1 hz2 rfl (by omega) _ k (icells out) rfl (hown.alloc _) ⟨wr.heap.size, 0, none⟩ 1 1 [.int .i64 (m : Int)] rfl rfl (World.news_of_block (cs := #[.int .i64 (m : Int)]) (t := 3) (fr := (0, 0)) (heap_alloc_new wr _)) (by simp [Value.oneCell']) (by omega) (by unfold maxLen; omega) (by omega) (by simp; omega) (wr.heap.size + 1) (by simp) ?_; intro g' cap' w1 hown1 hgrow hat hlt2)
        have HB1 : Hid (Below w.heap.size w w1) := (HBL.out.alloc (by omega) _).grown hgrow (by simp; omega) hgB
        have HO1 : Hid (w1.ownsRow w.heap.size 3 1 (.slice (some ⟨g', 0, none⟩) (k + 1) cap') (k + 1) (icells (out ++ [m]))) := by
          have e : icells (out ++ [m]) = icells out ++ [.int .i64 (m : Int)] := by simp [icells]
          show World.ownsRow _ _ _ _ _ _ _
          rw [e]; exact hown1
        clear hown hown1 hgrow hat hlt2
        refine (C.out _ HB1.out).mono ?_
        rintro x w' ⟨rfl, hw⟩
        replace hw := hw.symm
        subst hw
        go_wp2
        go_roundw
        case rel => exact ⟨k + 1, m', cap', some ⟨g', 0, none⟩, out ++ [m], by omega, hb2, rfl, rfl, by go_num, by show _ = _; rw [List.length_append, HO.out]; rfl, HO1.out, HQ', HJ', HB1.out⟩
        case measure => simp [intOf]; omega
    · have hkc' : k = c := by omega
      subst hkc'
      have HF : Hid (kids l i = out) := by show _ = _; rw [HQ.out, Nat.sub_self, kidsL, List.append_nil]
      go_wp2
      rw [HPP.out, HF.out, HO.out]
      exact ⟨_, _, rfl, hown, hbel⟩
end Go.Proofs.YtccnjmnafkfjdaaGreat.vt
