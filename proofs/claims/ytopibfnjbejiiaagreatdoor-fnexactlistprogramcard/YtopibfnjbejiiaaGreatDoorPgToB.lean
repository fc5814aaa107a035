import Derived.Test.YtopibfnjbejiiaaGreatDoorPgTo
namespace Go.Proofs.YtopibfnjbejiiaaGreatDoor.pg
open Go.RowKit Go.Proofs.YtopibfnjbejiiaaGreatDoor.bts

set_option maxRecDepth 100000 in
set_option maxHeartbeats 1000000 in
theorem toConst_any (k : Bool) (n : Int) (ut : Value) (t : List Int) (w : World) (ht : RdV w ut t) (hs : t.length ≤ 1048576) :
    Calls Tryz.prog 36 #[.agg #[.bool k, .int .i64 n, ut]] w fun e w' => ∃ ut', e = .returned (.agg #[.bool k, .int .i64 n, ut']) ∧ OwS w' w.heap.size ut' t ∧ Below w.heap.size w w' := by
  obtain ⟨ao, cap, rfl, _, hr, _⟩ := ht
  have CT : Hid (∀ W, Below w.heap.size w W → Calls Tryz.prog 60 #[.slice ao t.length cap] W fun e w' => e = .returned (.slice (some ⟨W.heap.size, 0, none⟩) t.length t.length) ∧ OwS w' W.heap.size (.slice (some ⟨W.heap.size, 0, none⟩) t.length t.length) t ∧ Below W.heap.size W w') := by
    intro W hW
    refine (toByteS_any ao cap t W (hr.below hW) (by omega)).mono ?_
    rintro e w' ⟨h1, h2, h3⟩
    exact ⟨h1, ⟨_, rfl, h2⟩, h3⟩
  clear hr hs
  go_enter Tryz.func36, Tryz.ntmps36
  go_wp2_with fail
  refine (CT.out _ (by go_grown)).mono ?_
  rintro e w1 ⟨rfl, ho1, hb1⟩
  simp only [World.size_alloc] at ho1 hb1 ⊢
  have HW1 : Hid (Below w.heap.size w w1) := Below.trans (by go_grown) (hb1.mono (by omega))
  have L0 : Hid (Lone 75 3 w1 (w.heap.size + 1 + 1) [.bool k, .int .i64 n, .slice none 0 0]) := by
    refine Lone.of ((hb1.block _ (by omega)).trans ?_) rfl
    have := heap_alloc_new ((w.alloc (Obj.cells #[.bool k, Value.int IntKind.i64 n, .slice ao t.length cap] 69)).alloc (Obj.cells #[.bool false, Value.int IntKind.i64 0, Value.slice none 0 0] 75)) (Obj.cells #[.bool k, Value.int IntKind.i64 n, Value.slice none 0 0] 75)
    simpa only [World.size_alloc] using this
  have M0 : Hid (Lone 75 3 w1 (w.heap.size + 1) [.bool false, .int .i64 0, .slice none 0 0]) := by
    refine Lone.of ((hb1.block _ (by omega)).trans ?_) rfl
    rw [heap_alloc_old _ _ (by simp only [World.size_alloc]; omega)]
    have := heap_alloc_new (w.alloc (Obj.cells #[.bool k, Value.int IntKind.i64 n, .slice ao t.length cap] 69)) (Obj.cells #[.bool false, Value.int IntKind.i64 0, Value.slice none 0 0] 75)
    simpa only [World.size_alloc] using this
  have HO1 : Hid (OwS w1 (w.heap.size + 1 + 1 + 1) (.slice (some ⟨w.heap.size + 1 + 1 + 1, 0, none⟩) t.length t.length) t) := ho1
  have hf2 := L0.out.free 2
  have c0 := L0.out.at (j := 0) (by omega)
  have c1 := L0.out.at (j := 1) (by omega)
  have c2 := L0.out.at (j := 2) (by omega)
  have g0 := M0.out.free 0
  have g1 := M0.out.free 1
  have g2 := M0.out.free 2
  have m0 := M0.out.at (j := 0) (by omega)
  have m1 := M0.out.at (j := 1) (by omega)
  have m2 := M0.out.at (j := 2) (by omega)
  simp only [List.getElem?_cons_zero, List.getElem?_cons_succ] at c0 c1 c2 m0 m1 m2
  clear ho1 hb1
  go_wp2_with fail
  have MG := (((M0.out.other (b := w.heap.size + 1 + 1) (o := 2) (u := .slice (some ⟨w.heap.size + 1 + 1 + 1, 0, none⟩) t.length t.length) (by omega)).set 0 (.bool k)).set 1 (.int .i64 n)).set 2 (.slice (some ⟨w.heap.size + 1 + 1 + 1, 0, none⟩) t.length t.length)
  refine bodyPost_ret (results_cell_row Tryz.results36 _ _ (w.heap.size + 1) 75 _ _ _ rfl (Lone.back MG) Tryz.underlying75 rfl rfl) rfl ?_
  refine ⟨_, rfl, ?_, ?_⟩
  · exact OwS.weaken (B := w.heap.size + 1 + 1 + 1) (OwS.store (OwS.store (OwS.store (OwS.store HO1.out (by omega)) (by omega)) (by omega)) (by omega)) (by omega)
  · have P1 : w.heap.size ≤ w.heap.size + 1 + 1 := by omega
    have P2 : w.heap.size ≤ w.heap.size + 1 := by omega
    exact (((HW1.out.setCell (p := ⟨w.heap.size + 1 + 1, 2, none⟩) P1 _).setCell (p := ⟨w.heap.size + 1, 0, none⟩) P2 _).setCell (p := ⟨w.heap.size + 1, 1, none⟩) P2 _).setCell (p := ⟨w.heap.size + 1, 2, none⟩) P2 _

set_option maxRecDepth 100000 in
set_option maxHeartbeats 1000000 in
theorem toProto_any (k n : Int) (uc ud : Value) (c : List Cp) (d : List In) (w : World) (hc : RdCV w uc c) (hd : RdIV w ud d) (hs : c.length + d.length ≤ 1048576) :
    Calls Tryz.prog 37 #[.agg #[.int .i64 k, .int .i64 n, uc, ud]] w fun e w' => ∃ uc' ud', e = .returned (.agg #[.int .i64 k, .int .i64 n, uc', ud']) ∧ OwC w' w.heap.size uc' c ∧ OwI w' w.heap.size ud' d ∧ Below w.heap.size w w' := by
  have CT : Hid (∀ W, Below w.heap.size w W → Calls Tryz.prog 61 #[uc] W fun e w' => e = .returned (.slice (some ⟨W.heap.size, 0, none⟩) c.length c.length) ∧ OwC w' W.heap.size (.slice (some ⟨W.heap.size, 0, none⟩) c.length c.length) c ∧ Below W.heap.size W w') :=
    fun W hW => toCaptureS_any uc c W (hc.below hW) (by omega)
  have CN : Hid (∀ W, Below w.heap.size w W → Calls Tryz.prog 62 #[ud] W fun e w' => e = .returned (.slice (some ⟨W.heap.size, 0, none⟩) d.length d.length) ∧ OwI w' W.heap.size (.slice (some ⟨W.heap.size, 0, none⟩) d.length d.length) d ∧ Below W.heap.size W w') :=
    fun W hW => toInsS_any ud d W (hd.below hW) (by omega)
  obtain ⟨cl, hcl⟩ : ∃ cl, cl = c.length := ⟨_, rfl⟩
  obtain ⟨dl, hdl⟩ : ∃ dl, dl = d.length := ⟨_, rfl⟩
  rw [← hcl] at CT
  rw [← hdl] at CN
  obtain ⟨ao, cap, rfl, _, _⟩ := hc
  obtain ⟨bo, cap', rfl, _, _⟩ := hd
  rw [← hcl] at CT ⊢
  rw [← hdl] at CN ⊢
  clear hs hcl hdl
  go_enter Tryz.func37, Tryz.ntmps37
  go_wp2_with fail
  refine (CT.out _ (by go_grown)).mono ?_
  rintro e w1 ⟨rfl, ho1, hb1⟩
  simp only [World.size_alloc] at ho1 hb1 ⊢
  have HW1 : Hid (Below w.heap.size w w1) := Below.trans (by go_grown) (hb1.mono (by omega))
  have L0 : Hid (Lone 45 4 w1 (w.heap.size + 1 + 1) [.int .i64 k, .int .i64 n, .slice none 0 0, .slice none 0 0]) := by
    refine Lone.of ((hb1.block _ (by omega)).trans ?_) rfl
    have := heap_alloc_new ((w.alloc (Obj.cells #[.int .i64 k, Value.int IntKind.i64 n, .slice ao cl cap, .slice bo dl cap'] 74)).alloc (Obj.cells #[.int .i64 0, Value.int IntKind.i64 0, Value.slice none 0 0, Value.slice none 0 0] 45)) (Obj.cells #[.int .i64 k, Value.int IntKind.i64 n, Value.slice none 0 0, Value.slice none 0 0] 45)
    simpa only [World.size_alloc] using this
  have M0 : Hid (Lone 45 4 w1 (w.heap.size + 1) [.int .i64 0, .int .i64 0, .slice none 0 0, .slice none 0 0]) := by
    refine Lone.of ((hb1.block _ (by omega)).trans ?_) rfl
    rw [heap_alloc_old _ _ (by simp only [World.size_alloc]; omega)]
    have := heap_alloc_new (w.alloc (Obj.cells #[.int .i64 k, Value.int IntKind.i64 n, .slice ao cl cap, .slice bo dl cap'] 74)) (Obj.cells #[.int .i64 0, Value.int IntKind.i64 0, Value.slice none 0 0, Value.slice none 0 0] 45)
    simpa only [World.size_alloc] using this
  have A0 : w1.heap[w.heap.size]? = some (Obj.cells #[Value.int IntKind.i64 k, Value.int IntKind.i64 n, .slice ao cl cap, .slice bo dl cap'] 74) := by
    rw [hb1.block _ (by omega), heap_alloc_old _ _ (by simp only [World.size_alloc]; omega), heap_alloc_old _ _ (by simp only [World.size_alloc]; omega)]
    exact heap_alloc_new _ _
  have a3 : w1.cell? ⟨w.heap.size, 3, none⟩ = some (.slice bo dl cap') := by simp only [World.cell?, A0]; rfl
  have hf2 := L0.out.free 2
  have hc2 := L0.out.at (j := 2) (by omega)
  have HO1 : Hid _ := ho1
  have HS1 : Hid (w.heap.size + 1 + 1 + 1 ≤ w1.heap.size) := by have := hb1.size; simp only [World.size_alloc] at this; exact this
  clear ho1 hb1 A0
  go_wp2_with fail
  refine (CN.out _ (HW1.out.setCell (p := ⟨w.heap.size + 1 + 1, 2, none⟩) (by show _ ≤ w.heap.size + 1 + 1; omega) _)).mono ?_
  rintro e w2 ⟨rfl, ho2, hb2⟩
  simp only [World.size_setCell] at ho2 hb2 ⊢
  have HB2 : Hid (Below w1.heap.size (w1.setCell ⟨w.heap.size + 1 + 1, 2, none⟩ (.slice (some ⟨w.heap.size + 1 + 1 + 1, 0, none⟩) cl cl)) w2) := hb2
  have hs2 := HB2.out.size
  simp only [World.size_setCell] at hs2
  have HW2 : Hid (Below w.heap.size w w2) := (HW1.out.setCell (p := ⟨w.heap.size + 1 + 1, 2, none⟩) (by show _ ≤ w.heap.size + 1 + 1; omega) _).trans (HB2.out.mono HW1.out.size)
  have L1 : Hid (Lone 45 4 w2 (w.heap.size + 1 + 1) [.int .i64 k, .int .i64 n, .slice (some ⟨w.heap.size + 1 + 1 + 1, 0, none⟩) cl cl, .slice none 0 0]) :=
    Lone.below (L0.out.set 2 (.slice (some ⟨w.heap.size + 1 + 1 + 1, 0, none⟩) cl cl)) HB2.out (by have := HS1.out; omega)
  have M1 : Hid (Lone 45 4 w2 (w.heap.size + 1) [.int .i64 0, .int .i64 0, .slice none 0 0, .slice none 0 0]) :=
    Lone.below (M0.out.other (by omega)) HB2.out (by have := HS1.out; omega)
  have HT2 : Hid (OwC w2 (w.heap.size + 1 + 1 + 1) (.slice (some ⟨w.heap.size + 1 + 1 + 1, 0, none⟩) cl cl) c) :=
    OwC.below (OwC.store HO1.out (by omega)) HB2.out (by simp only [World.size_setCell]; exact Nat.le_refl _)
  have HN2 : Hid (OwI w2 (w.heap.size + 1 + 1 + 1) (.slice (some ⟨w1.heap.size, 0, none⟩) dl dl) d) := ho2.weaken HS1.out
  have hf3 := L1.out.free 3
  have c0 := L1.out.at (j := 0) (by omega)
  have c1 := L1.out.at (j := 1) (by omega)
  have c2 := L1.out.at (j := 2) (by omega)
  have c3 := L1.out.at (j := 3) (by omega)
  have g0 := M1.out.free 0
  have g1 := M1.out.free 1
  have g2 := M1.out.free 2
  have g3 := M1.out.free 3
  have m0 := M1.out.at (j := 0) (by omega)
  have m1 := M1.out.at (j := 1) (by omega)
  have m2 := M1.out.at (j := 2) (by omega)
  have m3 := M1.out.at (j := 3) (by omega)
  simp only [List.getElem?_cons_zero, List.getElem?_cons_succ] at c0 c1 c2 c3 m0 m1 m2 m3
  clear ho2 hb2 hs2 a3 hf2 hc2
  generalize w1.heap.size = s1 at HN2 ⊢
  clear HB2 L0 M0 HO1 HS1 HW1
  go_wp2_with fail
  have MG := (((((M1.out.other (b := w.heap.size + 1 + 1) (o := 3) (u := .slice (some ⟨s1, 0, none⟩) dl dl) (by omega)).set 0 (.int .i64 k)).set 1 (.int .i64 n)).set 2 (.slice (some ⟨w.heap.size + 1 + 1 + 1, 0, none⟩) cl cl)).set 3 (.slice (some ⟨s1, 0, none⟩) dl dl))
  refine bodyPost_ret (results_cell_row Tryz.results37 _ _ (w.heap.size + 1) 45 _ _ _ rfl (Lone.back MG) Tryz.underlying45 rfl rfl) rfl ?_
  refine ⟨_, _, rfl, ?_, ?_, ?_⟩
  · exact OwC.weaken (B := w.heap.size + 1 + 1 + 1) (OwC.store (OwC.store (OwC.store (OwC.store (OwC.store HT2.out (by omega)) (by omega)) (by omega)) (by omega)) (by omega)) (by omega)
  · exact OwI.weaken (B := w.heap.size + 1 + 1 + 1) (OwI.store (OwI.store (OwI.store (OwI.store (OwI.store HN2.out (by omega)) (by omega)) (by omega)) (by omega)) (by omega)) (by omega)
  · have P1 : w.heap.size ≤ w.heap.size + 1 + 1 := by omega
    have P2 : w.heap.size ≤ w.heap.size + 1 := by omega
    exact ((((HW2.out.setCell (p := ⟨w.heap.size + 1 + 1, 3, none⟩) P1 _).setCell (p := ⟨w.heap.size + 1, 0, none⟩) P2 _).setCell (p := ⟨w.heap.size + 1, 1, none⟩) P2 _).setCell (p := ⟨w.heap.size + 1, 2, none⟩) P2 _).setCell (p := ⟨w.heap.size + 1, 3, none⟩) P2 _

set_option maxRecDepth 100000 in
set_option maxHeartbeats 2000000 in
theorem toConstS_any (v : Value) (l : List Cn) (w : World) (hr : RdKV w v l) (hs : sizeK l ≤ 1048576) :
    Calls Tryz.prog 18 #[v] w fun e w' => e = .returned (.slice (some ⟨w.heap.size, 0, none⟩) l.length l.length) ∧ OwK w' w.heap.size (.slice (some ⟨w.heap.size, 0, none⟩) l.length l.length) l ∧ Below w.heap.size w w' := by
  obtain ⟨i0, hi, hz0, hz1, hz2⟩ := info_parts info_const
  obtain ⟨ao, cap, rfl, _, hr⟩ := hr
  have HS : Hid (∀ i, i < l.length → (l.getD i cn0).text.length ≤ 1048576) := by
    intro i hi
    have h1 : sizeCn (l.getD i cn0) ≤ _ := sumsF_at (f := sizeCn) cn0 hi
    unfold sizeK at hs
    have h3 : sizeCn (l.getD i cn0) = (l.getD i cn0).text.length := rfl
    omega
  have hn0 : l.length ≤ 1048576 := by unfold sizeK at hs; omega
  obtain ⟨n, hnn⟩ : ∃ n, n = l.length := ⟨_, rfl⟩
  have HL : Hid (l.length = n) := hnn.symm
  have HR : Hid (RdK w ao l) := hr
  have hn1 : n ≤ 1048576 := by rw [hnn]; exact hn0
  rw [← hnn]
  clear hnn hr hs hn0
  have hmx : n ≤ maxLen := by unfold maxLen; omega
  go_enter Tryz.func18, Tryz.ntmps18
  go_wp2_with (at_make; refine wpList_make_full _ rfl _ _ 29 rfl w.heap.size 75 i0 (.agg #[.bool false, .int .i64 0, .slice none 0 0]) 3 Tryz.underlying29 hi hz0 hz1 .i64 .i64 _ _ n rfl rfl rfl rfl (by rw [hz2]; omega) hmx (Nat.le_refl _) ?_; intro w1 hown hgrow)
  have hb1 : Below w.heap.size w w1 := (Below.refl _ _).grown hgrow (Nat.le_refl _) (by intro k hk; cases hk)
  go_loopw [4] (fun i wr => ∃ (k : Nat) (us : List Value), k ≤ n ∧ i = .int .i64 k ∧ wr.ownsRow w.heap.size 75 3 (.slice (some ⟨w.heap.size, 0, none⟩) n n) n us ∧ (∀ j, j < k → CnAt wr (w.heap.size + 1) us j (l.getD j cn0)) ∧ Below w.heap.size w wr) (fun i _ => n - (intOf i).toNat)
  case atStart => exact ⟨0, _, Nat.zero_le _, rfl, hown, fun j hj => absurd hj (by omega), hb1⟩
  case round =>
    clear hown hgrow hb1
    obtain ⟨k, us, hk, rfl, hown, hus, hb⟩ := hrel
    have hlB := (hown.lt w.heap.size rfl).2
    have HO : Hid (wr.ownsRow w.heap.size 75 3 (.slice (some ⟨w.heap.size, 0, none⟩) n n) n us) := hown
    have HU : Hid (∀ j, j < k → CnAt wr (w.heap.size + 1) us j (l.getD j cn0)) := hus
    clear hown hus
    by_cases hlt : k < n
    · obtain ⟨b, off, ut, rfl, c0, c1, c2, ht⟩ := (RdK.below HR.out hb) k (by rw [HL.out]; exact hlt)
      have hsz := HS.out k (by rw [HL.out]; exact hlt)
      obtain ⟨dd, hdd⟩ : ∃ d, d = l.getD k cn0 := ⟨_, rfl⟩
      rw [← hdd] at c0 c1 ht hsz
      have HD : Hid (l.getD k cn0 = dd) := hdd.symm
      clear hdd
      obtain ⟨kb, nn, tx⟩ := dd
      simp only at c0 c1 ht hsz
      have C := toConst_any kb nn ut tx wr ht hsz
      obtain ⟨at_, ct_, rfl, _, _, _⟩ := ht
      clear hsz
      go_wp2_with fail
      refine C.mono ?_
      rintro e w1 ⟨ut', rfl, ⟨gt, rfl, ot⟩, hb1⟩
      clear C
      have HT : Hid (OwS w1 (w.heap.size + 1) (.slice (some ⟨gt, 0, none⟩) tx.length tx.length) tx) := OwS.weaken (B := wr.heap.size) ⟨gt, rfl, ot⟩ (by omega)
      clear ot
      have ho2 : w1.ownsRow w.heap.size 75 3 (.slice (some ⟨w.heap.size, 0, none⟩) n n) n us := own_below HO.out hb1 hlB
      have hul : us.length = n * 3 := ho2.1
      have f0 := ho2.frozenAt (k * 3)
      have f1 := ho2.frozenAt (k * 3 + 1)
      have f2 := ho2.frozenAt (k * 3 + 2)
      have e0 := ho2.cellAt (k * 3) (by omega)
      have e1 := ho2.cellAt (k * 3 + 1) (by omega)
      have e2 := ho2.cellAt (k * 3 + 2) (by omega)
      obtain ⟨u0, hu0⟩ : ∃ u, us[k * 3]? = some u := ⟨_, List.getElem?_eq_getElem (by omega)⟩
      rw [hu0] at e0
      obtain ⟨u1, hu1⟩ : ∃ u, us[k * 3 + 1]? = some u := ⟨_, List.getElem?_eq_getElem (by omega)⟩
      rw [hu1] at e1
      obtain ⟨u2, hu2⟩ : ∃ u, us[k * 3 + 2]? = some u := ⟨_, List.getElem?_eq_getElem (by omega)⟩
      rw [hu2] at e2
      have HO2 : Hid (w1.ownsRow w.heap.size 75 3 (.slice (some ⟨w.heap.size, 0, none⟩) n n) n us) := ho2
      have HB1 : Hid (Below wr.heap.size wr w1) := hb1
      have HUL : Hid (us.length = n * 3) := hul
      clear ho2 hul hb1 hu0 hu1 hu2
      go_wp2
      go_roundw
      case rel =>
        have s0 := HO2.out.stored (k * 3) (.bool kb)
        have s1 := s0.1.stored (k * 3 + 1) (.int .i64 nn)
        have s2 := s1.1.stored (k * 3 + 2) (.slice (some ⟨gt, 0, none⟩) tx.length tx.length)
        have HBw : Below w.heap.size w w1 := hb.trans (HB1.out.mono hb.size)
        refine ⟨k + 1, _, by omega, by go_num, s2.1, ?_, (((HBw.setCell (Nat.le_refl _) _).setCell (Nat.le_refl _) _).setCell (Nat.le_refl _) _)⟩
        intro j hj
        have hl := HUL.out
        by_cases e : j = k
        · subst e
          rw [HD.out]
          refine ⟨_, ?_, ?_, ?_, OwS.store (OwS.store (OwS.store HT.out (by omega)) (by omega)) (by omega)⟩
          · rw [List.getElem?_set_ne (by omega), List.getElem?_set_ne (by omega), List.getElem?_set_self (by first | omega | (simp only [List.length_set]; omega))]
          · rw [List.getElem?_set_ne (by omega), List.getElem?_set_self (by first | omega | (simp only [List.length_set]; omega))]
          · rw [List.getElem?_set_self (by first | omega | (simp only [List.length_set]; omega))]
        · have h := (HU.out j (by omega)).below HB1.out (Nat.le_refl _)
          have h0 := (h.store (b := w.heap.size) (o := k * 3) (u := (.bool kb)) (by omega)).other (k := k) (i := 0) (u := (.bool kb)) (by omega) (by omega)
          have h1 := (h0.store (b := w.heap.size) (o := k * 3 + 1) (u := (.int .i64 nn)) (by omega)).other (k := k) (i := 1) (u := (.int .i64 nn)) (by omega) (by omega)
          have h2 := (h1.store (b := w.heap.size) (o := k * 3 + 2) (u := (.slice (some ⟨gt, 0, none⟩) tx.length tx.length)) (by omega)).other (k := k) (i := 2) (u := (.slice (some ⟨gt, 0, none⟩) tx.length tx.length)) (by omega) (by omega)
          exact h2
      case measure => simp [intOf]; omega
    · have hkn : k = n := by omega
      subst hkn
      go_wp2
      go_ret
      refine ⟨rfl, ⟨w.heap.size, us, by rw [HL.out], by rw [HL.out]; exact HO.out, fun i hi => HU.out i (by rw [← HL.out]; exact hi)⟩, hb⟩

set_option maxRecDepth 100000 in
set_option maxHeartbeats 2000000 in
theorem toProtoS_any (v : Value) (l : List Pr) (w : World) (hr : RdPV w v l) (hs : sizeP l ≤ 1048576) :
    Calls Tryz.prog 19 #[v] w fun e w' => e = .returned (.slice (some ⟨w.heap.size, 0, none⟩) l.length l.length) ∧ OwP w' w.heap.size (.slice (some ⟨w.heap.size, 0, none⟩) l.length l.length) l ∧ Below w.heap.size w w' := by
  obtain ⟨i0, hi, hz0, hz1, hz2⟩ := info_parts info_proto
  obtain ⟨ao, cap, rfl, _, hr⟩ := hr
  have HS : Hid (∀ i, i < l.length → (l.getD i pr0).caps.length + (l.getD i pr0).code.length ≤ 1048576) := by
    intro i hi
    have h1 : sizePr (l.getD i pr0) ≤ _ := sumsF_at (f := sizePr) pr0 hi
    unfold sizeP at hs
    have h3 : sizePr (l.getD i pr0) = (l.getD i pr0).caps.length + (l.getD i pr0).code.length := rfl
    omega
  have hn0 : l.length ≤ 1048576 := by unfold sizeP at hs; omega
  obtain ⟨n, hnn⟩ : ∃ n, n = l.length := ⟨_, rfl⟩
  have HL : Hid (l.length = n) := hnn.symm
  have HR : Hid (RdP w ao l) := hr
  have hn1 : n ≤ 1048576 := by rw [hnn]; exact hn0
  rw [← hnn]
  clear hnn hr hs hn0
  have hmx : n ≤ maxLen := by unfold maxLen; omega
  go_enter Tryz.func19, Tryz.ntmps19
  go_wp2_with (at_make; refine wpList_make_full _ rfl _ _ 30 rfl w.heap.size 45 i0 (.agg #[.int .i64 0, .int .i64 0, .slice none 0 0, .slice none 0 0]) 4 Tryz.underlying30 hi hz0 hz1 .i64 .i64 _ _ n rfl rfl rfl rfl (by rw [hz2]; omega) hmx (Nat.le_refl _) ?_; intro w1 hown hgrow)
  have hb1 : Below w.heap.size w w1 := (Below.refl _ _).grown hgrow (Nat.le_refl _) (by intro k hk; cases hk)
  go_loopw [4] (fun i wr => ∃ (k : Nat) (us : List Value), k ≤ n ∧ i = .int .i64 k ∧ wr.ownsRow w.heap.size 45 4 (.slice (some ⟨w.heap.size, 0, none⟩) n n) n us ∧ (∀ j, j < k → PrAt wr (w.heap.size + 1) us j (l.getD j pr0)) ∧ Below w.heap.size w wr) (fun i _ => n - (intOf i).toNat)
  case atStart => exact ⟨0, _, Nat.zero_le _, rfl, hown, fun j hj => absurd hj (by omega), hb1⟩
  case round =>
    clear hown hgrow hb1
    obtain ⟨k, us, hk, rfl, hown, hus, hb⟩ := hrel
    have hlB := (hown.lt w.heap.size rfl).2
    have HO : Hid (wr.ownsRow w.heap.size 45 4 (.slice (some ⟨w.heap.size, 0, none⟩) n n) n us) := hown
    have HU : Hid (∀ j, j < k → PrAt wr (w.heap.size + 1) us j (l.getD j pr0)) := hus
    clear hown hus
    by_cases hlt : k < n
    · obtain ⟨b, off, uc, ud, rfl, c0, c1, c2, c3, hc, hd⟩ := (RdP.below HR.out hb) k (by rw [HL.out]; exact hlt)
      have hsz := HS.out k (by rw [HL.out]; exact hlt)
      obtain ⟨dd, hdd⟩ : ∃ d, d = l.getD k pr0 := ⟨_, rfl⟩
      rw [← hdd] at c0 c1 hc hd hsz
      have HD : Hid (l.getD k pr0 = dd) := hdd.symm
      clear hdd
      obtain ⟨kd, nn, tx, nms⟩ := dd
      simp only at c0 c1 hc hd hsz
      have C := toProto_any kd nn uc ud tx nms wr hc hd hsz
      obtain ⟨at_, ct_, rfl, _, _⟩ := hc
      obtain ⟨an_, cn_, rfl, _, _⟩ := hd
      clear hsz
      go_wp2_with fail
      refine C.mono ?_
      rintro e w1 ⟨uc', ud', rfl, ⟨gt, ut_, rfl, ot, xt⟩, ⟨gn, un_, rfl, on, xn⟩, hb1⟩
      clear C
      have HT : Hid (OwC w1 (w.heap.size + 1) (.slice (some ⟨gt, 0, none⟩) tx.length tx.length) tx) := OwC.weaken (B := wr.heap.size) ⟨gt, ut_, rfl, ot, xt⟩ (by omega)
      have HN : Hid (OwI w1 (w.heap.size + 1) (.slice (some ⟨gn, 0, none⟩) nms.length nms.length) nms) := OwI.weaken (B := wr.heap.size) ⟨gn, un_, rfl, on, xn⟩ (by omega)
      clear ot on xt xn
      have ho2 : w1.ownsRow w.heap.size 45 4 (.slice (some ⟨w.heap.size, 0, none⟩) n n) n us := own_below HO.out hb1 hlB
      have hul : us.length = n * 4 := ho2.1
      have f0 := ho2.frozenAt (k * 4)
      have f1 := ho2.frozenAt (k * 4 + 1)
      have f2 := ho2.frozenAt (k * 4 + 2)
      have f3 := ho2.frozenAt (k * 4 + 3)
      have e0 := ho2.cellAt (k * 4) (by omega)
      have e1 := ho2.cellAt (k * 4 + 1) (by omega)
      have e2 := ho2.cellAt (k * 4 + 2) (by omega)
      have e3 := ho2.cellAt (k * 4 + 3) (by omega)
      obtain ⟨u0, hu0⟩ : ∃ u, us[k * 4]? = some u := ⟨_, List.getElem?_eq_getElem (by omega)⟩
      rw [hu0] at e0
      obtain ⟨u1, hu1⟩ : ∃ u, us[k * 4 + 1]? = some u := ⟨_, List.getElem?_eq_getElem (by omega)⟩
      rw [hu1] at e1
      obtain ⟨u2, hu2⟩ : ∃ u, us[k * 4 + 2]? = some u := ⟨_, List.getElem?_eq_getElem (by omega)⟩
      rw [hu2] at e2
      obtain ⟨u3, hu3⟩ : ∃ u, us[k * 4 + 3]? = some u := ⟨_, List.getElem?_eq_getElem (by omega)⟩
      rw [hu3] at e3
      have HO2 : Hid (w1.ownsRow w.heap.size 45 4 (.slice (some ⟨w.heap.size, 0, none⟩) n n) n us) := ho2
      have HB1 : Hid (Below wr.heap.size wr w1) := hb1
      have HUL : Hid (us.length = n * 4) := hul
      clear ho2 hul hb1 hu0 hu1 hu2 hu3
      go_wp2
      go_roundw
      case rel =>
        have s0 := HO2.out.stored (k * 4) (.int .i64 kd)
        have s1 := s0.1.stored (k * 4 + 1) (.int .i64 nn)
        have s2 := s1.1.stored (k * 4 + 2) (.slice (some ⟨gt, 0, none⟩) tx.length tx.length)
        have s3 := s2.1.stored (k * 4 + 3) (.slice (some ⟨gn, 0, none⟩) nms.length nms.length)
        have HBw : Below w.heap.size w w1 := hb.trans (HB1.out.mono hb.size)
        refine ⟨k + 1, _, by omega, by go_num, s3.1, ?_, ((((HBw.setCell (Nat.le_refl _) _).setCell (Nat.le_refl _) _).setCell (Nat.le_refl _) _).setCell (Nat.le_refl _) _)⟩
        intro j hj
        have hl := HUL.out
        by_cases e : j = k
        · subst e
          rw [HD.out]
          refine ⟨_, _, ?_, ?_, ?_, ?_, OwC.store (OwC.store (OwC.store (OwC.store HT.out (by omega)) (by omega)) (by omega)) (by omega), OwI.store (OwI.store (OwI.store (OwI.store HN.out (by omega)) (by omega)) (by omega)) (by omega)⟩
          · rw [List.getElem?_set_ne (by omega), List.getElem?_set_ne (by omega), List.getElem?_set_ne (by omega), List.getElem?_set_self (by first | omega | (simp only [List.length_set]; omega))]
          · rw [List.getElem?_set_ne (by omega), List.getElem?_set_ne (by omega), List.getElem?_set_self (by first | omega | (simp only [List.length_set]; omega))]
          · rw [List.getElem?_set_ne (by omega), List.getElem?_set_self (by first | omega | (simp only [List.length_set]; omega))]
          · rw [List.getElem?_set_self (by first | omega | (simp only [List.length_set]; omega))]
        · have h := (HU.out j (by omega)).below HB1.out (Nat.le_refl _)
          have h0 := (h.store (b := w.heap.size) (o := k * 4) (u := (.int .i64 kd)) (by omega)).other (k := k) (i := 0) (u := (.int .i64 kd)) (by omega) (by omega)
          have h1 := (h0.store (b := w.heap.size) (o := k * 4 + 1) (u := (.int .i64 nn)) (by omega)).other (k := k) (i := 1) (u := (.int .i64 nn)) (by omega) (by omega)
          have h2 := (h1.store (b := w.heap.size) (o := k * 4 + 2) (u := (.slice (some ⟨gt, 0, none⟩) tx.length tx.length)) (by omega)).other (k := k) (i := 2) (u := (.slice (some ⟨gt, 0, none⟩) tx.length tx.length)) (by omega) (by omega)
          have h3 := (h2.store (b := w.heap.size) (o := k * 4 + 3) (u := (.slice (some ⟨gn, 0, none⟩) nms.length nms.length)) (by omega)).other (k := k) (i := 3) (u := (.slice (some ⟨gn, 0, none⟩) nms.length nms.length)) (by omega) (by omega)
          exact h3
      case measure => simp [intOf]; omega
    · have hkn : k = n := by omega
      subst hkn
      go_wp2
      go_ret
      refine ⟨rfl, ⟨w.heap.size, us, by rw [HL.out], by rw [HL.out]; exact HO.out, fun i hi => HU.out i (by rw [← HL.out]; exact hi)⟩, hb⟩
end Go.Proofs.YtopibfnjbejiiaaGreatDoor.pg
