import Derived.Test.YtopibfnjbejiiaaGreatDoorPgOwn
namespace Go.Proofs.YtopibfnjbejiiaaGreatDoor.pg
open Go.RowKit Go.Proofs.YtopibfnjbejiiaaGreatDoor.bts

theorem heap_old2 {w : World} {o o2 : Obj} {g : Nat} {x : Obj} (hg : g < w.heap.size) (h : w.heap[g]? = some x) : ((w.alloc o).alloc o2).heap[g]? = some x := by
  rw [heap_alloc_old _ _ (by simp only [World.size_alloc]; omega), heap_alloc_old _ _ hg]; exact h

/-- One struct in a block of its own. -/
def Lone (T : TypeId) (c : Nat) (w : World) (g : Nat) (xs : List Value) : Prop := w.ownsRow 0 T c (.slice (some ⟨g, 0, none⟩) 1 1) 1 xs
theorem Lone.of {T : TypeId} {c : Nat} {w : World} {g : Nat} {xs : List Value} (h : w.heap[g]? = some (.cells xs.toArray T (0, 0))) (hc : xs.length = c) : Lone T c w g xs := by
  subst hc
  exact ⟨by omega, .inr ⟨g, 1, _, rfl, Nat.zero_le _, h, by omega, by unfold maxLen; omega, by simp, by simp⟩⟩
theorem Lone.below {T : TypeId} {c : Nat} {w w' : World} {B g : Nat} {xs : List Value} (h : Lone T c w g xs) (hb : Below B w w') (hg : g < B) : Lone T c w' g xs := own_below h hb hg
theorem Lone.set {T : TypeId} {c : Nat} {w : World} {g : Nat} {xs : List Value} (h : Lone T c w g xs) (j : Nat) (u : Value) : Lone T c (w.setCell ⟨g, j, none⟩ u) g (xs.set j u) := (World.ownsRow.stored h j u).1
theorem Lone.at {T : TypeId} {c : Nat} {w : World} {g j : Nat} {xs : List Value} (h : Lone T c w g xs) (hj : j < c) : w.cell? ⟨g, j, none⟩ = xs[j]? := World.ownsRow.cellAt h j (by omega)
theorem Lone.free {T : TypeId} {c : Nat} {w : World} {g : Nat} {xs : List Value} (h : Lone T c w g xs) (j : Nat) : w.frozen? ⟨g, j, none⟩ = false := World.ownsRow.frozenAt h j
theorem Lone.other {T : TypeId} {c : Nat} {w : World} {g b o : Nat} {u : Value} {xs : List Value} (h : Lone T c w g xs) (hb : ¬ b = g) : Lone T c (w.setCell ⟨b, o, none⟩ u) g xs := by
  obtain ⟨h1, h2⟩ := h
  refine ⟨h1, ?_⟩
  rcases h2 with h | ⟨g', c, cur, e', hb', hh, r⟩
  · exact .inl h
  · have e : g' = g := by simp at e'; exact e'.1.symm
    subst e
    exact .inr ⟨g', c, cur, e', hb', (Below.heap_setCell w ⟨b, o, none⟩ u g' (fun e => hb e.symm)).trans hh, r⟩
theorem Lone.back {T : TypeId} {c : Nat} {w : World} {g : Nat} {xs : List Value} (h : Lone T c w g xs) : w.heap[g]? = some (.cells xs.toArray T (0, 0)) := by
  have hl := h.1
  rcases h.2 with ⟨h, _⟩ | ⟨g', cap, cur, e', _, hh, _, _, hs, ht⟩
  · simp at h
  · simp only [Value.slice.injEq, Option.some.injEq, Addr.mk.injEq, and_true] at e'
    obtain ⟨rfl, _, rfl⟩ := e'
    have hc : cur = xs.toArray := by
      apply Array.toList_inj.mp
      rw [List.take_of_length_le (by rw [Array.length_toList]; omega)] at ht
      simpa using ht
    rw [hh, hc]

set_option maxRecDepth 100000 in
set_option maxHeartbeats 2000000 in
theorem toInsS_any (v : Value) (l : List In) (w : World) (hr : RdIV w v l) (hs : l.length ≤ 1048576) :
    Calls Tryz.prog 62 #[v] w fun e w' => e = .returned (.slice (some ⟨w.heap.size, 0, none⟩) l.length l.length) ∧ OwI w' w.heap.size (.slice (some ⟨w.heap.size, 0, none⟩) l.length l.length) l ∧ Below w.heap.size w w' := by
  obtain ⟨i0, hi, hz0, hz1, hz2⟩ := info_parts info_ins
  obtain ⟨ao, cap, rfl, _, hr⟩ := hr
  have hn0 : l.length ≤ 1048576 := hs
  obtain ⟨n, hnn⟩ : ∃ n, n = l.length := ⟨_, rfl⟩
  have HL : Hid (l.length = n) := hnn.symm
  have HR : Hid (RdI w ao l) := hr
  have hn1 : n ≤ 1048576 := by rw [hnn]; exact hn0
  rw [← hnn]
  clear hnn hr hs hn0
  have hmx : n ≤ maxLen := by unfold maxLen; omega
  go_enter Tryz.func62, Tryz.ntmps62
  go_wp2_with (at_make; refine wpList_make_full _ rfl _ _ 43 rfl w.heap.size 51 i0 (.agg #[.int .i64 0, .int .i64 0, .int .i64 0]) 3 Tryz.underlying43 hi hz0 hz1 .i64 .i64 _ _ n rfl rfl rfl rfl (by rw [hz2]; omega) hmx (Nat.le_refl _) ?_; intro w1 hown hgrow)
  have hb1 : Below w.heap.size w w1 := (Below.refl _ _).grown hgrow (Nat.le_refl _) (by intro k hk; cases hk)
  go_loopw [4] (fun i wr => ∃ (k : Nat) (us : List Value), k ≤ n ∧ i = .int .i64 k ∧ wr.ownsRow w.heap.size 51 3 (.slice (some ⟨w.heap.size, 0, none⟩) n n) n us ∧ (∀ j, j < k → InAt us j (l.getD j in0)) ∧ Below w.heap.size w wr) (fun i _ => n - (intOf i).toNat)
  case atStart => exact ⟨0, _, Nat.zero_le _, rfl, hown, fun j hj => absurd hj (by omega), hb1⟩
  case round =>
    clear hown hgrow hb1
    obtain ⟨k, us, hk, rfl, hown, hus, hb⟩ := hrel
    have hlB := (hown.lt w.heap.size rfl).2
    have HO : Hid (wr.ownsRow w.heap.size 51 3 (.slice (some ⟨w.heap.size, 0, none⟩) n n) n us) := hown
    have HU : Hid (∀ j, j < k → InAt us j (l.getD j in0)) := hus
    clear hown hus
    by_cases hlt : k < n
    · obtain ⟨b, off, rfl, c0, c1, c2⟩ := (RdI.below HR.out hb) k (by rw [HL.out]; exact hlt)
      obtain ⟨d, hd⟩ : ∃ d, d = l.getD k in0 := ⟨_, rfl⟩
      rw [← hd] at c0 c1 c2
      have HD : Hid (l.getD k in0 = d) := hd.symm
      clear hd
      have C := toIns_any d wr
      go_wp2_with fail
      refine C.mono ?_
      rintro e w1 ⟨rfl, hb1⟩
      clear C
      have ho2 : w1.ownsRow w.heap.size 51 3 (.slice (some ⟨w.heap.size, 0, none⟩) n n) n us := own_below HO.out hb1 hlB
      have hul : us.length = n * 3 := ho2.1
      have f0 := ho2.frozenAt (k * 3)
      have f1 := ho2.frozenAt (k * 3 + 1)
      have f2 := ho2.frozenAt (k * 3 + 2)
      have e0 := ho2.cellAt (k * 3) (by omega)
      have e1 := ho2.cellAt (k * 3 + 1) (by omega)
      have e2 := ho2.cellAt (k * 3 + 2) (by omega)
      obtain ⟨u0, hu0⟩ : ∃ u, us[k * 3]? = some u := ⟨_, List.getElem?_eq_getElem (by omega)⟩
      rw [hu0] at e0
      obtain ⟨u1, hu1⟩ : ∃ u, us[k * 3 + 1]? = some u := ⟨_, List.getElem?_eq_getElem (by omega)⟩
      rw [hu1] at e1
      obtain ⟨u2, hu2⟩ : ∃ u, us[k * 3 + 2]? = some u := ⟨_, List.getElem?_eq_getElem (by omega)⟩
      rw [hu2] at e2
      have HO2 : Hid (w1.ownsRow w.heap.size 51 3 (.slice (some ⟨w.heap.size, 0, none⟩) n n) n us) := ho2
      have HB1 : Hid (Below wr.heap.size wr w1) := hb1
      have HUL : Hid (us.length = n * 3) := hul
      clear ho2 hul hb1 hu0 hu1 hu2
      go_wp2
      go_roundw
      case rel =>
        have s0 := HO2.out.stored (k * 3) (.int .i64 d.op)
        have s1 := s0.1.stored (k * 3 + 1) (.int .i64 d.a)
        have s2 := s1.1.stored (k * 3 + 2) (.int .i64 d.b)
        have HBw : Below w.heap.size w w1 := hb.trans (HB1.out.mono hb.size)
        refine ⟨k + 1, _, by omega, by go_num, s2.1, ?_, (((HBw.setCell (Nat.le_refl _) _).setCell (Nat.le_refl _) _).setCell (Nat.le_refl _) _)⟩
        intro j hj
        have hl := HUL.out
        by_cases e : j = k
        · subst e
          rw [HD.out]
          refine ⟨?_, ?_, ?_⟩
          · rw [List.getElem?_set_ne (by omega), List.getElem?_set_ne (by omega), List.getElem?_set_self (by first | omega | (simp only [List.length_set]; omega))]
          · rw [List.getElem?_set_ne (by omega), List.getElem?_set_self (by first | omega | (simp only [List.length_set]; omega))]
          · rw [List.getElem?_set_self (by first | omega | (simp only [List.length_set]; omega))]
        · obtain ⟨h0, h1, h2⟩ := HU.out j (by omega)
          refine ⟨?_, ?_, ?_⟩
          all_goals
            repeat rw [List.getElem?_set_ne (by omega)]
            assumption
      case measure => simp [intOf]; omega
    · have hkn : k = n := by omega
      subst hkn
      go_wp2
      go_ret
      refine ⟨rfl, ⟨w.heap.size, us, by rw [HL.out], by rw [HL.out]; exact HO.out, fun i hi => HU.out i (by rw [← HL.out]; exact hi)⟩, hb⟩

set_option maxRecDepth 100000 in
set_option maxHeartbeats 2000000 in
theorem toCaptureS_any (v : Value) (l : List Cp) (w : World) (hr : RdCV w v l) (hs : l.length ≤ 1048576) :
    Calls Tryz.prog 61 #[v] w fun e w' => e = .returned (.slice (some ⟨w.heap.size, 0, none⟩) l.length l.length) ∧ OwC w' w.heap.size (.slice (some ⟨w.heap.size, 0, none⟩) l.length l.length) l ∧ Below w.heap.size w w' := by
  obtain ⟨i0, hi, hz0, hz1, hz2⟩ := info_parts info_cap
  obtain ⟨ao, cap, rfl, _, hr⟩ := hr
  have hn0 : l.length ≤ 1048576 := hs
  obtain ⟨n, hnn⟩ : ∃ n, n = l.length := ⟨_, rfl⟩
  have HL : Hid (l.length = n) := hnn.symm
  have HR : Hid (RdC w ao l) := hr
  have hn1 : n ≤ 1048576 := by rw [hnn]; exact hn0
  rw [← hnn]
  clear hnn hr hs hn0
  have hmx : n ≤ maxLen := by unfold maxLen; omega
  go_enter Tryz.func61, Tryz.ntmps61
  go_wp2_with (at_make; refine wpList_make_full _ rfl _ _ 42 rfl w.heap.size 48 i0 (.agg #[.bool false, .int .i64 0]) 2 Tryz.underlying42 hi hz0 hz1 .i64 .i64 _ _ n rfl rfl rfl rfl (by rw [hz2]; omega) hmx (Nat.le_refl _) ?_; intro w1 hown hgrow)
  have hb1 : Below w.heap.size w w1 := (Below.refl _ _).grown hgrow (Nat.le_refl _) (by intro k hk; cases hk)
  go_loopw [4] (fun i wr => ∃ (k : Nat) (us : List Value), k ≤ n ∧ i = .int .i64 k ∧ wr.ownsRow w.heap.size 48 2 (.slice (some ⟨w.heap.size, 0, none⟩) n n) n us ∧ (∀ j, j < k → CpAt us j (l.getD j cp0)) ∧ Below w.heap.size w wr) (fun i _ => n - (intOf i).toNat)
  case atStart => exact ⟨0, _, Nat.zero_le _, rfl, hown, fun j hj => absurd hj (by omega), hb1⟩
  case round =>
    clear hown hgrow hb1
    obtain ⟨k, us, hk, rfl, hown, hus, hb⟩ := hrel
    have hlB := (hown.lt w.heap.size rfl).2
    have HO : Hid (wr.ownsRow w.heap.size 48 2 (.slice (some ⟨w.heap.size, 0, none⟩) n n) n us) := hown
    have HU : Hid (∀ j, j < k → CpAt us j (l.getD j cp0)) := hus
    clear hown hus
    by_cases hlt : k < n
    · obtain ⟨b, off, rfl, c0, c1⟩ := (RdC.below HR.out hb) k (by rw [HL.out]; exact hlt)
      obtain ⟨d, hd⟩ : ∃ d, d = l.getD k cp0 := ⟨_, rfl⟩
      rw [← hd] at c0 c1
      have HD : Hid (l.getD k cp0 = d) := hd.symm
      clear hd
      have C := toCapture_any d wr
      go_wp2_with fail
      refine C.mono ?_
      rintro e w1 ⟨rfl, hb1⟩
      clear C
      have ho2 : w1.ownsRow w.heap.size 48 2 (.slice (some ⟨w.heap.size, 0, none⟩) n n) n us := own_below HO.out hb1 hlB
      have hul : us.length = n * 2 := ho2.1
      have f0 := ho2.frozenAt (k * 2)
      have f1 := ho2.frozenAt (k * 2 + 1)
      have e0 := ho2.cellAt (k * 2) (by omega)
      have e1 := ho2.cellAt (k * 2 + 1) (by omega)
      obtain ⟨u0, hu0⟩ : ∃ u, us[k * 2]? = some u := ⟨_, List.getElem?_eq_getElem (by omega)⟩
      rw [hu0] at e0
      obtain ⟨u1, hu1⟩ : ∃ u, us[k * 2 + 1]? = some u := ⟨_, List.getElem?_eq_getElem (by omega)⟩
      rw [hu1] at e1
      have HO2 : Hid (w1.ownsRow w.heap.size 48 2 (.slice (some ⟨w.heap.size, 0, none⟩) n n) n us) := ho2
      have HB1 : Hid (Below wr.heap.size wr w1) := hb1
      have HUL : Hid (us.length = n * 2) := hul
      clear ho2 hul hb1 hu0 hu1
      go_wp2
      go_roundw
      case rel =>
        have s0 := HO2.out.stored (k * 2) (.bool d.up)
        have s1 := s0.1.stored (k * 2 + 1) (.int .i64 d.index)
        have HBw : Below w.heap.size w w1 := hb.trans (HB1.out.mono hb.size)
        refine ⟨k + 1, _, by omega, by go_num, s1.1, ?_, ((HBw.setCell (Nat.le_refl _) _).setCell (Nat.le_refl _) _)⟩
        intro j hj
        have hl := HUL.out
        by_cases e : j = k
        · subst e
          rw [HD.out]
          refine ⟨?_, ?_⟩
          · rw [List.getElem?_set_ne (by omega), List.getElem?_set_self (by first | omega | (simp only [List.length_set]; omega))]
          · rw [List.getElem?_set_self (by first | omega | (simp only [List.length_set]; omega))]
        · obtain ⟨h0, h1⟩ := HU.out j (by omega)
          refine ⟨?_, ?_⟩
          all_goals
            repeat rw [List.getElem?_set_ne (by omega)]
            assumption
      case measure => simp [intOf]; omega
    · have hkn : k = n := by omega
      subst hkn
      go_wp2
      go_ret
      refine ⟨rfl, ⟨w.heap.size, us, by rw [HL.out], by rw [HL.out]; exact HO.out, fun i hi => HU.out i (by rw [← HL.out]; exact hi)⟩, hb⟩
end Go.Proofs.YtopibfnjbejiiaaGreatDoor.pg
