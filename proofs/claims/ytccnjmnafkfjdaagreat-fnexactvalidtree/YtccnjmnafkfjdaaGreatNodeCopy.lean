import Derived.Test.YtccnjmnafkfjdaaGreatNodeSz
namespace Go.Proofs.YtccnjmnafkfjdaaGreat.nod
open Go.RowKit Go.Proofs.YtccnjmnafkfjdaaGreat.bts

/-- The value is a slice of bytes in memory from block B on that the call owns. -/
def OwS (w : World) (B : Nat) (v : Value) (zs : List Int) : Prop := ∃ g, v = .slice (some ⟨g, 0, none⟩) zs.length zs.length ∧ w.ownsRow B 5 1 (.slice (some ⟨g, 0, none⟩) zs.length zs.length) zs.length (bcells zs)
theorem OwS.below {w w' : World} {B X : Nat} {v : Value} {zs : List Int} (h : OwS w B v zs) (hb : Below X w w') (hX : w.heap.size ≤ X) : OwS w' B v zs := by
  obtain ⟨g, e, ho⟩ := h
  exact ⟨g, e, own_below ho hb (Nat.lt_of_lt_of_le (ho.lt g rfl).2 hX)⟩
theorem OwS.store {w : World} {B b o : Nat} {v u : Value} {zs : List Int} (h : OwS w B v zs) (hb : b < B) : OwS (w.setCell ⟨b, o, none⟩ u) B v zs := by
  obtain ⟨g, e, ho⟩ := h
  exact ⟨g, e, ownsRow_setCell_below ho hb u⟩
theorem OwS.weaken {w : World} {B B' : Nat} {v : Value} {zs : List Int} (h : OwS w B v zs) (hB : B' ≤ B) : OwS w B' v zs := by
  obtain ⟨g, e, ⟨h1, h2⟩⟩ := h
  refine ⟨g, e, ⟨h1, ?_⟩⟩
  rcases h2 with h | ⟨g', c, cur, e', hb, r⟩
  · exact .inl h
  · exact .inr ⟨g', c, cur, e', by omega, r⟩
theorem OwS.rd {w : World} {B : Nat} {v : Value} {zs : List Int} (h : OwS w B v zs) (hz : Bts zs) (hm : zs.length ≤ 9223372036854775807) : RdV w v zs := by
  obtain ⟨g, e, ho⟩ := h
  exact ⟨_, _, e, hm, Rd.own ho, hz⟩

/-- The value is a slice of such slices. -/
def OwSS (w : World) (B : Nat) (v : Value) (l : List (List Int)) : Prop :=
  ∃ (g : Nat) (us : List Value), v = .slice (some ⟨g, 0, none⟩) l.length l.length ∧ w.ownsRow B 30 1 (.slice (some ⟨g, 0, none⟩) l.length l.length) l.length us ∧
    ∀ i, i < l.length → ∃ u, us[i]? = some u ∧ OwS w (g + 1) u (l.getD i [])
theorem OwSS.below {w w' : World} {B X : Nat} {v : Value} {l : List (List Int)} (h : OwSS w B v l) (hb : Below X w w') (hX : w.heap.size ≤ X) : OwSS w' B v l := by
  obtain ⟨g, us, e, ho, h⟩ := h
  refine ⟨g, us, e, own_below ho hb (Nat.lt_of_lt_of_le (ho.lt g rfl).2 hX), fun i hi => ?_⟩
  obtain ⟨u, hu, hs⟩ := h i hi
  exact ⟨u, hu, hs.below hb hX⟩
theorem OwSS.rd {w : World} {B : Nat} {v : Value} {l : List (List Int)} (h : OwSS w B v l) (hz : ∀ i, i < l.length → Bts (l.getD i []) ∧ (l.getD i []).length ≤ 9223372036854775807) (hm : l.length ≤ 9223372036854775807) : RdVV w v l := by
  obtain ⟨g, us, e, ho, h⟩ := h
  refine ⟨_, _, e, hm, fun i hi => ?_⟩
  obtain ⟨u, hu, hs⟩ := h i hi
  refine ⟨g, 0, u, rfl, ?_, hs.rd (hz i hi).1 (hz i hi).2⟩
  rw [Nat.zero_add, ho.cellAt i (by omega), hu]

theorem info_sl : (Tryz.prog.info? 30).map (fun i => (i.zero, i.size, i.bytes)) = some (some (.slice none 0 0), 1, 24) := by kernel_rfl

set_option maxRecDepth 100000 in
set_option maxHeartbeats 1000000 in
theorem toByteSS_any (v : Value) (l : List (List Int)) (w : World) (hr : RdVV w v l) (hn : sizeSS l ≤ 1048576) :
    Calls Tryz.prog 22 #[v] w fun e w' => e = .returned (.slice (some ⟨w.heap.size, 0, none⟩) l.length l.length) ∧ OwSS w' w.heap.size (.slice (some ⟨w.heap.size, 0, none⟩) l.length l.length) l ∧ Below w.heap.size w w' := by
  obtain ⟨i0, hi, hz0, hz1, hz2⟩ := info_parts info_sl
  obtain ⟨ao, cap, rfl, _, hr⟩ := hr
  have HS : Hid (∀ i, i < l.length → (l.getD i []).length ≤ 1048576) := by
    intro i hi
    have h1 := lens_succ hi
    have h2 := lens_le l (l.length - (i + 1)) (i + 1) (by omega)
    unfold sizeSS at hn
    omega
  have hn1 : l.length ≤ 1048576 := by unfold sizeSS at hn; omega
  obtain ⟨n, hnn⟩ : ∃ n, n = l.length := ⟨_, rfl⟩
  have HL : Hid (l.length = n) := hnn.symm
  have HR : Hid (∀ i, i < l.length → ∃ b off u, ao = some ⟨b, off, none⟩ ∧ w.cell? ⟨b, off + i, none⟩ = some u ∧ RdV w u (l.getD i [])) := hr
  rw [← hnn] at hn1 ⊢
  clear hnn hr hn
  have hmx : n ≤ maxLen := by unfold maxLen; omega
  go_enter Tryz.func22, Tryz.ntmps22
  go_wp2_with (at_make; refine wpList_make_full _ rfl _ _ 31 rfl w.heap.size 30 i0 (.slice none 0 0) 1 Tryz.underlying31 hi hz0 hz1 .i64 .i64 _ _ n rfl rfl rfl rfl (by rw [hz2]; omega) hmx (Nat.le_refl _) ?_; intro w1 hown hgrow)
  have hb1 : Below w.heap.size w w1 := (Below.refl _ _).grown hgrow (Nat.le_refl _) (by intro k hk; cases hk)
  go_loopw [4] (fun i wr => ∃ (k : Nat) (us : List Value), k ≤ n ∧ i = .int .i64 k ∧ wr.ownsRow w.heap.size 30 1 (.slice (some ⟨w.heap.size, 0, none⟩) n n) n us ∧ (∀ j, j < k → ∃ u, us[j]? = some u ∧ OwS wr (w.heap.size + 1) u (l.getD j [])) ∧ Below w.heap.size w wr) (fun i _ => n - (intOf i).toNat)
  case atStart => exact ⟨0, _, Nat.zero_le _, rfl, hown, fun j hj => absurd hj (by omega), hb1⟩
  case round =>
    clear hown hgrow hb1
    obtain ⟨k, us, hk, rfl, hown, hus, hb⟩ := hrel
    have hlB := (hown.lt w.heap.size rfl).2
    have HO : Hid (wr.ownsRow w.heap.size 30 1 (.slice (some ⟨w.heap.size, 0, none⟩) n n) n us) := hown
    have HU : Hid (∀ j, j < k → ∃ u, us[j]? = some u ∧ OwS wr (w.heap.size + 1) u (l.getD j [])) := hus
    clear hown hus
    by_cases hlt : k < n
    · obtain ⟨b, off, u, rfl, hc0, hrv⟩ := HR.out k (by rw [HL.out]; exact hlt)
      have hbw := World.block_lt_of_cell? _ _ hc0
      have hc := (hb.cell (p := ⟨b, off + k, none⟩) hbw).trans hc0
      obtain ⟨a', c', rfl, _, hrd, _⟩ := hrv
      have hsz := HS.out k (by rw [HL.out]; exact hlt)
      have C := toByteS_any a' c' (l.getD k []) wr (hrd.below hb) hsz
      obtain ⟨m, hmm⟩ : ∃ m, m = (l.getD k []).length := ⟨_, rfl⟩
      have HM : Hid ((l.getD k []).length = m) := hmm.symm
      rw [← hmm] at C hc hsz
      clear hmm hrd hc0
      go_wp2_with fail
      refine C.mono ?_
      rintro e w1 ⟨rfl, ho1, hb1⟩
      clear C
      have ho2 : w1.ownsRow w.heap.size 30 1 (.slice (some ⟨w.heap.size, 0, none⟩) n n) n us := own_below HO.out hb1 hlB
      have hfr := ho2.frozenAt k
      have hct := ho2.cellAt k (by omega)
      have hul : us.length = n := by have := ho2.1; omega
      obtain ⟨u0, hu0⟩ : ∃ u, us[k]? = some u := ⟨_, List.getElem?_eq_getElem (by omega)⟩
      rw [hu0] at hct
      have HO2 : Hid (w1.ownsRow w.heap.size 30 1 (.slice (some ⟨w.heap.size, 0, none⟩) n n) n us) := ho2
      have HN : Hid (OwS w1 (w.heap.size + 1) (.slice (some ⟨wr.heap.size, 0, none⟩) m m) (l.getD k [])) := by
        refine OwS.weaken (B := wr.heap.size) ⟨wr.heap.size, by rw [HM.out], ?_⟩ (by omega)
        rw [HM.out]; exact ho1
      have HB1 : Hid (Below wr.heap.size wr w1) := hb1
      have HUL : Hid (us.length = n) := hul
      clear ho1 hb1 ho2 hul hu0
      go_wp2
      go_roundw
      case rel =>
        refine ⟨k + 1, us.set k (.slice (some ⟨wr.heap.size, 0, none⟩) m m), by omega, by go_num, (HO2.out.stored k _).1, ?_, (hb.trans (HB1.out.mono hb.size)).setCell (Nat.le_refl _) _⟩
        intro j hj
        have hl := HUL.out
        by_cases e : j = k
        · subst e
          exact ⟨_, List.getElem?_set_self (by omega), OwS.store HN.out (by omega)⟩
        · obtain ⟨u, h1, h2⟩ := HU.out j (by omega)
          exact ⟨u, by rw [List.getElem?_set_ne (by omega)]; exact h1, OwS.store (h2.below HB1.out (Nat.le_refl _)) (by omega)⟩
      case measure => simp [intOf]; omega
    · have hkn : k = n := by omega
      subst hkn
      go_wp2
      go_ret
      refine ⟨rfl, ⟨w.heap.size, us, by rw [HL.out], by rw [HL.out]; exact HO.out, fun i hi => HU.out i (by rw [← HL.out]; exact hi)⟩, hb⟩

end Go.Proofs.YtccnjmnafkfjdaaGreat.nod
