import Derived.Test.YteagakplhfiodaaDoorPgMark
import Derived.Test.YteagakplhfiodaaDoorPgToB
namespace Go.Proofs.YteagakplhfiodaaDoor.pg
open Go.RowKit Go.Proofs.YteagakplhfiodaaDoor.bts

theorem OwS.rw {w : World} {B H : Nat} {v : Value} {zs : List Int} (h : OwS w B v zs) (hH : w.heap.size ≤ H) : Rw 5 1 B H w v zs.length := by
  obtain ⟨g, e, ho⟩ := h
  exact ⟨g, _, e, Nat.lt_of_lt_of_le (ho.lt g rfl).2 hH, ho⟩
theorem OwI.rw {w : World} {B H : Nat} {v : Value} {l : List In} (h : OwI w B v l) (hH : w.heap.size ≤ H) : Rw 50 3 B H w v l.length := by
  obtain ⟨g, us, e, ho, _⟩ := h
  exact ⟨g, us, e, Nat.lt_of_lt_of_le (ho.lt g rfl).2 hH, ho⟩
theorem OwC.rw {w : World} {B H : Nat} {v : Value} {l : List Cp} (h : OwC w B v l) (hH : w.heap.size ≤ H) : Rw 48 2 B H w v l.length := by
  obtain ⟨g, us, e, ho, _⟩ := h
  exact ⟨g, us, e, Nat.lt_of_lt_of_le (ho.lt g rfl).2 hH, ho⟩
theorem Rw.low {E c lo lo' H n : Nat} {w : World} {v : Value} (h : Rw E c lo H w v n) (hl : lo' ≤ lo) : Rw E c lo' H w v n := by
  obtain ⟨g, xs, e, hg, ho⟩ := h
  exact ⟨g, xs, e, hg, own_weaken ho hl⟩
/-- Such a row stays where all blocks below H do. -/
theorem Rw.keep {E c lo H n : Nat} {w w' : World} {v : Value} (h : Rw E c lo H w v n) (hb : Below H w w') : Rw E c lo H w' v n := by
  obtain ⟨g, xs, e, hg, ho⟩ := h
  exact ⟨g, xs, e, hg, own_below ho hb hg⟩

/-- A row of constants, each with an owned row behind it; of functions, each with two. -/
structure MkK (w : World) (B H : Nat) (g : Nat) (l : List Cn) : Prop where
  row : Rw 40 3 B H w (.slice (some ⟨g, 0, none⟩) l.length l.length) l.length
  texts : ∀ j, j < l.length → ∃ ut, w.cell? ⟨g, j * 3 + 2, none⟩ = some ut ∧ Rw 5 1 (g + 1) H w ut (l.getD j cn0).text.length
structure MkP (w : World) (B H : Nat) (g : Nat) (l : List Pr) : Prop where
  row : Rw 46 4 B H w (.slice (some ⟨g, 0, none⟩) l.length l.length) l.length
  parts : ∀ j, j < l.length → ∃ uc ud, w.cell? ⟨g, j * 4 + 2, none⟩ = some uc ∧ w.cell? ⟨g, j * 4 + 3, none⟩ = some ud ∧ Rw 48 2 (g + 1) H w uc (l.getD j pr0).caps.length ∧ Rw 50 3 (g + 1) H w ud (l.getD j pr0).code.length

theorem OwK.mk {w : World} {B : Nat} {v : Value} {l : List Cn} (h : OwK w B v l) : ∃ g, v = .slice (some ⟨g, 0, none⟩) l.length l.length ∧ B ≤ g ∧ MkK w B w.heap.size g l := by
  obtain ⟨g, us, e, ho, hx⟩ := h
  refine ⟨g, e, (ho.lt g rfl).1, ⟨g, us, rfl, (ho.lt g rfl).2, ho⟩, fun j hj => ?_⟩
  obtain ⟨ut, h0, h1, h2, hs⟩ := hx j hj
  exact ⟨ut, by rw [ho.cellAt _ (by omega), h2], hs.rw (Nat.le_refl _)⟩
theorem OwP.mk {w : World} {B : Nat} {v : Value} {l : List Pr} (h : OwP w B v l) : ∃ g, v = .slice (some ⟨g, 0, none⟩) l.length l.length ∧ B ≤ g ∧ MkP w B w.heap.size g l := by
  obtain ⟨g, us, e, ho, hx⟩ := h
  refine ⟨g, e, (ho.lt g rfl).1, ⟨g, us, rfl, (ho.lt g rfl).2, ho⟩, fun j hj => ?_⟩
  obtain ⟨uc, ud, h0, h1, h2, h3, hc, hd⟩ := hx j hj
  exact ⟨uc, ud, by rw [ho.cellAt _ (by omega), h2], by rw [ho.cellAt _ (by omega), h3], hc.rw (Nat.le_refl _), hd.rw (Nat.le_refl _)⟩
theorem MkK.keep {w w' : World} {B H g : Nat} {l : List Cn} (h : MkK w B H g l) (hb : Below H w w') : MkK w' B H g l := by
  have hg : g < H := by obtain ⟨_, _, e, hg, _⟩ := h.row; simp only [Value.slice.injEq, Option.some.injEq, Addr.mk.injEq, and_true] at e; omega
  refine ⟨h.row.keep hb, fun j hj => ?_⟩
  obtain ⟨ut, h1, h2⟩ := h.texts j hj
  exact ⟨ut, (hb.cell (p := ⟨g, j * 3 + 2, none⟩) hg).trans h1, h2.keep hb⟩
theorem MkP.keep {w w' : World} {B H g : Nat} {l : List Pr} (h : MkP w B H g l) (hb : Below H w w') : MkP w' B H g l := by
  have hg : g < H := by obtain ⟨_, _, e, hg, _⟩ := h.row; simp only [Value.slice.injEq, Option.some.injEq, Addr.mk.injEq, and_true] at e; omega
  refine ⟨h.row.keep hb, fun j hj => ?_⟩
  obtain ⟨uc, ud, h1, h2, h3, h4⟩ := h.parts j hj
  exact ⟨uc, ud, (hb.cell (p := ⟨g, j * 4 + 2, none⟩) hg).trans h1, (hb.cell (p := ⟨g, j * 4 + 3, none⟩) hg).trans h2, h3.keep hb, h4.keep hb⟩
theorem Rw.same {E c lo H n : Nat} {w w' : World} {v : Value} (h : Rw E c lo H w v n) (hk : ∀ b, lo ≤ b → b < H → w'.heap[b]? = w.heap[b]?) : Rw E c lo H w' v n := by
  obtain ⟨g, xs, e, hg, ho⟩ := h
  obtain ⟨cur, h1, h2, h3⟩ := own_open ho
  exact ⟨g, xs, e, hg, ho.1, .inr ⟨g, n, cur, rfl, h1, (hk g h1 hg).trans h2, h3⟩⟩
theorem MkK.same {w w' : World} {B H g : Nat} {l : List Cn} (h : MkK w B H g l) (hB : B ≤ g) (hk : ∀ b, B ≤ b → b < H → w'.heap[b]? = w.heap[b]?) : MkK w' B H g l := by
  have hg : g < H := by obtain ⟨_, _, e, hg, _⟩ := h.row; simp only [Value.slice.injEq, Option.some.injEq, Addr.mk.injEq, and_true] at e; omega
  refine ⟨h.row.same hk, fun j hj => ?_⟩
  obtain ⟨ut, h1, h2⟩ := h.texts j hj
  exact ⟨ut, (World.cell?_of_block (a := ⟨g, j * 3 + 2, none⟩) (hk g hB hg)).trans h1, h2.same (fun b hb => hk b (by omega))⟩
theorem MkP.same {w w' : World} {B H g : Nat} {l : List Pr} (h : MkP w B H g l) (hB : B ≤ g) (hk : ∀ b, B ≤ b → b < H → w'.heap[b]? = w.heap[b]?) : MkP w' B H g l := by
  have hg : g < H := by obtain ⟨_, _, e, hg, _⟩ := h.row; simp only [Value.slice.injEq, Option.some.injEq, Addr.mk.injEq, and_true] at e; omega
  refine ⟨h.row.same hk, fun j hj => ?_⟩
  obtain ⟨uc, ud, h1, h2, h3, h4⟩ := h.parts j hj
  exact ⟨uc, ud, (World.cell?_of_block (a := ⟨g, j * 4 + 2, none⟩) (hk g hB hg)).trans h1, (World.cell?_of_block (a := ⟨g, j * 4 + 3, none⟩) (hk g hB hg)).trans h2, h3.same (fun b hb => hk b (by omega)), h4.same (fun b hb => hk b (by omega))⟩
theorem MkP.far {w w' : World} {B H H' g : Nat} {l : List Pr} (h : MkP w g H' g l) (k : Mk B H w w') (hH : H ≤ g) (hs : H' ≤ w.heap.size) : MkP w' g H' g l :=
  h.same (Nat.le_refl _) (fun b h1 h2 => k.far b (by omega) (by omega))
/-- Cells behind g have turned. -/
theorem MkK.behind {w w' : World} {B H g : Nat} {l : List Cn} (h : MkK w B H g l) (k : Mk (g + 1) H w w') : MkK w' B H g l := by
  refine ⟨h.row.mk k, fun j hj => ?_⟩
  obtain ⟨ut, h1, h2⟩ := h.texts j hj
  exact ⟨ut, (k.below.cell (p := ⟨g, j * 3 + 2, none⟩) (by show g < g + 1; omega)).trans h1, h2.mk k⟩
theorem MkP.behind {w w' : World} {B H g : Nat} {l : List Pr} (h : MkP w B H g l) (k : Mk (g + 1) H w w') : MkP w' B H g l := by
  refine ⟨h.row.mk k, fun j hj => ?_⟩
  obtain ⟨uc, ud, h1, h2, h3, h4⟩ := h.parts j hj
  exact ⟨uc, ud, (k.below.cell (p := ⟨g, j * 4 + 2, none⟩) (by show g < g + 1; omega)).trans h1, (k.below.cell (p := ⟨g, j * 4 + 3, none⟩) (by show g < g + 1; omega)).trans h2, h3.mk k, h4.mk k⟩
/-- A cell of the row itself has turned that is no slice. -/
theorem cell_set_ne {w : World} {g j j' : Nat} {u : Value} (h : j ≠ j') : (w.setCell ⟨g, j, none⟩ u).cell? ⟨g, j', none⟩ = w.cell? ⟨g, j', none⟩ := World.cell?_setCell_other _ _ _ _ (by intro e; cases e; exact h rfl)
theorem MkK.set {w : World} {B H g k i : Nat} {l : List Cn} {u : Value} (h : MkK w B H g l) (hi : i < 2) : MkK (w.setCell ⟨g, k * 3 + i, none⟩ u) B H g l := by
  have hm : Mk B H w (w.setCell ⟨g, k * 3 + i, none⟩ u) := (Mk.refl B H w).put h.row (Nat.le_refl _) _ _
  refine ⟨h.row.set _ _, fun j hj => ?_⟩
  obtain ⟨ut, h1, h2⟩ := h.texts j hj
  exact ⟨ut, (cell_set_ne (by omega)).trans h1, h2.mk hm⟩
theorem MkP.set {w : World} {B H g k i : Nat} {l : List Pr} {u : Value} (h : MkP w B H g l) (hi : i < 2) : MkP (w.setCell ⟨g, k * 4 + i, none⟩ u) B H g l := by
  have hm : Mk B H w (w.setCell ⟨g, k * 4 + i, none⟩ u) := (Mk.refl B H w).put h.row (Nat.le_refl _) _ _
  refine ⟨h.row.set _ _, fun j hj => ?_⟩
  obtain ⟨uc, ud, h1, h2, h3, h4⟩ := h.parts j hj
  exact ⟨uc, ud, (cell_set_ne (by omega)).trans h1, (cell_set_ne (by omega)).trans h2, h3.mk hm, h4.mk hm⟩

theorem markByteS_rw (v : Value) (n lo B H : Nat) (k0 : Int) (h0 : 0 ≤ k0) (h1 : k0 ≤ 16777216) (w : World) (hr : Rw 5 1 lo H w v n) (hB : B ≤ lo) (hn : n ≤ 1048576) :
    Calls Tryd.prog 9 #[v, .int .i64 k0] w fun e w' => e = .returned (.int .i64 (k0 + (n : Int))) ∧ Mk B H w w' := by
  obtain ⟨g, xs, rfl, hg, ho⟩ := hr
  refine (markByteS_own _ n lo xs k0 h0 h1 w ho (by omega)).mono ?_
  rintro e w' ⟨rfl, ho', hgr⟩
  exact ⟨rfl, Mk.own hgr ho ho' (Nat.le_trans hB (ho.lt g rfl).1) hg⟩

set_option maxRecDepth 100000 in
set_option maxHeartbeats 2000000 in
theorem markConstS_any (g B H : Nat) (l : List Cn) (k0 : Int) (h0 : 0 ≤ k0) (h1 : k0 ≤ 1048576) (w : World) (hr : MkK w B H g l) (hB : B ≤ g) (hs : sizeK l ≤ 1048576) :
    Calls Tryd.prog 21 #[.slice (some ⟨g, 0, none⟩) l.length l.length, .int .i64 k0] w fun e w' => e = .returned (.int .i64 (k0 + 2 * (l.length : Int) + (sumsF sizeCn l l.length : Nat))) ∧ Mk B H w w' := by
  have HR : Hid (MkK w B H g l) := hr
  have HB : Hid (B ≤ g + 1) := by show B ≤ g + 1; omega
  obtain ⟨n, hn⟩ : ∃ n, n = l.length := ⟨_, rfl⟩
  have HN : Hid (l.length = n) := hn.symm
  have HSZ : Hid (∀ k, k ≤ n → sumsF sizeCn l k ≤ 1048576 - n) := fun k hk => by
    have := sumsF_le (f := sizeCn) cn0 l (l.length - k) k (by have := HN.out; omega)
    unfold sizeK at hs
    have := HN.out
    omega
  have hn1 : n ≤ 1048576 := by unfold sizeK at hs; omega
  rw [← hn]
  clear hr hn hB hs
  go_enter Tryd.func21, Tryd.ntmps21
  go_wp2
  go_loopw [1, 5] (fun q i wr => ∃ (k S : Nat), k ≤ n ∧ S ≤ 1048576 ∧ i = .int .i64 k ∧ q = .int .i64 (k0 + 2 * (k : Int) + (S : Int)) ∧ Hid (S = sumsF sizeCn l k) ∧ Hid (MkK wr B H g l) ∧ Hid (Mk B H w wr)) (fun _ i _ => n - (intOf i).toNat)
  case atStart => exact ⟨0, 0, Nat.zero_le _, by omega, rfl, by go_num, by show _ = _; simp [sumsF], HR.out, Mk.refl _ _ _⟩
  case round =>
    clear HR
    obtain ⟨k, S, hk, hS, rfl, rfl, HS, HR, HM⟩ := hrel
    by_cases hlt : k < n
    · have hkl : k < l.length := by rw [HN.out]; exact hlt
      have HS2 : Hid (S + (l.getD k cn0).text.length = sumsF sizeCn l (k + 1)) := by show _ = _; rw [sumsF_succ cn0 hkl, ← HS.out]; rfl
      have hS2 : S + (l.getD k cn0).text.length ≤ 1048576 := by rw [HS2.out]; have := HSZ.out (k + 1) (by omega); omega
      obtain ⟨ut, c2, hu⟩ := HR.out.texts k hkl
      have hrow := HR.out.row
      rw [HN.out] at hrow
      obtain ⟨f0, u0, e0⟩ := hrow.at (k * 3) (by omega)
      obtain ⟨f1, u1, e1⟩ := hrow.at (k * 3 + 1) (by omega)
      have HU : Hid (Rw 5 1 (g + 1) H wr ut (l.getD k cn0).text.length) := hu
      have HROW : Hid (Rw 40 3 B H wr (.slice (some ⟨g, 0, none⟩) n n) n) := hrow
      obtain ⟨gt, xt, rfl, _, _⟩ := hu
      generalize (l.getD k cn0).text.length = tl at HS2 hS2 HU c2
      have hlt' : (k : Int) < (n : Int) := by omega
      clear hrow
      go_wp2_with fail
      have hm1 := HM.out.put HROW.out (Nat.le_refl B) (k * 3) (.bool ((k0 + 2 * (k : Int) + (S : Int)) % 3 == 0))
      have hm2 := hm1.put (HROW.out.set _ _) (Nat.le_refl B) (k * 3 + 1) (.int .i64 (k0 + 2 * (k : Int) + (S : Int) + 1))
      have hk2 := (HR.out.set (k := k) (i := 0) (u := .bool ((k0 + 2 * (k : Int) + (S : Int)) % 3 == 0)) (by omega)).set (k := k) (i := 1) (u := .int .i64 (k0 + 2 * (k : Int) + (S : Int) + 1)) (by omega)
      have hu2 := (HU.out.mk ((Mk.refl B H wr).put HROW.out (Nat.le_refl B) (k * 3) (.bool ((k0 + 2 * (k : Int) + (S : Int)) % 3 == 0)))).mk ((Mk.refl B H _).put (HROW.out.set (k * 3) (.bool ((k0 + 2 * (k : Int) + (S : Int)) % 3 == 0))) (Nat.le_refl B) (k * 3 + 1) (.int .i64 (k0 + 2 * (k : Int) + (S : Int) + 1)))
      refine (markByteS_rw _ tl (g + 1) (g + 1) H _ (by omega) (by omega) _ hu2 (Nat.le_refl _) (by omega)).mono ?_
      rintro e w2 ⟨rfl, hm3⟩
      have HM2 : Hid (Mk B H w w2) := hm2.trans (hm3.mono HB.out (Nat.le_refl _))
      have HR2 : Hid (MkK w2 B H g l) := MkK.behind hk2 hm3
      clear hm1 hm2 hk2 hu2 hm3 c2 e0 e1 f0 f1
      go_wp2
      go_roundw
      case rel => exact ⟨k + 1, S + tl, by omega, hS2, by go_num, by go_num, HS2.out, HR2.out, HM2.out⟩
      case measure => simp [intOf]; omega
    · have hkn : k = n := by omega
      subst hkn
      go_wp2
      go_ret
      exact ⟨by rw [← HS.out]; rfl, HM.out⟩

def wtPr (d : Pr) : Nat := 2 * d.caps.length + 3 * d.code.length
theorem wt_le (l : List Pr) : ∀ k, sumsF wtPr l k ≤ 3 * sumsF sizePr l k := by
  intro k
  unfold sumsF
  generalize l.take k = m
  induction m with
  | nil => simp
  | cons d m ih => simp only [List.map_cons, List.sum_cons]; unfold wtPr sizePr at *; omega

set_option maxRecDepth 100000 in
set_option maxHeartbeats 2000000 in
theorem markProtoS_any (g B H : Nat) (l : List Pr) (k0 : Int) (h0 : 0 ≤ k0) (h1 : k0 ≤ 4194304) (w : World) (hr : MkP w B H g l) (hB : B ≤ g) (hs : sizeP l ≤ 1048576) :
    Calls Tryd.prog 22 #[.slice (some ⟨g, 0, none⟩) l.length l.length, .int .i64 k0] w fun e w' => e = .returned (.int .i64 (k0 + 2 * (l.length : Int) + (sumsF wtPr l l.length : Nat))) ∧ Mk B H w w' := by
  have HR : Hid (MkP w B H g l) := hr
  have HB : Hid (B ≤ g + 1) := by show B ≤ g + 1; omega
  obtain ⟨n, hn⟩ : ∃ n, n = l.length := ⟨_, rfl⟩
  have HN : Hid (l.length = n) := hn.symm
  have HSZ : Hid (∀ k, k ≤ n → sumsF wtPr l k ≤ 3145728) := fun k hk => by
    have := sumsF_le (f := sizePr) pr0 l (l.length - k) k (by have := HN.out; omega)
    have := wt_le l k
    unfold sizeP at hs
    have := HN.out
    omega
  have HPZ : Hid (∀ k, k < n → (l.getD k pr0).caps.length ≤ 1048576 ∧ (l.getD k pr0).code.length ≤ 1048576) := fun k hk => by
    have hz := sumsF_at (f := sizePr) pr0 (l := l) (i := k) (by have := HN.out; omega)
    have e : sizePr (l.getD k pr0) = (l.getD k pr0).caps.length + (l.getD k pr0).code.length := rfl
    unfold sizeP at hs
    exact ⟨by omega, by omega⟩
  have hn1 : n ≤ 1048576 := by unfold sizeP at hs; omega
  rw [← hn]
  clear hr hn hB hs
  go_enter Tryd.func22, Tryd.ntmps22
  go_wp2
  go_loopw [1, 5] (fun q i wr => ∃ (k S : Nat), k ≤ n ∧ S ≤ 3145728 ∧ i = .int .i64 k ∧ q = .int .i64 (k0 + 2 * (k : Int) + (S : Int)) ∧ Hid (S = sumsF wtPr l k) ∧ Hid (MkP wr B H g l) ∧ Hid (Mk B H w wr)) (fun _ i _ => n - (intOf i).toNat)
  case atStart => exact ⟨0, 0, Nat.zero_le _, by omega, rfl, by go_num, by show _ = _; simp [sumsF], HR.out, Mk.refl _ _ _⟩
  case round =>
    clear HR
    obtain ⟨k, S, hk, hS, rfl, rfl, HS, HR, HM⟩ := hrel
    by_cases hlt : k < n
    · have hkl : k < l.length := by rw [HN.out]; exact hlt
      have HS2 : Hid (S + (2 * (l.getD k pr0).caps.length + 3 * (l.getD k pr0).code.length) = sumsF wtPr l (k + 1)) := by show _ = _; rw [sumsF_succ pr0 hkl, ← HS.out]; rfl
      have hS2 : S + (2 * (l.getD k pr0).caps.length + 3 * (l.getD k pr0).code.length) ≤ 3145728 := by rw [HS2.out]; exact HSZ.out (k + 1) (by omega)
      obtain ⟨hcl, hdl⟩ := HPZ.out k hlt
      obtain ⟨uc, ud, c2, c3, hu, hv⟩ := HR.out.parts k hkl
      have hrow := HR.out.row
      rw [HN.out] at hrow
      obtain ⟨f0, u0, e0⟩ := hrow.at (k * 4) (by omega)
      obtain ⟨f1, u1, e1⟩ := hrow.at (k * 4 + 1) (by omega)
      have HU : Hid (Rw 48 2 (g + 1) H wr uc (l.getD k pr0).caps.length) := hu
      have HV : Hid (Rw 50 3 (g + 1) H wr ud (l.getD k pr0).code.length) := hv
      have HROW : Hid (Rw 46 4 B H wr (.slice (some ⟨g, 0, none⟩) n n) n) := hrow
      obtain ⟨gt, xt, rfl, _, _⟩ := hu
      obtain ⟨gv, xv, rfl, _, _⟩ := hv
      generalize (l.getD k pr0).caps.length = tl at HS2 hS2 HU c2 hcl
      generalize (l.getD k pr0).code.length = tm at HS2 hS2 HV c3 hdl
      have hlt' : (k : Int) < (n : Int) := by omega
      clear hrow
      go_wp2_with fail
      have hm1 := HM.out.put HROW.out (Nat.le_refl B) (k * 4) (.int .i64 (k0 + 2 * (k : Int) + (S : Int)))
      have hm2 := hm1.put (HROW.out.set _ _) (Nat.le_refl B) (k * 4 + 1) (.int .i64 (k0 + 2 * (k : Int) + (S : Int) + 1))
      have hk2 := (HR.out.set (k := k) (i := 0) (u := .int .i64 (k0 + 2 * (k : Int) + (S : Int))) (by omega)).set (k := k) (i := 1) (u := .int .i64 (k0 + 2 * (k : Int) + (S : Int) + 1)) (by omega)
      have hq := (Mk.refl B H wr).put HROW.out (Nat.le_refl B) (k * 4) (.int .i64 (k0 + 2 * (k : Int) + (S : Int)))
      have hq2 := (Mk.refl B H _).put (HROW.out.set (k * 4) (.int .i64 (k0 + 2 * (k : Int) + (S : Int)))) (Nat.le_refl B) (k * 4 + 1) (.int .i64 (k0 + 2 * (k : Int) + (S : Int) + 1))
      have hu2 := (HU.out.mk hq).mk hq2
      have HV2 : Hid _ := (HV.out.mk hq).mk hq2
      have d3 : ((wr.setCell ⟨g, k * 4, none⟩ (.int .i64 (k0 + 2 * (k : Int) + (S : Int)))).setCell ⟨g, k * 4 + 1, none⟩ (.int .i64 (k0 + 2 * (k : Int) + (S : Int) + 1))).cell? ⟨g, k * 4 + 3, none⟩ = some (.slice (some ⟨gv, 0, none⟩) tm tm) := (cell_set_ne (by omega)).trans ((cell_set_ne (by omega)).trans c3)
      refine (markCaptureS_any _ tl (g + 1) (g + 1) H _ (by omega) (by omega) _ hu2 (Nat.le_refl _) (by omega)).mono ?_
      rintro e w2 ⟨rfl, hm3⟩
      have HM2 : Hid (Mk B H w w2) := hm2.trans (hm3.mono HB.out (Nat.le_refl _))
      have HR2 : Hid (MkP w2 B H g l) := MkP.behind hk2 hm3
      have HV3 : Hid (Rw 50 3 (g + 1) H w2 (.slice (some ⟨gv, 0, none⟩) tm tm) tm) := Rw.mk HV2.out hm3
      have g3 : w2.cell? ⟨g, k * 4 + 3, none⟩ = some (.slice (some ⟨gv, 0, none⟩) tm tm) := (hm3.below.cell (p := ⟨g, k * 4 + 3, none⟩) (by show g < g + 1; omega)).trans d3
      clear hm1 hm2 hk2 hu2 hm3 c2 c3 d3 e0 e1 f0 f1 hq hq2 HV2 HV HU
      go_wp2_with fail
      refine (markInsS_any _ tm (g + 1) (g + 1) H _ (by omega) (by omega) _ HV3.out (Nat.le_refl _) (by omega)).mono ?_
      rintro e w3 ⟨rfl, hm3⟩
      have HM3 : Hid (Mk B H w w3) := HM2.out.trans (hm3.mono HB.out (Nat.le_refl _))
      have HR3 : Hid (MkP w3 B H g l) := HR2.out.behind hm3
      clear hm3 g3
      go_wp2
      go_roundw
      case rel => exact ⟨k + 1, S + (2 * tl + 3 * tm), by omega, hS2, by go_num, by go_num, HS2.out, HR3.out, HM3.out⟩
      case measure => simp [intOf]; omega
    · have hkn : k = n := by omega
      subst hkn
      go_wp2
      go_ret
      exact ⟨by rw [← HS.out]; rfl, HM.out⟩

set_option maxRecDepth 100000 in
set_option maxHeartbeats 2000000 in
/-- The copy of an argument is written all over: no block but its own turns. -/
theorem markProgram_any (p : Pg) (gk gp B H : Nat) (w : World) (hk : MkK w gk gp gk p.consts) (hp : MkP w gp H gp p.protos) (hB : B ≤ gk) (hgg : gk < gp) (hH : H ≤ w.heap.size) (hs : sizePg p ≤ 1048576) :
    Calls Tryd.prog 10 #[.agg #[.slice (some ⟨gk, 0, none⟩) p.consts.length p.consts.length, .slice (some ⟨gp, 0, none⟩) p.protos.length p.protos.length], .int .i64 1] w fun e w' => ∃ k : Nat, e = .returned (.int .i64 (k : Int)) ∧ Mk B H w w' := by
  have hs1 : sizeK p.consts ≤ 1048576 := by unfold sizePg at hs; omega
  have hs2 : sizeP p.protos ≤ 1048576 := by unfold sizePg at hs; omega
  have hgH : gp < H := by obtain ⟨_, _, e, hg, _⟩ := hp.row; simp only [Value.slice.injEq, Option.some.injEq, Addr.mk.injEq, and_true] at e; omega
  have HA : Hid (∀ o, MkK (w.alloc o) gk gp gk p.consts ∧ MkP (w.alloc o) gp H gp p.protos) := fun o => ⟨hk.keep ((Below.refl _ _).alloc (by omega) o), hp.keep ((Below.refl _ _).alloc (by omega) o)⟩
  have hl1 : sumsF sizeCn p.consts p.consts.length ≤ 1048576 := by unfold sizeK at hs1; omega
  have hl2 : p.consts.length ≤ 1048576 := by unfold sizeK at hs1; omega
  have CK : Hid (∀ W, MkK W gk gp gk p.consts → Calls Tryd.prog 21 #[.slice (some ⟨gk, 0, none⟩) p.consts.length p.consts.length, .int .i64 1] W fun e w' => e = .returned (.int .i64 (1 + 2 * (p.consts.length : Int) + (sumsF sizeCn p.consts p.consts.length : Nat))) ∧ Mk gk gp W w') := fun W h => markConstS_any gk gk gp p.consts 1 (by omega) (by omega) W h (Nat.le_refl _) hs1
  have CP : Hid (∀ W, MkP W gp H gp p.protos → Calls Tryd.prog 22 #[.slice (some ⟨gp, 0, none⟩) p.protos.length p.protos.length, .int .i64 (1 + 2 * (p.consts.length : Int) + (sumsF sizeCn p.consts p.consts.length : Nat))] W fun e w' => e = .returned (.int .i64 (1 + 2 * (p.consts.length : Int) + (sumsF sizeCn p.consts p.consts.length : Nat) + 2 * (p.protos.length : Int) + (sumsF wtPr p.protos p.protos.length : Nat))) ∧ Mk gp H W w') := fun W h => markProtoS_any gp gp H p.protos _ (by omega) (by omega) W h (Nat.le_refl _) hs2
  generalize sumsF sizeCn p.consts p.consts.length = sk at CK CP hl1
  generalize sumsF wtPr p.protos p.protos.length = sp at CP
  clear hk hp hs hs1 hs2
  go_enter Tryd.func10, Tryd.ntmps10
  go_wp2_with fail
  refine (CK.out _ (HA.out _).1).mono ?_
  rintro e w1 ⟨rfl, m1⟩
  have z1 : w1.cell? ⟨w.heap.size, 1, none⟩ = some (.slice (some ⟨gp, 0, none⟩) p.protos.length p.protos.length) := (World.cell?_of_block (a := ⟨w.heap.size, 1, none⟩) (m1.far w.heap.size (by omega) (by simp))).trans (cellNew rfl)
  have HP1 : Hid (MkP w1 gp H gp p.protos) := (HA.out _).2.far m1 (Nat.le_refl _) (by simp; omega)
  have HM1 : Hid (Mk B H w w1) := Mk.trans ⟨(Below.refl B w).alloc (by omega) _, fun b _ hb => heap_alloc_old _ _ hb, fun b cs t fr h => ⟨cs, (heap_alloc_old _ _ (heap_lt h)).trans h, rfl⟩⟩ (m1.mono hB (by omega))
  clear m1
  go_wp2_with fail
  refine (CP.out _ HP1.out).mono ?_
  rintro e w2 ⟨rfl, m2⟩
  have HM2 : Hid (Mk B H w w2) := HM1.out.trans (m2.mono (by omega) (Nat.le_refl _))
  clear m2
  go_wp2
  go_returns
  exact ⟨1 + 2 * p.consts.length + sk + 2 * p.protos.length + sp, by simp, HM2.out⟩
end Go.Proofs.YteagakplhfiodaaDoor.pg
