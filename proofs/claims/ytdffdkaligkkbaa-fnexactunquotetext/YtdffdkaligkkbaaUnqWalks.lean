import Derived.Test.YtdffdkaligkkbaaSpecLitA
import Derived.Test.YtdffdkaligkkbaaSpecLitB
namespace Go.Proofs.Ytdffdkaligkkbaa.lit
open Go.RowKit Go.Proofs.Ytdffdkaligkkbaa.bts Go.Proofs.Ytdffdkaligkkbaa.scn

/-- What a reader of a literal leaves, at a place of the list. -/
def LitPost (zs : List Int) (k : Nat) (w : World) (x : Ending) (w' : World) : Prop := Below w.heap.size w w' ∧
      ((litAt zs k = none ∧ x = .returned (.tuple #[.slice none 0 0, .int .i64 0])) ∨
       ∃ t e ao c, litAt zs k = some (t, e) ∧ x = .returned (.tuple #[.slice ao t.length c, .int .i64 ((e : Int) - (k : Int))]) ∧ OwnT w' w.heap.size ao c t)

theorem specLit_short (ao : Option Addr) (n cap k : Nat) (w : World) (h : n ≤ k) (_hn : n ≤ 1073741824) (_hk : k ≤ 1073741824) :
    Calls Try.prog 32 #[.slice ao n cap, .int .i64 k] w fun x w' => x = .returned (.tuple #[.slice none 0 0, .int .i64 0]) ∧ w' = w := by
  go_enter Try.func32, Try.ntmps32
  go_wp2
  go_ret2
  exact ⟨rfl, rfl⟩

theorem specLit_not (b off n cap k : Nat) (z : Int) (w : World) (h : k < n) (_hn : n ≤ 1073741824) (hc : w.cell? ⟨b, off + k, none⟩ = some (.int .u8 z)) (h1 : (z != 34) = true) (h2 : (z != 39) = true) :
    Calls Try.prog 32 #[.slice (some ⟨b, off, none⟩) n cap, .int .i64 k] w fun x w' => x = .returned (.tuple #[.slice none 0 0, .int .i64 0]) ∧ w' = w := by
  have h3 : ¬ z = 34 := by simpa using h1
  have h4 : ¬ z = 39 := by simpa using h2
  go_enter Try.func32, Try.ntmps32
  go_wp2
  go_ret2
  exact ⟨rfl, rfl⟩

theorem readLit_short (ao : Option Addr) (cap : Nat) (w : World) :
    Calls Try.prog 33 #[.slice ao 0 cap] w fun x w' => x = .returned (.tuple #[.slice none 0 0, .int .i64 0]) ∧ w' = w := by
  go_enter Try.func33, Try.ntmps33
  go_wp2
  go_ret2
  exact ⟨rfl, rfl⟩

theorem readLit_not (b off n cap : Nat) (z : Int) (w : World) (h : 0 < n) (hn : n ≤ 1073741824) (hc : w.cell? ⟨b, off, none⟩ = some (.int .u8 z)) (h1 : (z != 34) = true) (h2 : (z != 39) = true) :
    Calls Try.prog 33 #[.slice (some ⟨b, off, none⟩) n cap] w fun x w' => x = .returned (.tuple #[.slice none 0 0, .int .i64 0]) ∧ w' = w := by
  have h3 : ¬ z = 34 := by simpa using h1
  have h4 : ¬ z = 39 := by simpa using h2
  have hne : ((n : Int) == 0) = false := by simp; omega
  go_enter Try.func33, Try.ntmps33
  go_wp2
  go_ret2
  exact ⟨rfl, rfl⟩

theorem lit_none {zs : List Int} {k : Nat} (h : ¬ (k < zs.length ∧ (zs.getD k 0 = 34 ∨ zs.getD k 0 = 39))) : litAt zs k = none := by unfold litAt; rw [if_neg h]

theorem specLit_any (g cap k : Nat) (zs : List Int) (w : World) (hb : Bts zs) (hr : Rd w (some ⟨g, 0, none⟩) zs) (hm : zs.length ≤ 1048576) (hk : k ≤ 1048576) :
    Calls Try.prog 32 #[.slice (some ⟨g, 0, none⟩) zs.length cap, .int .i64 k] w (LitPost zs k w) := by
  by_cases h : k < zs.length
  · obtain ⟨b, off, e, hbw, hcell⟩ := hr.at (by omega)
    simp only [Option.some.injEq, Addr.mk.injEq, and_true] at e
    obtain ⟨rfl, rfl⟩ := e
    by_cases q1 : zs.getD k 0 = 34
    · exact specLit_34 _ _ cap k zs w hb hcell hbw (by omega) h q1
    by_cases q2 : zs.getD k 0 = 39
    · exact specLit_39 _ _ cap k zs w hb hcell hbw (by omega) h q2
    refine (specLit_not _ _ _ cap k (zs.getD k 0) w h (by omega) (hcell k h) (bne_iff_ne.mpr q1) (bne_iff_ne.mpr q2)).mono ?_
    rintro x w' ⟨rfl, rfl⟩
    exact ⟨Below.refl _ _, .inl ⟨lit_none (by omega), rfl⟩⟩
  · refine (specLit_short _ _ cap k w (by omega) (by omega) (by omega)).mono ?_
    rintro x w' ⟨rfl, rfl⟩
    exact ⟨Below.refl _ _, .inl ⟨lit_none (by omega), rfl⟩⟩

theorem implLit_any (g cap : Nat) (zs : List Int) (w : World) (hb : Bts zs) (hr : Rd w (some ⟨g, 0, none⟩) zs) (hcap : zs.length ≤ cap) (hm : cap ≤ 1048576) :
    Calls Try.prog 33 #[.slice (some ⟨g, 0, none⟩) zs.length cap] w (LitPost zs 0 w) := by
  by_cases h : 0 < zs.length
  · obtain ⟨b, off, e, hbw, hcell⟩ := hr.at h
    simp only [Option.some.injEq, Addr.mk.injEq, and_true] at e
    obtain ⟨rfl, rfl⟩ := e
    by_cases q : zs.getD 0 0 = 34 ∨ zs.getD 0 0 = 39
    · refine (readLit_any _ _ cap zs w hb hcell hbw hcap (by omega) h q).mono ?_
      rintro x w' ⟨hbel, hor⟩
      refine ⟨hbel, ?_⟩
      rcases hor with hx | ⟨t, e, ao, c, h1, h2, h3⟩
      · exact .inl hx
      · exact .inr ⟨t, e, ao, c, h1, by simpa using h2, h3⟩
    have hc0 := hcell 0 h
    refine (readLit_not _ _ _ cap (zs.getD 0 0) w h (by omega) (by rw [Nat.add_zero] at hc0; exact hc0) (bne_iff_ne.mpr fun h => q (.inl h)) (bne_iff_ne.mpr fun h => q (.inr h))).mono ?_
    rintro x w' ⟨rfl, rfl⟩
    exact ⟨Below.refl _ _, .inl ⟨lit_none (by omega), rfl⟩⟩
  · have hz : zs.length = 0 := by omega
    rw [hz]
    refine (readLit_short _ cap w).mono ?_
    rintro x w' ⟨rfl, rfl⟩
    exact ⟨Below.refl _ _, .inl ⟨lit_none (by omega), rfl⟩⟩

/-- What both functions answer: the text and the code. -/
def UnqPost (zs : List Int) (n : Nat) (w : World) (x : Ending) (w' : World) : Prop := Below w.heap.size w w' ∧
  ∃ ao c, x = .returned (.tuple #[.slice ao n c, .int .i64 (unqCode zs)]) ∧ w'.ownsRow w.heap.size 5 1 (.slice ao n c) n (bcells (unqText zs))

theorem unq_none {zs : List Int} (h : litAt zs 0 = none) : unqText zs = [] ∧ unqCode zs = 2 := by simp [unqText, unqCode, unq, h]
theorem unq_short {zs t : List Int} {e : Nat} (h : litAt zs 0 = some (t, e)) (h2 : ¬ e = zs.length) : unqText zs = [] ∧ unqCode zs = 2 := by simp [unqText, unqCode, unq, h, h2]
theorem unq_some {zs t : List Int} {e : Nat} (h : litAt zs 0 = some (t, e)) (h2 : e = zs.length) : unqText zs = t ∧ unqCode zs = 0 := by simp [unqText, unqCode, unq, h, h2]
theorem litAt_fits {zs : List Int} (hb : Bts zs) {t : List Int} {e : Nat} (h : litAt zs 0 = some (t, e)) : t.length ≤ e ∧ e ≤ zs.length ∧ 1 ≤ e := by
  unfold litAt at h
  split at h
  · have := rl_fits hb zs.length 1 [] t e (by omega) h (by simp)
    omega
  · cases h

theorem unqText_len {zs : List Int} (hb : Bts zs) : (unqText zs).length ≤ zs.length := by
  cases h : litAt zs 0 with
  | none => rw [(unq_none h).1]; simp
  | some p =>
    obtain ⟨t, e⟩ := p
    have f := litAt_fits hb h
    by_cases he : e = zs.length
    · rw [(unq_some h he).1]; omega
    · rw [(unq_short h he).1]; simp

theorem own_belowT {w w' : World} {base : Nat} {e : TypeId} {size B cap : Nat} {ao : Option Addr} {n : Nat} {xs : List Value} (h : w.ownsRow base e size (.slice ao n cap) n xs) (hb : Below B w w') (hg : ∀ g, (Value.slice ao n cap).ownBlock = some g → g < B) : w'.ownsRow base e size (.slice ao n cap) n xs := by
  obtain ⟨h1, h2⟩ := h
  refine ⟨h1, ?_⟩
  rcases h2 with h | ⟨g', cap', cur, h, hb', hh, r⟩
  · exact .inl h
  · exact .inr ⟨g', cap', cur, h, hb', (hb.block _ (hg g' (by rw [h]; rfl))).trans hh, r⟩

theorem Rd_ownedT {w : World} {base cap n : Nat} {E : TypeId} {ao : Option Addr} {zs : List Int} (h : w.ownsRow base E 1 (.slice ao n cap) n (bcells zs)) (e : zs.length = n) : Rd w ao zs := by
  rcases h.2 with ⟨h', h0⟩ | ⟨g', cap', cur, h', _⟩
  · intro i hi; omega
  · simp only [Value.slice.injEq, true_and] at h'
    obtain ⟨rfl, rfl⟩ := h'
    exact Rd.owned h e

set_option maxHeartbeats 1000000 in
theorem specUnq_any (g cap n : Nat) (zs : List Int) (w : World) (hb : Bts zs) (hl : zs.length = n) (hr : Rd w (some ⟨g, 0, none⟩) zs) (hm : n ≤ 1048576) :
    Calls Try.prog 18 #[.slice (some ⟨g, 0, none⟩) n cap] w (UnqPost zs (unqText zs).length w) := by
  have C := specLit_any g cap 0 zs w hb hr (by omega) (by omega)
  rw [hl] at C
  go_enter Try.func18, Try.ntmps18
  go_wp2_with fail
  refine C.mono ?_
  rintro x w1 ⟨hbel, hor⟩
  have HBel : Hid _ := hbel
  have HB : Hid (Bts zs) := hb
  have HL : Hid (zs.length = n) := hl
  clear C hbel hb hr hl
  rcases hor with ⟨hn, rfl⟩ | ⟨t, e, ao, c, hs, rfl, hown⟩
  · have HU : Hid (unqText zs = [] ∧ unqCode zs = 2) := unq_none hn
    clear hn
    go_wp2
    go_ret2
    exact ⟨HBel.out, none, 0, by rw [HU.out.1, HU.out.2]; rfl, by rw [HU.out.1]; exact World.ownsRow_nil _ _ _ _⟩
  · have hf := litAt_fits HB.out hs
    have he0 : ((e : Int) == 0) = false := by simp; omega
    have hsub : ((e : Int) - ((0 : Nat) : Int)) = (e : Int) := by omega
    by_cases hen : e = n
    · have HU : Hid (unqText zs = t ∧ unqCode zs = 0) := unq_some hs (by rw [HL.out]; exact hen)
      have HO : Hid _ := hown
      subst hen
      clear hs hf hown
      go_wp2
      go_ret2
      exact ⟨HBel.out, ao, c, by rw [HU.out.1, HU.out.2]; rfl, by rw [HU.out.1]; exact HO.out⟩
    · have HU : Hid (unqText zs = [] ∧ unqCode zs = 2) := unq_short hs (by rw [HL.out]; exact hen)
      have hne : ((e : Int) == (n : Int)) = false := by simp; omega
      clear hs hf hown
      go_wp2
      go_ret2
      exact ⟨HBel.out, none, 0, by rw [HU.out.1, HU.out.2]; rfl, by rw [HU.out.1]; exact World.ownsRow_nil _ _ _ _⟩

set_option maxHeartbeats 1000000 in
theorem implUnq_any (g cap n : Nat) (zs : List Int) (w : World) (hb : Bts zs) (hl : zs.length = n) (hr : Rd w (some ⟨g, 0, none⟩) zs) (hcap : n ≤ cap) (hm : cap ≤ 1048576) :
    Calls Try.prog 19 #[.slice (some ⟨g, 0, none⟩) n cap] w (UnqPost zs (unqText zs).length w) := by
  have C := implLit_any g cap zs w hb hr (by omega) (by omega)
  rw [hl] at C
  go_enter Try.func19, Try.ntmps19
  go_wp2_with fail
  refine C.mono ?_
  rintro x w1 ⟨hbel, hor⟩
  have HBel : Hid _ := hbel
  have HB : Hid (Bts zs) := hb
  have HL : Hid (zs.length = n) := hl
  clear C hbel hb hr hl
  rcases hor with ⟨hn, rfl⟩ | ⟨t, e, ao, c, hs, rfl, hown⟩
  · have HU : Hid (unqText zs = [] ∧ unqCode zs = 2) := unq_none hn
    clear hn
    go_wp2
    go_ret2
    exact ⟨HBel.out, none, 0, by rw [HU.out.1, HU.out.2]; rfl, by rw [HU.out.1]; exact World.ownsRow_nil _ _ _ _⟩
  · have hf := litAt_fits HB.out hs
    rw [HL.out] at hf
    have he0 : ((e : Int) == 0) = false := by simp; omega
    have hsub : ((e : Int) - ((0 : Nat) : Int)) = (e : Int) := by omega
    by_cases hen : e = n
    · have HU : Hid (unqText zs = t ∧ unqCode zs = 0) := unq_some hs (by rw [HL.out]; exact hen)
      have HO : Hid _ := hown
      subst hen
      clear hs hf hown
      go_wp2
      go_ret2
      exact ⟨HBel.out, ao, c, by rw [HU.out.1, HU.out.2]; rfl, by rw [HU.out.1]; exact HO.out⟩
    · have HU : Hid (unqText zs = [] ∧ unqCode zs = 2) := unq_short hs (by rw [HL.out]; exact hen)
      have hne : (e : Int) < (n : Int) := by omega
      clear hs hf hown
      go_wp2
      go_ret2
      exact ⟨HBel.out, none, 0, by rw [HU.out.1, HU.out.2]; rfl, by rw [HU.out.1]; exact World.ownsRow_nil _ _ _ _⟩
end Go.Proofs.Ytdffdkaligkkbaa.lit
