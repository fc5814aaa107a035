import Derived.Test.YtdffdkaligkkbaaLitParts
import Derived.Deep.AppendLies
namespace Go.Proofs.Ytdffdkaligkkbaa.lit
open Go.RowKit Go.Proofs.Ytdffdkaligkkbaa.bts Go.Proofs.Ytdffdkaligkkbaa.scn

/-- The slice value that holds a text of the call's own. -/
def OwnT (w : World) (B : Nat) (ao : Option Addr) (cap : Nat) (t : List Int) : Prop := w.ownsRow B 5 1 (.slice ao t.length cap) t.length (bcells t)

theorem own_push {w : World} {B g cap m : Nat} {out : List Int} {c : Int} (_hm : out.length = m) (h : w.ownsRow B 5 1 (.slice (some ⟨g, 0, none⟩) (m + 1) cap) (m + 1) (bcells out ++ [.int .u8 c])) :
    w.ownsRow B 5 1 (.slice (some ⟨g, 0, none⟩) (m + 1) cap) (m + 1) (bcells (out ++ [c])) := by
  have e : bcells (out ++ [c]) = bcells out ++ [.int .u8 c] := by simp [bcells]
  rw [e]; exact h

set_option maxHeartbeats 2000000 in
theorem readLit_any (b off cap : Nat) (zs : List Int) (w : World) (hb : Bts zs) (hcell : ∀ i, i < zs.length → w.cell? ⟨b, off + i, none⟩ = some (.int .u8 (zs.getD i 0))) (hbw : b < w.heap.size) (hcap : zs.length ≤ cap) (hm : cap ≤ 1073741824)
    (h0 : 0 < zs.length) (hq : zs.getD 0 0 = 34 ∨ zs.getD 0 0 = 39) :
    Calls Try.prog 33 #[.slice (some ⟨b, off, none⟩) zs.length cap] w fun x w' => Below w.heap.size w w' ∧
      ((litAt zs 0 = none ∧ x = .returned (.tuple #[.slice none 0 0, .int .i64 0])) ∨
       ∃ t e ao c, litAt zs 0 = some (t, e) ∧ x = .returned (.tuple #[.slice ao t.length c, .int .i64 (e : Int)]) ∧ OwnT w' w.heap.size ao c t) := by
  obtain ⟨i0, hi, hz0, hz1, hz2⟩ := info_parts info_u8
  have hA : litAt zs 0 = rl (zs.getD 0 0) zs 1 [] := by unfold litAt; rw [if_pos ⟨h0, hq⟩]
  have hc0 := hcell 0 h0
  rw [Nat.add_zero] at hc0
  obtain ⟨q, hqq⟩ : ∃ q, q = zs.getD 0 0 := ⟨_, rfl⟩
  rw [← hqq] at hA hc0 hq
  obtain ⟨n, hnn⟩ : ∃ n, n = zs.length := ⟨_, rfl⟩
  have HL : Hid (zs.length = n) := hnn.symm
  have HB : Hid (Bts zs) := hb
  have HC : Hid (∀ i, i < zs.length → w.cell? ⟨b, off + i, none⟩ = some (.int .u8 (zs.getD i 0))) := hcell
  have HA : Hid (litAt zs 0 = rl q zs 1 []) := hA
  rw [← hnn] at hcap h0 ⊢
  clear hqq hnn hA hb hcell
  have hne : ((n : Int) == 0) = false := by simp; omega
  rcases hq with rfl | rfl
  · skip
    go_enter Try.func33, Try.ntmps33
    go_wp2
    go_loopw [4, 5] (fun v a wr => ∃ (i m c : Nat) (ao : Option Addr) (out : List Int), i ≤ n ∧ 1 ≤ i ∧ m < i ∧ a = .int .i64 i ∧ v = .slice ao m c ∧ Hid (out.length = m) ∧ wr.ownsRow w.heap.size 5 1 (.slice ao m c) m (bcells out) ∧ Hid (litAt zs 0 = rl 34 zs i out) ∧ Below w.heap.size w wr) (fun _ a _ => n - (intOf a).toNat)
    case atStart => exact ⟨1, 0, 0, none, [], by omega, by omega, by omega, rfl, rfl, rfl, World.ownsRow_nil _ _ _ _, HA, Below.refl _ _⟩
    case round =>
      obtain ⟨i, m, c, ao, out, hi0, hi1, hmi, rfl, rfl, HO, hown, HR, hbel⟩ := hrel
      by_cases hlt : i < n
      · have hci : wr.cell? ⟨b, off + i, none⟩ = some (.int .u8 (zs.getD i 0)) := (hbel.cell (p := ⟨b, off + i, none⟩) hbw).trans (HC.out i (by rw [HL.out]; exact hlt))
        have hcq : wr.cell? ⟨b, off, none⟩ = some (.int .u8 34) := (hbel.cell (p := ⟨b, off, none⟩) hbw).trans hc0
        obtain ⟨z, hz⟩ : ∃ z, z = zs.getD i 0 := ⟨_, rfl⟩
        have bz := HB.out i
        rw [← hz] at hci bz
        have HZ : Hid (zs.getD i 0 = z) := hz.symm
        have HI : Hid (i < zs.length) := by show _ < _; rw [HL.out]; exact hlt
        have i1 : (i : Int) < (n : Int) := by omega
        have i2 : (0 : Int) < (n : Int) := by omega
        clear hz
        by_cases hzq : z = 34
        · subst hzq
          have HE : Hid (litAt zs 0 = some (out, i + 1)) := by show _ = _; rw [HR.out, rl_close HI.out HZ.out]
          go_wp2
          go_quiet (fail)
          go_wp2
          go_ret2
          refine ⟨below_drewN hbel _, .inr ⟨out, i + 1, ao, c, HE.out, by rw [HO.out]; simp, ?_⟩⟩
          unfold OwnT
          rw [HO.out]
          exact own_heap hown (same_drewN _ _)
        · have hzf : (z == 34) = false := by simpa using hzq
          have HQ : Hid (¬ zs.getD i 0 = 34) := by show ¬ _; rw [HZ.out]; exact hzq
          have hcd : ∀ w' : World, (∀ a : Addr, a.block < w.heap.size → w'.cell? a = wr.cell? a) → ∀ j, j < n - i → w'.cell? ⟨b, off + i + j, none⟩ = some (.int .u8 ((zs.drop i).getD j 0)) := by
            intro w' hw' j hj
            rw [hw' ⟨b, off + i + j, none⟩ hbw, getD_drop, Nat.add_assoc]
            exact (hbel.cell (p := ⟨b, off + (i + j), none⟩) hbw).trans (HC.out (i + j) (by rw [HL.out]; omega))
          have C := fun nq => readChar_any b (off + i) (n - i) (cap - i) (zs.drop i) (wr.drewN nq) (by rw [List.length_drop, HL.out]) (by omega) (by omega) (HB.out.drop i) (hcd _ fun _ _ => rfl)
          have hRR : rcI (zs.drop i) 0 = rcI zs i := by unfold rcI; rw [rc_drop zs i HI.out]
          simp only [hRR] at C
          clear hcd hRR hzq
          cases hrc : rc zs i with
          | none =>
            simp only [rcI_none hrc] at C
            have HE : Hid (litAt zs 0 = none) := by show _ = _; rw [HR.out, rl_bad HI.out HQ.out hrc]
            clear hrc
            go_wp2
            go_quiet (fail)
            go_wp2_with (go_at_call 54; refine (C _).mono ?_; rintro x w' ⟨rfl, hb'⟩)
            go_ret2
            exact ⟨hbel.trans ((below_drewN (Below.refl _ _) _).trans (hb'.mono hbel.size)), .inl ⟨HE.out, rfl⟩⟩
          | some p =>
            obtain ⟨d, s⟩ := p
            simp only [rcI_some hrc] at C
            have hf := rc_fits HB.out HI.out hrc
            have HE : Hid (litAt zs 0 = rl 34 zs (i + s) (out ++ [d])) := by show _ = _; rw [HR.out, rl_step HI.out HQ.out hrc (by omega)]
            have hs1 : 1 ≤ s := by omega
            have hs2 : i + s ≤ n := by rw [HL.out] at hf; omega
            have hsz : ((s : Int) == 0) = false := by simp; omega
            have HD : Hid (0 ≤ d ∧ d ≤ 255) := ⟨hf.1, hf.2.1⟩
            have hBs := hbel.size
            clear hrc hf
            go_wp2
            go_quiet (fail)
            go_wp2_with fail
            refine (C _).mono ?_
            rintro x w' ⟨rfl, hb'⟩
            have hb2 : Below wr.heap.size wr w' := (below_drewN (Below.refl _ _) _).trans hb'
            have hs2' := hb2.size
            have hown2 : w'.ownsRow w.heap.size 5 1 (.slice ao m c) m (bcells out) := by
              rcases ao with _ | ⟨g, o, sp⟩
              · rcases hown.2 with ⟨e, e2⟩ | ⟨g', c', cur, e, _⟩
                · exact ⟨hown.1, .inl ⟨e, e2⟩⟩
                · simp at e
              · rcases hown.2 with ⟨e, e2⟩ | ⟨g', c', cur, e, _⟩
                · simp at e
                · simp only [Value.slice.injEq, Option.some.injEq, Addr.mk.injEq, true_and] at e
                  obtain ⟨⟨rfl, rfl, rfl⟩, rfl⟩ := e
                  exact own_below hown hb2 (hown.lt g rfl).2
            have hgB : ∀ k, (Value.slice ao m c).ownBlock = some k → w.heap.size ≤ k := fun k hk => (hown.lt k hk).1
            have HBel : Hid (Below w.heap.size w w') := hbel.trans (hb2.mono hbel.size)
            clear C hb' hown hci hcq
            go_wp2_with (at_builtin; refine wpList_append_lies _ rfl _ _ _ rfl w.heap.size 5 i0 (.int .u8 0) 1 1 Try.underlying25 hi hz0 hz1 hz2 rfl (by omega) _ m (bcells out) rfl (hown2.alloc _) ⟨w'.heap.size, 0, none⟩ 1 1 [.int .u8 d] rfl rfl (World.news_of_block (cs := #[.int .u8 d]) (t := 5) (fr := (0, 0)) (heap_alloc_new w' _)) (by simp [Value.oneCell']) (by omega) (by unfold maxLen; omega) (by omega) (by simp; omega) (w'.heap.size + 1) (by simp) ?_; intro g' cap' w1 hown1 hgrow hat hlt2)
            go_roundw
            case rel => exact ⟨i + s, m + 1, cap', some ⟨g', 0, none⟩, out ++ [d], by omega, by omega, by omega, by go_num, rfl, by show _ = _; rw [List.length_append, HO.out]; rfl, own_push HO.out hown1, HE, (HBel.out.alloc (by omega) _).grown hgrow (by simp; omega) hgB⟩
            case measure => simp [intOf]; omega
      · have HE : Hid (litAt zs 0 = none) := by show _ = _; rw [HR.out, rl_end (by rw [HL.out]; exact hlt)]
        go_wp2
        go_ret2
        exact ⟨hbel, .inl ⟨HE.out, rfl⟩⟩
  · skip
    go_enter Try.func33, Try.ntmps33
    go_wp2
    go_loopw [4, 5] (fun v a wr => ∃ (i m c : Nat) (ao : Option Addr) (out : List Int), i ≤ n ∧ 1 ≤ i ∧ m < i ∧ a = .int .i64 i ∧ v = .slice ao m c ∧ Hid (out.length = m) ∧ wr.ownsRow w.heap.size 5 1 (.slice ao m c) m (bcells out) ∧ Hid (litAt zs 0 = rl 39 zs i out) ∧ Below w.heap.size w wr) (fun _ a _ => n - (intOf a).toNat)
    case atStart => exact ⟨1, 0, 0, none, [], by omega, by omega, by omega, rfl, rfl, rfl, World.ownsRow_nil _ _ _ _, HA, Below.refl _ _⟩
    case round =>
      obtain ⟨i, m, c, ao, out, hi0, hi1, hmi, rfl, rfl, HO, hown, HR, hbel⟩ := hrel
      by_cases hlt : i < n
      · have hci : wr.cell? ⟨b, off + i, none⟩ = some (.int .u8 (zs.getD i 0)) := (hbel.cell (p := ⟨b, off + i, none⟩) hbw).trans (HC.out i (by rw [HL.out]; exact hlt))
        have hcq : wr.cell? ⟨b, off, none⟩ = some (.int .u8 39) := (hbel.cell (p := ⟨b, off, none⟩) hbw).trans hc0
        obtain ⟨z, hz⟩ : ∃ z, z = zs.getD i 0 := ⟨_, rfl⟩
        have bz := HB.out i
        rw [← hz] at hci bz
        have HZ : Hid (zs.getD i 0 = z) := hz.symm
        have HI : Hid (i < zs.length) := by show _ < _; rw [HL.out]; exact hlt
        have i1 : (i : Int) < (n : Int) := by omega
        have i2 : (0 : Int) < (n : Int) := by omega
        clear hz
        by_cases hzq : z = 39
        · subst hzq
          have HE : Hid (litAt zs 0 = some (out, i + 1)) := by show _ = _; rw [HR.out, rl_close HI.out HZ.out]
          go_wp2
          go_quiet (fail)
          go_wp2
          go_ret2
          refine ⟨below_drewN hbel _, .inr ⟨out, i + 1, ao, c, HE.out, by rw [HO.out]; simp, ?_⟩⟩
          unfold OwnT
          rw [HO.out]
          exact own_heap hown (same_drewN _ _)
        · have hzf : (z == 39) = false := by simpa using hzq
          have HQ : Hid (¬ zs.getD i 0 = 39) := by show ¬ _; rw [HZ.out]; exact hzq
          have hcd : ∀ w' : World, (∀ a : Addr, a.block < w.heap.size → w'.cell? a = wr.cell? a) → ∀ j, j < n - i → w'.cell? ⟨b, off + i + j, none⟩ = some (.int .u8 ((zs.drop i).getD j 0)) := by
            intro w' hw' j hj
            rw [hw' ⟨b, off + i + j, none⟩ hbw, getD_drop, Nat.add_assoc]
            exact (hbel.cell (p := ⟨b, off + (i + j), none⟩) hbw).trans (HC.out (i + j) (by rw [HL.out]; omega))
          have C := fun nq => readChar_any b (off + i) (n - i) (cap - i) (zs.drop i) (wr.drewN nq) (by rw [List.length_drop, HL.out]) (by omega) (by omega) (HB.out.drop i) (hcd _ fun _ _ => rfl)
          have hRR : rcI (zs.drop i) 0 = rcI zs i := by unfold rcI; rw [rc_drop zs i HI.out]
          simp only [hRR] at C
          clear hcd hRR hzq
          cases hrc : rc zs i with
          | none =>
            simp only [rcI_none hrc] at C
            have HE : Hid (litAt zs 0 = none) := by show _ = _; rw [HR.out, rl_bad HI.out HQ.out hrc]
            clear hrc
            go_wp2
            go_quiet (fail)
            go_wp2_with (go_at_call 54; refine (C _).mono ?_; rintro x w' ⟨rfl, hb'⟩)
            go_ret2
            exact ⟨hbel.trans ((below_drewN (Below.refl _ _) _).trans (hb'.mono hbel.size)), .inl ⟨HE.out, rfl⟩⟩
          | some p =>
            obtain ⟨d, s⟩ := p
            simp only [rcI_some hrc] at C
            have hf := rc_fits HB.out HI.out hrc
            have HE : Hid (litAt zs 0 = rl 39 zs (i + s) (out ++ [d])) := by show _ = _; rw [HR.out, rl_step HI.out HQ.out hrc (by omega)]
            have hs1 : 1 ≤ s := by omega
            have hs2 : i + s ≤ n := by rw [HL.out] at hf; omega
            have hsz : ((s : Int) == 0) = false := by simp; omega
            have HD : Hid (0 ≤ d ∧ d ≤ 255) := ⟨hf.1, hf.2.1⟩
            have hBs := hbel.size
            clear hrc hf
            go_wp2
            go_quiet (fail)
            go_wp2_with fail
            refine (C _).mono ?_
            rintro x w' ⟨rfl, hb'⟩
            have hb2 : Below wr.heap.size wr w' := (below_drewN (Below.refl _ _) _).trans hb'
            have hs2' := hb2.size
            have hown2 : w'.ownsRow w.heap.size 5 1 (.slice ao m c) m (bcells out) := by
              rcases ao with _ | ⟨g, o, sp⟩
              · rcases hown.2 with ⟨e, e2⟩ | ⟨g', c', cur, e, _⟩
                · exact ⟨hown.1, .inl ⟨e, e2⟩⟩
                · simp at e
              · rcases hown.2 with ⟨e, e2⟩ | ⟨g', c', cur, e, _⟩
                · simp at e
                · simp only [Value.slice.injEq, Option.some.injEq, Addr.mk.injEq, true_and] at e
                  obtain ⟨⟨rfl, rfl, rfl⟩, rfl⟩ := e
                  exact own_below hown hb2 (hown.lt g rfl).2
            have hgB : ∀ k, (Value.slice ao m c).ownBlock = some k → w.heap.size ≤ k := fun k hk => (hown.lt k hk).1
            have HBel : Hid (Below w.heap.size w w') := hbel.trans (hb2.mono hbel.size)
            clear C hb' hown hci hcq
            go_wp2_with (at_builtin; refine wpList_append_lies _ rfl _ _ _ rfl w.heap.size 5 i0 (.int .u8 0) 1 1 Try.underlying25 hi hz0 hz1 hz2 rfl (by omega) _ m (bcells out) rfl (hown2.alloc _) ⟨w'.heap.size, 0, none⟩ 1 1 [.int .u8 d] rfl rfl (World.news_of_block (cs := #[.int .u8 d]) (t := 5) (fr := (0, 0)) (heap_alloc_new w' _)) (by simp [Value.oneCell']) (by omega) (by unfold maxLen; omega) (by omega) (by simp; omega) (w'.heap.size + 1) (by simp) ?_; intro g' cap' w1 hown1 hgrow hat hlt2)
            go_roundw
            case rel => exact ⟨i + s, m + 1, cap', some ⟨g', 0, none⟩, out ++ [d], by omega, by omega, by omega, by go_num, rfl, by show _ = _; rw [List.length_append, HO.out]; rfl, own_push HO.out hown1, HE, (HBel.out.alloc (by omega) _).grown hgrow (by simp; omega) hgB⟩
            case measure => simp [intOf]; omega
      · have HE : Hid (litAt zs 0 = none) := by show _ = _; rw [HR.out, rl_end (by rw [HL.out]; exact hlt)]
        go_wp2
        go_ret2
        exact ⟨hbel, .inl ⟨HE.out, rfl⟩⟩
end Go.Proofs.Ytdffdkaligkkbaa.lit
