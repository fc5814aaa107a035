import Derived.Test.YtccnjmnafkfjdaaGreatTrPartsB
import Derived.Test.YtccnjmnafkfjdaaGreatTrIff
namespace Go.Proofs.YtccnjmnafkfjdaaGreat.vt
open Go.RowKit Go.Proofs.YtccnjmnafkfjdaaGreat.bts Go.Proofs.YtccnjmnafkfjdaaGreat.nod Go.Proofs.YtccnjmnafkfjdaaGreat.lex

theorem hd_no {rs : List Nat} {ks : List Int} (h : ¬ rs.length = ks.length) : holds rs ks = false := by
  rw [Bool.eq_false_iff]
  intro hc
  exact h (holds_iff.1 hc).1
theorem hd_at {rs : List Nat} {ks : List Int} {k : Nat} (hk : k < ks.length) (h : takes (rs.getD k 0) (ks.getD k 0) = false) : holds rs ks = false := by
  rw [Bool.eq_false_iff]
  intro hc
  rw [(holds_iff.1 hc).2 k hk] at h
  cases h
/-- The roles that a call hands over. -/
def RolesAt (w : World) (ra : Option Addr) (rs : List Nat) : Prop := ∀ k, k < rs.length → ∃ b off, ra = some ⟨b, off, none⟩ ∧ w.cell? ⟨b, off + k, none⟩ = some (.int .i64 (rs.getD k 0 : Nat)) ∧ rs.getD k 0 ≤ 5
theorem RolesAt.kept {w w' : World} {ra : Option Addr} {rs : List Nat} (h : RolesAt w ra rs) (hb : Below w.heap.size w w') : RolesAt w' ra rs := by
  intro k hk
  obtain ⟨b, off, e, hc, h5⟩ := h k hk
  exact ⟨b, off, e, (hb.cell (p := ⟨b, off + k, none⟩) (World.block_lt_of_cell? _ _ hc)).trans hc, h5⟩

set_option maxRecDepth 100000 in
set_option maxHeartbeats 4000000 in
theorem holds_any (g : Nat) (d : Nd) (ao : Option Addr) (cap : Nat) (at_ an : Option Addr) (ca cn : Nat) (w : World) (ts : List Int) (N : Node6 w g d ao ts.length cap at_ an ca cn) (h : RepS w (.slice ao ts.length cap) ts) (ra : Option Addr) (rs : List Nat) (hr : RolesAt w ra rs) (_hrs : rs.length ≤ 4) :
    Calls Tryz.prog 80 #[.pointer (some ⟨g, 0, none⟩), .slice ra rs.length rs.length] w fun e w' => e = .returned (.bool (holds rs ts)) ∧ Below w.heap.size w w' := by
  have HN : Hid (Node6 w g d ao ts.length cap at_ an ca cn) := N
  have HS : Hid (RepS w (.slice ao ts.length cap) ts) := h
  have HR : Hid (RolesAt w ra rs) := hr
  obtain ⟨c0, c1, c2, c3, c4, c5⟩ := N
  obtain ⟨ao', cap', _, h1, h2, h3, _⟩ := h
  obtain ⟨m, hm⟩ : ∃ m, m = ts.length := ⟨_, rfl⟩
  obtain ⟨n, hn⟩ : ∃ n, n = rs.length := ⟨_, rfl⟩
  rw [← hm] at h3 HN c5
  rw [← hn]
  by_cases hb : ¬ (m = n)
  · have HF : Hid (holds rs ts = false) := hd_no (by rw [← hm, ← hn]; exact fun e => hb e.symm)
    have e1 : ((m : Int) != (n : Int)) = true := by simp; omega
    generalize holds rs ts = rr at HF ⊢
    clear h1 h2 HS HR HN
    go_enter Tryz.func80, Tryz.ntmps80
    go_wp2_with fail
    go_ret
    exact ⟨ret_bool HF.out.symm, Below.refl _ _⟩
  replace hb : m = n := Decidable.of_not_not hb
  obtain ⟨rr, hrr⟩ : ∃ rr, rr = holds rs ts := ⟨_, rfl⟩
  rw [← hrr]
  have HRR : Hid (rr = holds rs ts) := hrr
  have HM : Hid (m = ts.length ∧ m = rs.length) := ⟨hm, by omega⟩
  rw [← hb]
  have e1 : ((m : Int) != (m : Int)) = false := by simp
  clear hrr hm hb hn h1 h2 hr c0 c1 c2 c3 c4
  go_enter Tryz.func80, Tryz.ntmps80
  go_wp2_with fail
  go_loopw [17] (fun x wr => ∃ (k : Nat), k ≤ m ∧ x = .int .i64 k ∧ Hid (∀ j, j < k → takes (rs.getD j 0) (ts.getD j 0) = true) ∧ Below w.heap.size w wr) (fun x _ => m - (intOf x).toNat)
  case atStart => exact ⟨0, by omega, rfl, fun j hj => absurd hj (by omega), Below.refl _ _⟩
  case round =>
    obtain ⟨k, hk, rfl, HA, hbel⟩ := hrel
    by_cases hkq : k < m
    · obtain ⟨ao2, cap2, eq2, _, _, _, hx⟩ := HS.out.kept hbel
      simp only [Value.slice.injEq] at eq2
      obtain ⟨rfl, hml, rfl⟩ := eq2
      clear hml
      obtain ⟨b, off, u, eu, hcu, D', t', hru, hkt⟩ := hx k (by have := HM.out; omega)
      subst eu
      obtain ⟨b2, off2, eu, hcr, h5⟩ := (HR.out.kept hbel) k (by have := HM.out; omega)
      subst eu
      have q5 := (HN.out.below hbel).c5
      have CN := takes_any (rs.getD k 0) h5 hru
      rw [hkt] at CN
      obtain ⟨bb, hbb⟩ : ∃ bb, bb = takes (rs.getD k 0) (ts.getD k 0) := ⟨_, rfl⟩
      rw [← hbb] at CN
      have HB : Hid (bb = takes (rs.getD k 0) (ts.getD k 0)) := hbb
      have HBel : Hid (Below w.heap.size w wr) := hbel
      obtain ⟨T, gg, rfl⟩ : ∃ T g, u = .iface T (.pointer (some ⟨g, 0, none⟩)) := by obtain ⟨g, _, _, _, _, _, _, e, _⟩ := hru.open; exact ⟨_, g, e⟩
      clear hbb hkt
      generalize rs.getD k 0 = rk at CN hcr
      have i1 : (k : Int) < (m : Int) := by omega
      clear hx hru hbel c5 h5
      go_wp2_with fail
      refine CN.mono ?_
      rintro e w' ⟨rfl, hw⟩
      clear CN
      have HB2 : Hid (Below w.heap.size w w') := HBel.out.trans (hw.mono HBel.out.size)
      clear hw
      cases bb with
      | false =>
        go_wp2_with fail
        go_ret
        refine ⟨ret_bool ?_, HB2.out⟩
        rw [HRR.out, hd_at (by have := HM.out; omega) HB.out.symm]
      | true =>
        go_wp2_with fail
        go_roundw
        case rel =>
          refine ⟨k + 1, by omega, by go_num, fun j hj => ?_, HB2.out⟩
          by_cases hjk : j < k
          · exact HA.out j hjk
          · have : j = k := by omega
            subst this
            exact HB.out.symm
        case measure => simp [intOf]; omega
    · have hkq2 : k = m := by omega
      subst hkq2
      go_wp2_with fail
      go_ret
      refine ⟨ret_bool ?_, hbel⟩
      rw [HRR.out, holds_iff.2 ⟨by have := HM.out; omega, fun j hj => HA.out j (by have := HM.out; omega)⟩]
end Go.Proofs.YtccnjmnafkfjdaaGreat.vt
