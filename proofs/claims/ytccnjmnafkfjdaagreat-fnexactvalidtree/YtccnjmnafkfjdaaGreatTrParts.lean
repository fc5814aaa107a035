import Derived.Test.YtccnjmnafkfjdaaGreatTrName
namespace Go.Proofs.YtccnjmnafkfjdaaGreat.vt
open Go.RowKit Go.Proofs.YtccnjmnafkfjdaaGreat.bts Go.Proofs.YtccnjmnafkfjdaaGreat.nod Go.Proofs.YtccnjmnafkfjdaaGreat.lex

theorem name_size {l : List (List Int)} {i : Nat} (h : i < l.length) (hs : sizeSS l ≤ 1048576) : (l.getD i []).length ≤ 1048576 := by
  have h1 := lens_succ (l := l) (k := i) h
  have h2 := lens_le l (l.length - (i + 1)) (i + 1) (by omega)
  unfold sizeSS at hs
  omega
theorem named_no {nn : Int} {tx : List Int} {nms : List (List Int)} {lo hi : Nat} (h : ¬ (nn = 0 ∧ tx.length = 0 ∧ lo ≤ nms.length ∧ nms.length ≤ hi)) : named nn tx nms lo hi = false := by
  rw [Bool.eq_false_iff]
  intro hc
  unfold named at hc
  simp only [Bool.and_eq_true, decide_eq_true_eq, beq_iff_eq] at hc
  exact h ⟨hc.1, hc.2.1, hc.2.2.1, hc.2.2.2.1⟩
theorem named_name {nn : Int} {tx : List Int} {nms : List (List Int)} {lo hi k : Nat} (hk : k < nms.length) (h : isName (nms.getD k []) = false) : named nn tx nms lo hi = false := by
  have : nms.all isName = false := by
    rw [Bool.eq_false_iff]
    intro ha
    rw [List.all_eq_true] at ha
    have e : nms.getD k [] = nms[k] := by simp [List.getD_eq_getElem?_getD, List.getElem?_eq_getElem hk]
    rw [e, ha _ (List.getElem_mem hk)] at h
    cases h
  unfold named; rw [this]; simp
theorem named_yes {nn : Int} {tx : List Int} {nms : List (List Int)} {lo hi : Nat} (h : nn = 0 ∧ tx.length = 0 ∧ lo ≤ nms.length ∧ nms.length ≤ hi) (hn : ∀ j, j < nms.length → isName (nms.getD j []) = true) : named nn tx nms lo hi = true := by
  have : nms.all isName = true := by
    rw [List.all_eq_true]
    intro x hx
    obtain ⟨k, hk, rfl⟩ := List.getElem_of_mem hx
    have := hn k hk
    have e : nms.getD k [] = nms[k] := by simp [List.getD_eq_getElem?_getD, List.getElem?_eq_getElem hk]
    rwa [e] at this
  unfold named
  rw [this, decide_eq_true h.2.1, decide_eq_true h.2.2.1, decide_eq_true h.2.2.2, h.1]; rfl

set_option maxRecDepth 100000 in
set_option maxHeartbeats 4000000 in
theorem named_any (g : Nat) (d : Nd) (ao : Option Addr) (m cap : Nat) (at_ an : Option Addr) (ca cn lo hi : Nat) (w : World) (N : Node6 w g d ao m cap at_ an ca cn) (hm : RcVV w (.slice an d.names.length cn) d.names) (hsz : d.text.length + sizeSS d.names ≤ 1048576) (_hlo : lo ≤ 60) (_hhi : hi ≤ 60) :
    Calls Tryz.prog 68 #[.pointer (some ⟨g, 0, none⟩), .int .i64 lo, .int .i64 hi] w fun e w' => e = .returned (.bool (named d.n d.text d.names lo hi)) ∧ w' = w := by
  obtain ⟨c0, c1, c2, c3, c4, c5⟩ := N
  have hq : sizeSS d.names ≤ 1048576 := by omega
  have hqn : d.names.length ≤ 1048576 := by unfold sizeSS at hq; omega
  by_cases h1 : ¬ (d.n = 0)
  · have HN : Hid (named d.n d.text d.names lo hi = false) := named_no (fun h => h1 h.1)
    have e1 : (d.n != 0) = true := bne_iff_ne.mpr h1
    generalize named d.n d.text d.names lo hi = rr at HN ⊢
    generalize d.n = nn at *
    clear hm hsz
    go_enter Tryz.func68, Tryz.ntmps68
    go_wp2_with fail
    go_ret
    exact ⟨ret_bool HN.out.symm, rfl⟩
  replace h1 : d.n = 0 := Decidable.of_not_not h1
  by_cases h2 : ¬ (d.text.length = 0)
  · have HN : Hid (named d.n d.text d.names lo hi = false) := named_no (fun h => h2 h.2.1)
    have e2 : 0 < d.text.length := by omega
    have e3 : decide ((0 : Int) < (d.text.length : Int)) = true := by simp; omega
    generalize named d.n d.text d.names lo hi = rr at HN ⊢
    rw [h1] at c1
    generalize d.text.length = pp at *
    clear hm hsz h1
    go_enter Tryz.func68, Tryz.ntmps68
    go_wp2_with fail
    go_ret
    exact ⟨ret_bool HN.out.symm, rfl⟩
  replace h2 : d.text.length = 0 := Decidable.of_not_not h2
  by_cases h3 : ¬ (lo ≤ d.names.length)
  · have HN : Hid (named d.n d.text d.names lo hi = false) := named_no (fun h => h3 h.2.2.1)
    have e2 : decide (d.names.length < lo) = true := by simp; omega
    have e3 : decide ((d.names.length : Int) < (lo : Int)) = true := by simp; omega
    generalize named d.n d.text d.names lo hi = rr at HN ⊢
    rw [h1] at c1
    rw [h2] at c2
    generalize d.names.length = pp at *
    clear hm hsz h1 h2 h3
    go_enter Tryz.func68, Tryz.ntmps68
    go_wp2_with fail
    go_ret
    exact ⟨ret_bool HN.out.symm, rfl⟩
  replace h3 : lo ≤ d.names.length := Decidable.of_not_not h3
  by_cases h4 : ¬ (d.names.length ≤ hi)
  · have HN : Hid (named d.n d.text d.names lo hi = false) := named_no (fun h => h4 h.2.2.2)
    have e2 : decide (d.names.length < lo) = false := by simp; omega
    have e3 : decide ((d.names.length : Int) < (lo : Int)) = false := by simp; omega
    have e4 : decide (hi < d.names.length) = true := by simp; omega
    have e5 : decide ((hi : Int) < (d.names.length : Int)) = true := by simp; omega
    generalize named d.n d.text d.names lo hi = rr at HN ⊢
    rw [h1] at c1
    rw [h2] at c2
    generalize d.names.length = pp at *
    clear hm hsz h1 h2 h3 h4
    go_enter Tryz.func68, Tryz.ntmps68
    go_wp2_with fail
    go_ret
    exact ⟨ret_bool HN.out.symm, rfl⟩
  replace h4 : d.names.length ≤ hi := Decidable.of_not_not h4
  have e2 : decide (d.names.length < lo) = false := by simp; omega
  have e3 : decide ((d.names.length : Int) < (lo : Int)) = false := by simp; omega
  have e4 : decide (hi < d.names.length) = false := by simp; omega
  have e5 : decide ((hi : Int) < (d.names.length : Int)) = false := by simp; omega
  have HOK : Hid (d.n = 0 ∧ d.text.length = 0 ∧ lo ≤ d.names.length ∧ d.names.length ≤ hi) := ⟨h1, h2, h3, h4⟩
  have HM : Hid (RcVV w (.slice an d.names.length cn) d.names) := hm
  have HQ : Hid (sizeSS d.names ≤ 1048576) := hq
  obtain ⟨rr, hrr⟩ : ∃ rr, rr = named d.n d.text d.names lo hi := ⟨_, rfl⟩
  rw [← hrr]
  have HRR : Hid (rr = named d.n d.text d.names lo hi) := hrr
  rw [h1] at c1
  rw [h2] at c2
  obtain ⟨q, hqq⟩ : ∃ q, q = d.names.length := ⟨_, rfl⟩
  have HQQ : Hid (q = d.names.length) := hqq
  rw [← hqq] at e2 e3 e4 e5 c3 hqn
  clear hm hsz h1 h2 h3 h4 hq hrr hqq
  go_enter Tryz.func68, Tryz.ntmps68
  go_wp2_with fail
  go_loopw [50] (fun x wr => ∃ (k : Nat), k ≤ q ∧ x = .int .i64 k ∧ Hid (∀ j, j < k → isName (d.names.getD j []) = true) ∧ wr = w) (fun x _ => q - (intOf x).toNat)
  case atStart => exact ⟨0, by omega, rfl, fun j hj => absurd hj (by omega), rfl⟩
  case round =>
    obtain ⟨k, hk, rfl, HA, rfl⟩ := hrel
    by_cases hkq : k < q
    · obtain ⟨ao2, cap2, eq2, _, _, hx⟩ := HM.out
      simp only [Value.slice.injEq] at eq2
      obtain ⟨rfl, _, rfl⟩ := eq2
      obtain ⟨b, off, u, eu, hcu, hru⟩ := hx k (by have := HQQ.out; omega)
      subst eu
      have CN := iName_any u (d.names.getD k []) wr hru (name_size (by have := HQQ.out; omega) HQ.out)
      obtain ⟨a3, c3', rfl, _⟩ := hru
      have HB : Hid (isName (d.names.getD k []) = isName (d.names.getD k [])) := rfl
      generalize hbb : isName (d.names.getD k []) = bb at CN
      generalize (d.names.getD k []).length = ln at *
      clear hx
      go_wp2_with fail
      refine CN.mono ?_
      rintro e w' ⟨rfl, hw⟩
      replace hw := hw.symm
      subst hw
      clear CN
      cases bb with
      | false =>
        go_wp2_with fail
        go_ret
        refine ⟨ret_bool ?_, rfl⟩
        rw [HRR.out, named_name (by have := HQQ.out; omega) hbb]
      | true =>
        go_wp2_with fail
        go_roundw
        case rel =>
          refine ⟨k + 1, by omega, by go_num, fun j hj => ?_, trivial⟩
          by_cases hjk : j < k
          · exact HA.out j hjk
          · have : j = k := by omega
            subst this
            exact hbb
        case measure => simp [intOf]; omega
    · have hkq2 : k = q := by omega
      subst hkq2
      go_wp2_with fail
      go_ret
      refine ⟨ret_bool ?_, rfl⟩
      rw [HRR.out, named_yes HOK.out (fun j hj => HA.out j (by have := HQQ.out; omega))]
end Go.Proofs.YtccnjmnafkfjdaaGreat.vt
