import Derived.Test.YtccnjmnafkfjdaaGreatVtGoodB
import Derived.Test.YtccnjmnafkfjdaaGreatVtGoodC
import Derived.Test.YtccnjmnafkfjdaaGreatVtGoodD
namespace Go.Proofs.YtccnjmnafkfjdaaGreat.vt
open Go.RowKit Go.Proofs.YtccnjmnafkfjdaaGreat.bts Go.Proofs.YtccnjmnafkfjdaaGreat.nod Go.Proofs.YtccnjmnafkfjdaaGreat.lex

theorem l3good_any (b off n cap : Nat) (l : List Nd) (hl : l.length = n) (hn : n ≤ 6000) (hsz : sizeNS l ≤ 1048576) : ∀ (d : Nat), d ≤ 200 → ∀ (i : Nat) (lp : Bool) (w : World), RdN w (some ⟨b, off, none⟩) l → (∃ e, endAt l d i = some e) →
    Calls Tryz.prog 11 #[.slice (some ⟨b, off, none⟩) n cap, .int .i64 i, .bool lp] w fun r w' => r = .returned (.bool (good l d i lp)) ∧ Below w.heap.size w w' := by
  intro d
  induction d with
  | zero => rintro _ i lp w _ ⟨e, he⟩; cases he
  | succ d ih =>
    rintro hd i lp w hr ⟨e, hE⟩
    obtain ⟨⟨hin, hct0, hct1⟩, _⟩ := endAt_step hE
    have hs := node_size hsz hin
    obtain ⟨b', off', ut, un, e1, c0, c1, c2, c3, c4, ht, hnm⟩ := hr i hin
    simp only [Option.some.injEq, Addr.mk.injEq, and_true] at e1
    obtain ⟨rfl, rfl⟩ := e1
    have IH : Hid (∀ (x : Nat) (lp : Bool) (W : World), RdN W (some ⟨b, off, none⟩) l → (∃ e, endAt l d x = some e) → Calls Tryz.prog 11 #[.slice (some ⟨b, off, none⟩) n cap, .int .i64 x, .bool lp] W fun r w' => r = .returned (.bool (good l d x lp)) ∧ Below W.heap.size W w') :=
      fun x lp W h1 h2 => ih (by omega) x lp W h1 h2
    rw [good]
    have hcn : cnt l i = (l.getD i nd0).count := rfl
    have hkn : knd l i = (l.getD i nd0).kind := rfl
    rw [hkn]
    rw [hcn] at hct0 hct1 ⊢
    rw [hl] at hin hct1
    have ht2 := ht
    have hn2 := hnm
    obtain ⟨at_, ca, rfl, _, _, _⟩ := ht2
    obtain ⟨an, cn, rfl, _, _⟩ := hn2
    have CS : Hid (∀ W, Calls Tryz.prog 17 #[.agg #[.int .i64 (l.getD i nd0).kind, .int .i64 (l.getD i nd0).n, .slice at_ (l.getD i nd0).text.length ca, .slice an (l.getD i nd0).names.length cn, .int .i64 (l.getD i nd0).count]] W fun x w' => x = .returned (.string (shape (l.getD i nd0).kind (l.getD i nd0).n (l.getD i nd0).count)) ∧ Below W.heap.size W w') := fun W => l3shape_any _ _ _ _ _ W (by omega) (by omega)
    have CF : Hid (∀ W, Below w.heap.size w W → Calls Tryz.prog 18 #[.agg #[.int .i64 (l.getD i nd0).kind, .int .i64 (l.getD i nd0).n, .slice at_ (l.getD i nd0).text.length ca, .slice an (l.getD i nd0).names.length cn, .int .i64 (l.getD i nd0).count]] W fun e w' => e = .returned (.bool (fieldsB (l.getD i nd0).kind (l.getD i nd0).n (l.getD i nd0).text (l.getD i nd0).names)) ∧ Below W.heap.size W w') := fun W hW => l3fields_any _ _ _ _ _ _ _ W (ht.below hW) (hnm.below hW) hs
    clear ht hnm hs hkn
    generalize hdd : l.getD i nd0 = dd at c0 c1 c2 c3 c4 CS CF hct0 hct1 hcn ⊢
    obtain ⟨kd, nn, tx, nms, ct⟩ := dd
    simp only at c0 c1 c2 c3 c4 CS CF hct0 hct1 hcn ⊢
    clear hdd
    have hct6 : ct ≤ 6000 := by omega
    by_cases h0 : kd < 0
    · rw [show headOk kd nn tx nms ct lp = false by unfold headOk; rw [decide_eq_false (show ¬ 0 ≤ kd by omega)]; rfl]
      exact bad_neg n cap b off i _ ca _ cn at_ an kd nn ct lp w hin hn hct0 hct6 c0 c1 c2 c3 c4 CS h0
    have h0' : 0 ≤ kd := by omega
    by_cases h26 : 26 < kd
    · rw [show headOk kd nn tx nms ct lp = false by unfold headOk; rw [decide_eq_false (show ¬ kd ≤ 26 by omega)]; simp]
      exact bad_big n cap b off i _ ca _ cn at_ an kd nn ct lp w hin hn hct0 hct6 c0 c1 c2 c3 c4 CS h26
    have h26' : kd ≤ 26 := by omega
    cases hf : fieldsB kd nn tx nms with
    | false =>
      rw [show headOk kd nn tx nms ct lp = false by unfold headOk; rw [hf]; simp]
      exact bad_fields n cap b off i _ ca _ cn at_ an kd nn ct lp tx nms w hin hn hct0 hct6 c0 c1 c2 c3 c4 CS CF h0' h26' hf
    | true =>
      by_cases hsz2 : ((shape kd nn ct).size : Int) = ct
      · cases hq : ((shape kd nn ct).toList == [63]) with
        | true =>
          rw [show headOk kd nn tx nms ct lp = false by unfold headOk; rw [hq]; simp]
          exact bad_shape n cap b off i _ ca _ cn at_ an kd nn ct lp tx nms w hin hn hct0 hct6 c0 c1 c2 c3 c4 CS CF h0' h26' hf hsz2 hq
        | false =>
          have hH : headOk kd nn tx nms ct lp = (!(kd == 8) || lp) := by unfold headOk; rw [hf, hq, decide_eq_true h0', decide_eq_true h26', decide_eq_true hsz2]; rfl
          rw [hH]
          by_cases k8 : kd = 8
          · subst k8
            cases lp with
            | false => exact bad_break n cap b off i _ ca _ cn at_ an nn ct false tx nms w hin hn hct0 hct6 c0 c1 c2 c3 c4 CS CF rfl hf hsz2 hq
            | true => exact good8 n cap b off i _ ca _ cn at_ an nn ct true tx nms w hin hn hct0 hct6 c0 c1 c2 c3 c4 CS CF rfl hf hsz2 hq l d e hl hr hE hd hcn IH
          rw [show (!(kd == 8) || lp) = true by simp [k8], Bool.true_and]
          by_cases k4 : kd = 4
          · subst k4; exact good4 n cap b off i _ ca _ cn at_ an nn ct lp tx nms w hin hn hct0 hct6 c0 c1 c2 c3 c4 CS CF hf hsz2 hq l d e hl hr hE hd hcn IH
          by_cases k5 : kd = 5
          · subst k5; exact good5 n cap b off i _ ca _ cn at_ an nn ct lp tx nms w hin hn hct0 hct6 c0 c1 c2 c3 c4 CS CF hf hsz2 hq l d e hl hr hE hd hcn IH
          by_cases k7 : kd = 7
          · subst k7; exact good7 n cap b off i _ ca _ cn at_ an nn ct lp tx nms w hin hn hct0 hct6 c0 c1 c2 c3 c4 CS CF hf hsz2 hq l d e hl hr hE hd hcn IH
          by_cases k19 : kd = 19
          · subst k19; exact good19 n cap b off i _ ca _ cn at_ an nn ct lp tx nms w hin hn hct0 hct6 c0 c1 c2 c3 c4 CS CF hf hsz2 hq l d e hl hr hE hd hcn IH
          have hinn : innerOf kd lp = lp := by unfold innerOf; rw [if_neg (by omega), if_neg k19]
          rw [hinn]
          by_cases k0 : kd = 0
          · subst k0; exact good0 n cap b off i _ ca _ cn at_ an nn ct lp tx nms w hin hn hct0 hct6 c0 c1 c2 c3 c4 CS CF hf hsz2 hq l d e hl hr hE hd hcn IH
          rw [show (kd == 0) = false by simp; exact k0]
          exact goodX n cap b off i _ ca _ cn at_ an kd nn ct lp tx nms w hin hn hct0 hct6 c0 c1 c2 c3 c4 CS CF h0' h26' k8 k4 k5 k7 k19 k0 hf hsz2 hq l d e hl hr hE hd hcn IH
      · rw [show headOk kd nn tx nms ct lp = false by unfold headOk; rw [decide_eq_false hsz2]; simp]
        exact bad_size n cap b off i _ ca _ cn at_ an kd nn ct lp tx nms w hin hn hct0 hct6 c0 c1 c2 c3 c4 CS CF h0' h26' hf hsz2

/-- The list is a valid tree. -/
def valid (l : List Nd) : Bool := decide (1 ≤ l.length) && (decide (l.length ≤ 6000) && ((knd l 0 == 0) && (decide (endAt l 200 0 = some l.length) && good l 200 0 false)))

set_option maxRecDepth 100000 in
set_option maxHeartbeats 2000000 in
theorem specValid_any (ao : Option Addr) (n cap : Nat) (l : List Nd) (w : World) (hl : l.length = n) (hr : RdN w ao l) (hsz : sizeNS l ≤ 1048576) :
    Calls Tryz.prog 5 #[.slice ao n cap] w fun r w' => r = .returned (.bool (valid l)) ∧ Below w.heap.size w w' := by
  have hnb : n ≤ 1048576 := by unfold sizeNS at hsz; omega
  by_cases h1 : 1 ≤ n
  · by_cases h2 : n ≤ 6000
    · obtain ⟨b, off, _, _, rfl, c0, _⟩ := hr 0 (by omega)
      have hk : (l.getD 0 nd0).kind = knd l 0 := rfl
      rw [hk] at c0
      simp only [Nat.zero_mul, Nat.add_zero] at c0
      clear hk
      have d1 : decide ((n : Int) < 1) = false := by simp; omega
      have d2 : decide ((6000 : Int) < (n : Int)) = false := by simp; omega
      by_cases h3 : knd l 0 = 0
      · rw [h3] at c0
        have CE := l3end_any (some ⟨b, off, none⟩) n cap l w hl hr h2 200 0 (by omega) (by omega)
        by_cases h4 : endAt l 200 0 = some n
        · have CG := l3good_any b off n cap l hl h2 hsz 200 (by omega) 0 false w hr ⟨_, h4⟩
          have HV : Hid (valid l = good l 200 0 false) := by show _ = _; unfold valid; rw [hl, decide_eq_true h1, decide_eq_true h2, h3, decide_eq_true h4]; rfl
          rw [h4] at CE
          generalize good l 200 0 false = gd at CG HV
          clear hr hl hsz h3 h4
          unfold endI at CE
          go_enter Tryz.func5, Tryz.ntmps5
          go_wp2_with fail
          refine CE.mono ?_
          rintro r w' ⟨rfl, hw⟩
          replace hw := hw.symm
          subst hw
          clear CE
          go_wp2_with fail
          refine CG.mono ?_
          rintro r w1 ⟨rfl, hb1⟩
          clear CG
          go_wp2_with fail
          go_ret
          exact ⟨ret_bool (by rw [HV.out]), hb1⟩
        · have HV : Hid (valid l = false) := by show _ = _; unfold valid; rw [hl, decide_eq_false h4]; simp
          have hne : (endI (endAt l 200 0) == (n : Int)) = false := by
            cases hE : endAt l 200 0 with
            | none => simp [endI]
            | some m =>
              have : ¬ m = n := fun e => h4 (by rw [hE, e])
              simp [endI]; omega
          generalize endI (endAt l 200 0) = z at CE hne
          clear hr hl hsz h3 h4
          go_enter Tryz.func5, Tryz.ntmps5
          go_wp2_with fail
          refine CE.mono ?_
          rintro r w' ⟨rfl, hw⟩
          replace hw := hw.symm
          subst hw
          clear CE
          go_wp2_with fail
          go_ret
          exact ⟨ret_bool (by rw [HV.out]), Below.refl _ _⟩
      · have HV : Hid (valid l = false) := by show _ = _; unfold valid; rw [show (knd l 0 == 0) = false by simp; exact h3]; simp
        have hne : (knd l 0 != 0) = true := bne_iff_ne.mpr h3
        generalize knd l 0 = kz at c0 hne h3
        clear hr hl hsz
        go_enter Tryz.func5, Tryz.ntmps5
        go_wp2_with fail
        go_ret
        exact ⟨ret_bool (by rw [HV.out]), Below.refl _ _⟩
    · have HV : Hid (valid l = false) := by show _ = _; unfold valid; rw [hl, decide_eq_false h2]; simp
      have d1 : decide ((n : Int) < 1) = false := by simp; omega
      have d2 : decide ((6000 : Int) < (n : Int)) = true := by simp; omega
      clear hr hl hsz
      go_enter Tryz.func5, Tryz.ntmps5
      go_wp2_with fail
      go_ret
      exact ⟨ret_bool (by rw [HV.out]), Below.refl _ _⟩
  · have HV : Hid (valid l = false) := by show _ = _; unfold valid; rw [hl, decide_eq_false h1]; rfl
    have hn0 : n = 0 := by omega
    subst hn0
    clear hr hl hsz
    go_enter Tryz.func5, Tryz.ntmps5
    go_wp2_with fail
    go_ret
    exact ⟨ret_bool (by rw [HV.out]), Below.refl _ _⟩
end Go.Proofs.YtccnjmnafkfjdaaGreat.vt
