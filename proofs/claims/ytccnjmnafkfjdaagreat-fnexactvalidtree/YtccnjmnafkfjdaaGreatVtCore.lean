import Derived.Test.YtccnjmnafkfjdaaGreatVtValid
namespace Go.Proofs.YtccnjmnafkfjdaaGreat.vt
open Go.RowKit Go.Proofs.YtccnjmnafkfjdaaGreat.bts Go.Proofs.YtccnjmnafkfjdaaGreat.nod Go.Proofs.YtccnjmnafkfjdaaGreat.lex

set_option maxRecDepth 100000 in
set_option maxHeartbeats 2000000 in
theorem core_of (ao : Option Addr) (n cap : Nat) (l : List Nd) (w : World) (hl : l.length = n) (hm : n ≤ 9223372036854775807) (hr : RdN w ao l)
    (im0 : ∀ (g B : Nat) (w' : World), sizeNS l ≤ 1048576 → OwN w' B (.slice (some ⟨g, 0, none⟩) n n) l → Calls Tryz.prog 7 #[.slice (some ⟨g, 0, none⟩) n n] w' fun r w'' => r = .returned (.bool (valid l)) ∧ Below w'.heap.size w' w'') :
    Calls Tryz.prog 3 #[.slice ao n cap] w fun e w' => e = .returned (.bool true) ∧ Below w.heap.size w w' := by
  have CZ := szNodeS_any ao n cap l 1048576 w hl hm hr (by omega) (by omega)
  by_cases hs : sizeNS l ≤ 1048576
  · rw [szr_ok (by omega)] at CZ
    have hleft : decide ((1048576 : Int) - (sizeNS l : Int) < 0) = false := by simp; omega
    have OK : Hid (∀ i, i < l.length → NdOk (l.getD i nd0)) := hr.ok
    have TO : Hid (∀ W, Below w.heap.size w W → Calls Tryz.prog 6 #[.slice ao n cap] W fun e w' => e = .returned (.slice (some ⟨W.heap.size, 0, none⟩) n n) ∧ OwN w' W.heap.size (.slice (some ⟨W.heap.size, 0, none⟩) n n) l ∧ Below W.heap.size W w') :=
      fun W hW => toNodeS_any ao n cap l W hl (hr.below hW) hs
    have SP : Hid (∀ W g, RdN W (some ⟨g, 0, none⟩) l → Calls Tryz.prog 5 #[.slice (some ⟨g, 0, none⟩) n n] W fun r w' => r = .returned (.bool (valid l)) ∧ Below W.heap.size W w') :=
      fun W g hW => specValid_any (some ⟨g, 0, none⟩) n n l W hl hW hs
    have IM : Hid (∀ W g B, OwN W B (.slice (some ⟨g, 0, none⟩) n n) l → Calls Tryz.prog 7 #[.slice (some ⟨g, 0, none⟩) n n] W fun r w' => r = .returned (.bool (valid l)) ∧ Below W.heap.size W w') :=
      fun W g B hW => im0 g B W hs hW
    have EQ : Hid (∀ W a b, RdN W (some ⟨a, 0, none⟩) l → RdN W (some ⟨b, 0, none⟩) l → Calls Tryz.prog 8 #[.slice (some ⟨a, 0, none⟩) n n, .slice (some ⟨b, 0, none⟩) n n] W fun e w' => e = .returned (.bool true) ∧ Below W.heap.size W w') :=
      fun W a b h1 h2 => eqNodeS_same (some ⟨a, 0, none⟩) (some ⟨b, 0, none⟩) n n n l W hl h1 h2 hs
    generalize (1048576 : Int) - (sizeNS l : Int) = left at CZ hleft
    generalize valid l = vl at SP IM
    clear im0 hr hs hl
    go_enter Tryz.func3, Tryz.ntmps3
    go_wp2_with fail
    refine CZ.mono ?_
    rintro e w0 ⟨rfl, b0⟩
    clear CZ
    have HB0 : Hid (Below w.heap.size w w0) := b0
    clear b0
    go_wp2_with fail
    refine (TO.out w0 HB0.out).mono ?_
    rintro e w1 ⟨rfl, o1, b1⟩
    have C := SP.out w1 w0.heap.size (OwN.rd o1 OK.out)
    have HB1 : Hid (Below w.heap.size w w1) := HB0.out.trans (b1.mono HB0.out.size)
    clear o1 b1
    go_wp2_with fail
    refine C.mono ?_
    rintro e w2 ⟨rfl, b2⟩
    clear C
    have HB2 : Hid (Below w.heap.size w w2) := HB1.out.trans (b2.mono HB1.out.size)
    clear b2
    go_wp2_with fail
    refine (TO.out w2 HB2.out).mono ?_
    rintro e w3 ⟨rfl, o3, b3⟩
    have HO3 : Hid (OwN w3 w2.heap.size (.slice (some ⟨w2.heap.size, 0, none⟩) n n) l) := o3
    have HB3 : Hid (Below w.heap.size w w3) := HB2.out.trans (b3.mono HB2.out.size)
    have C := IM.out w3 w2.heap.size _ o3
    clear o3 b3
    go_wp2_with fail
    refine C.mono ?_
    rintro e w4 ⟨rfl, b4⟩
    clear C
    have HO4 : Hid (OwN w4 w2.heap.size (.slice (some ⟨w2.heap.size, 0, none⟩) n n) l) := HO3.out.below b4 (Nat.le_refl _)
    have HB4 : Hid (Below w.heap.size w w4) := HB3.out.trans (b4.mono HB3.out.size)
    clear b4 HO3
    cases vl
    all_goals
      go_wp2_with fail
      refine (TO.out w4 HB4.out).mono ?_
      rintro e w5 ⟨rfl, o5, b5⟩
      have HB5 : Hid (Below w.heap.size w w5) := HB4.out.trans (b5.mono HB4.out.size)
      have C := EQ.out w5 w2.heap.size w4.heap.size (OwN.rd (HO4.out.below b5 (Nat.le_refl _)) OK.out) (OwN.rd o5 OK.out)
      clear o5 b5
      go_wp2_with fail
      refine C.mono ?_
      rintro e w6 ⟨rfl, b6⟩
      clear C
      have HB6 : Hid (Below w.heap.size w w6) := HB5.out.trans (b6.mono HB5.out.size)
      clear b6
      go_wp2_with fail
      go_ret
      exact ⟨rfl, HB6.out⟩
  · rw [szr_no (by omega)] at CZ
    clear im0 hr hs hl
    go_enter Tryz.func3, Tryz.ntmps3
    go_wp2_with fail
    refine CZ.mono ?_
    rintro e w0 ⟨rfl, b0⟩
    clear CZ
    go_wp2_with fail
    go_ret
    exact ⟨rfl, b0⟩
end Go.Proofs.YtccnjmnafkfjdaaGreat.vt
