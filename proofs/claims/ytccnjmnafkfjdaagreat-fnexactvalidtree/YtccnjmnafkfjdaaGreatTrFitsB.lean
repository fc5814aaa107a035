import Derived.Test.YtccnjmnafkfjdaaGreatTrFitsA
namespace Go.Proofs.YtccnjmnafkfjdaaGreat.vt
open Go.RowKit Go.Proofs.YtccnjmnafkfjdaaGreat.bts Go.Proofs.YtccnjmnafkfjdaaGreat.nod Go.Proofs.YtccnjmnafkfjdaaGreat.lex

set_option maxRecDepth 100000 in
set_option maxHeartbeats 2000000 in
theorem ft20 (g : Nat) (d : Nd) (ao : Option Addr) (cap : Nat) (at_ an : Option Addr) (ca cn : Nat) (w : World) (ts : List Int) (N : Node6 w g d ao ts.length cap at_ an ca cn) (hm : RcVV w (.slice an d.names.length cn) d.names) (hsz : d.text.length + sizeSS d.names ≤ 1048576) (h : RepS w (.slice ao ts.length cap) ts) :
    Calls Tryz.prog 130 #[.pointer (some ⟨g, 0, none⟩)] w fun e w' => e = .returned (.bool (named d.n d.text d.names 0 0 && (decide (ts.length % 2 = 0) && takesAll 2 ts 0 6000))) ∧ Below w.heap.size w w' := by
  have P := plain_any g d ao ts.length cap at_ an ca cn w N hm hsz
  have c0 := N.c0
  have c1 := N.c1
  have c2 := N.c2
  have c3 := N.c3
  have c5 := N.c5
  have HN : Hid (Node6 w g d ao ts.length cap at_ an ca cn) := N
  have HS : Hid (RepS w (.slice ao ts.length cap) ts) := h
  have hl6 : ts.length ≤ 1048576 := by obtain ⟨_, _, _, _, _, h3, _⟩ := h; exact h3
  generalize named d.n d.text d.names 0 0 = nb at P ⊢
  clear N hm hsz h c0 c1 c2 c3
  cases nb with
  | false =>
    go_enter Tryz.func130, Tryz.ntmps130
    go_wp2_with fail
    refine P.mono ?_
    rintro e w' ⟨rfl, hw⟩
    replace hw := hw.symm
    subst hw
    clear P
    go_wp2_with fail
    go_ret
    exact ⟨ret_bool (by first | rfl | simp), Below.refl _ _⟩
  | true =>
    by_cases ho : ts.length % 2 = 0
    · have e1 : ((ts.length : Int) % 2 == 0) = true := by simp; omega
      have TA := takesAll_any 2 (by omega) _ ts 0 6000 w HS.out (by omega) (by omega)
      rw [decide_eq_true ho]
      generalize takesAll 2 ts 0 6000 = ta at TA ⊢
      clear HS HN
      generalize ts.length = m at *
      clear ho
      go_enter Tryz.func130, Tryz.ntmps130
      go_wp2_with fail
      refine P.mono ?_
      rintro e w' ⟨rfl, hw⟩
      replace hw := hw.symm
      subst hw
      clear P
      go_wp2_with fail
      refine (TA).mono ?_
      rintro e w1 ⟨rfl, hw1⟩
      have HB : Hid (Below w.heap.size w w1) := hw1
      clear hw1
      go_wp2_with fail
      go_ret
      exact ⟨ret_bool (by first | rfl | simp), HB.out⟩
    · have e1 : ((ts.length : Int) % 2 == 0) = false := by simp; omega
      rw [decide_eq_false ho]
      generalize takesAll 2 ts 0 6000 = ta
      clear HS HN
      generalize ts.length = m at *
      clear ho
      go_enter Tryz.func130, Tryz.ntmps130
      go_wp2_with fail
      refine P.mono ?_
      rintro e w' ⟨rfl, hw⟩
      replace hw := hw.symm
      subst hw
      clear P
      go_wp2_with fail
      go_ret
      exact ⟨ret_bool (by first | rfl | simp), Below.refl _ _⟩

set_option maxRecDepth 100000 in
set_option maxHeartbeats 2000000 in
theorem ft14 (g : Nat) (d : Nd) (ao : Option Addr) (cap : Nat) (at_ an : Option Addr) (ca cn : Nat) (w : World) (ts : List Int) (N : Node6 w g d ao ts.length cap at_ an ca cn) (_hm : RcVV w (.slice an d.names.length cn) d.names) (hsz : d.text.length + sizeSS d.names ≤ 1048576) (h : RepS w (.slice ao ts.length cap) ts) :
    Calls Tryz.prog 112 #[.pointer (some ⟨g, 0, none⟩)] w fun e w' => e = .returned (.bool (numbered d.n d.text d.names (-9223372036854775808) 9223372036854775807 && holds [] ts)) ∧ Below w.heap.size w w' := by
  have P := numbered_any g d ao ts.length cap at_ an ca cn (-9223372036854775808) 9223372036854775807 w N hsz
  have c0 := N.c0
  have c1 := N.c1
  have c2 := N.c2
  have c3 := N.c3
  have c5 := N.c5
  have HN : Hid (Node6 w g d ao ts.length cap at_ an ca cn) := N
  have HS : Hid (RepS w (.slice ao ts.length cap) ts) := h
  have hl6 : ts.length ≤ 1048576 := by obtain ⟨_, _, _, _, _, h3, _⟩ := h; exact h3
  generalize numbered d.n d.text d.names (-9223372036854775808) 9223372036854775807 = nb at P ⊢
  clear N _hm hsz h c0 c1 c2 c3
  cases nb with
  | false =>
    go_enter Tryz.func112, Tryz.ntmps112
    go_wp2_with fail
    refine P.mono ?_
    rintro e w' ⟨rfl, hw⟩
    replace hw := hw.symm
    subst hw
    clear P
    go_wp2_with fail
    go_ret
    exact ⟨ret_bool (by first | rfl | simp), Below.refl _ _⟩
  | true =>
    go_enter Tryz.func112, Tryz.ntmps112
    go_wp2_with fail
    refine P.mono ?_
    rintro e w' ⟨rfl, hw⟩
    replace hw := hw.symm
    subst hw
    clear P
    go_wp2_with fail
    refine (holds_any g d ao cap at_ an ca cn _ ts HN.out HS.out none [] (roles_none _ _) (by decide)).mono ?_
    rintro e w1 ⟨rfl, hw1⟩
    have HB : Hid (Below w.heap.size w w1) := hw1
    clear hw1
    go_wp2_with fail
    go_ret
    exact ⟨ret_bool (by first | rfl | simp), HB.out⟩

set_option maxRecDepth 100000 in
set_option maxHeartbeats 2000000 in
theorem ft15 (g : Nat) (d : Nd) (ao : Option Addr) (cap : Nat) (at_ an : Option Addr) (ca cn : Nat) (w : World) (ts : List Int) (N : Node6 w g d ao ts.length cap at_ an ca cn) (_hm : RcVV w (.slice an d.names.length cn) d.names) (hsz : d.text.length + sizeSS d.names ≤ 1048576) (h : RepS w (.slice ao ts.length cap) ts) :
    Calls Tryz.prog 115 #[.pointer (some ⟨g, 0, none⟩)] w fun e w' => e = .returned (.bool ((d.n == 0) && (decide (d.text.length ≤ 5000) && (decide (d.names.length = 0) && holds [] ts)))) ∧ Below w.heap.size w w' := by
  have c0 := N.c0
  have c1 := N.c1
  have c2 := N.c2
  have c3 := N.c3
  have c5 := N.c5
  have HN : Hid (Node6 w g d ao ts.length cap at_ an ca cn) := N
  have HS : Hid (RepS w (.slice ao ts.length cap) ts) := h
  have hl6 : ts.length ≤ 1048576 := by obtain ⟨_, _, _, _, _, h3, _⟩ := h; exact h3
  have hp : d.text.length ≤ 1048576 := by omega
  have hq : d.names.length ≤ 1048576 := by unfold sizeSS at hsz; omega
  have HD := holds_any g d ao cap at_ an ca cn _ ts HN.out HS.out none [] (roles_none _ _) (by decide)
  generalize holds [] ts = hd at HD ⊢
  clear _hm hsz h N HS HN
  generalize d.n = nn at *
  generalize d.text.length = p at *
  generalize d.names.length = q at *
  by_cases h1 : nn = 0
  · subst h1
    by_cases h2 : p ≤ 5000
    · have e2 : decide ((p : Int) ≤ 5000) = true := by simp; omega
      by_cases h3 : q = 0
      · subst h3
        rw [decide_eq_true h2]
        go_enter Tryz.func115, Tryz.ntmps115
        go_wp2_with fail
        refine (HD).mono ?_
        rintro e w1 ⟨rfl, hw1⟩
        have HB : Hid (Below w.heap.size w w1) := hw1
        clear hw1
        go_wp2_with fail
        go_ret
        exact ⟨ret_bool (by first | rfl | simp), HB.out⟩
      · have e3 : ((q : Int) == 0) = false := by simp; omega
        rw [decide_eq_false h3]
        go_enter Tryz.func115, Tryz.ntmps115
        go_wp2_with fail
        go_ret
        exact ⟨ret_bool (by first | rfl | simp), Below.refl _ _⟩
    · have e2 : decide ((p : Int) ≤ 5000) = false := by simp; omega
      rw [decide_eq_false h2]
      go_enter Tryz.func115, Tryz.ntmps115
      go_wp2_with fail
      go_ret
      exact ⟨ret_bool (by first | rfl | simp), Below.refl _ _⟩
  · have e1 : (nn == 0) = false := by simp; exact h1
    rw [e1]
    go_enter Tryz.func115, Tryz.ntmps115
    go_wp2_with fail
    go_ret
    exact ⟨ret_bool (by first | rfl | simp), Below.refl _ _⟩

set_option maxRecDepth 100000 in
set_option maxHeartbeats 2000000 in
theorem ft21 (g : Nat) (d : Nd) (ao : Option Addr) (cap : Nat) (at_ an : Option Addr) (ca cn : Nat) (w : World) (ts : List Int) (N : Node6 w g d ao ts.length cap at_ an ca cn) (_hm : RcVV w (.slice an d.names.length cn) d.names) (hsz : d.text.length + sizeSS d.names ≤ 1048576) (h : RepS w (.slice ao ts.length cap) ts) (hk : d.kind = 21) :
    Calls Tryz.prog 134 #[.pointer (some ⟨g, 0, none⟩)] w fun e w' => e = .returned (.bool (numbered d.n d.text d.names 0 11 && holds [2, 2] ts)) ∧ Below w.heap.size w w' := by
  have P := numbered_any g d ao ts.length cap at_ an ca cn 0 11 w N hsz
  have c0 := N.c0
  have c1 := N.c1
  have c2 := N.c2
  have c3 := N.c3
  have c5 := N.c5
  have HN : Hid (Node6 w g d ao ts.length cap at_ an ca cn) := N
  have HS : Hid (RepS w (.slice ao ts.length cap) ts) := h
  have hl6 : ts.length ≤ 1048576 := by obtain ⟨_, _, _, _, _, h3, _⟩ := h; exact h3
  rw [hk] at c0
  generalize numbered d.n d.text d.names 0 11 = nb at P ⊢
  clear N _hm hsz h c1 c2 c3
  cases nb with
  | false =>
    go_enter Tryz.func134, Tryz.ntmps134
    go_wp2_with fail
    refine P.mono ?_
    rintro e w' ⟨rfl, hw⟩
    replace hw := hw.symm
    subst hw
    clear P
    go_wp2_with fail
    go_ret
    exact ⟨ret_bool (by first | rfl | simp), Below.refl _ _⟩
  | true =>
    go_enter Tryz.func134, Tryz.ntmps134
    go_wp2_with fail
    refine P.mono ?_
    rintro e w' ⟨rfl, hw⟩
    replace hw := hw.symm
    subst hw
    clear P
    go_wp2_with fail
    have hb1 : Hid (Below w.heap.size w (w.alloc (.cells #[.int .i64 2, .int .i64 2] 69))) := (Below.refl _ _).alloc (Nat.le_refl _) _
    refine (holds_any g d ao cap at_ an ca cn _ ts (HN.out.below hb1.out) (HS.out.kept hb1.out) _ [2, 2] (roles_new w [2, 2] _ (by decide)) (by decide)).mono ?_
    rintro e w1 ⟨rfl, hw1⟩
    have HB : Hid (Below w.heap.size w w1) := hb1.out.trans (hw1.mono hb1.out.size)
    clear hw1
    go_wp2_with fail
    go_ret
    exact ⟨ret_bool (by first | rfl | simp), HB.out⟩

set_option maxRecDepth 100000 in
set_option maxHeartbeats 2000000 in
theorem ftQ (g : Nat) (d : Nd) (ao : Option Addr) (cap : Nat) (at_ an : Option Addr) (ca cn : Nat) (w : World) (ts : List Int) (N : Node6 w g d ao ts.length cap at_ an ca cn) (_hm : RcVV w (.slice an d.names.length cn) d.names) (hsz : d.text.length + sizeSS d.names ≤ 1048576) (h : RepS w (.slice ao ts.length cap) ts) (hk : ¬ d.kind = 21) :
    Calls Tryz.prog 134 #[.pointer (some ⟨g, 0, none⟩)] w fun e w' => e = .returned (.bool (numbered d.n d.text d.names 0 0 && holds [2, 2] ts)) ∧ Below w.heap.size w w' := by
  have P := numbered_any g d ao ts.length cap at_ an ca cn 0 0 w N hsz
  have c0 := N.c0
  have c1 := N.c1
  have c2 := N.c2
  have c3 := N.c3
  have c5 := N.c5
  have HN : Hid (Node6 w g d ao ts.length cap at_ an ca cn) := N
  have HS : Hid (RepS w (.slice ao ts.length cap) ts) := h
  have hl6 : ts.length ≤ 1048576 := by obtain ⟨_, _, _, _, _, h3, _⟩ := h; exact h3
  have ek : (d.kind == 21) = false := by simp; exact hk
  generalize d.kind = kd at *
  generalize numbered d.n d.text d.names 0 0 = nb at P ⊢
  clear N _hm hsz h c1 c2 c3
  cases nb with
  | false =>
    go_enter Tryz.func134, Tryz.ntmps134
    go_wp2_with fail
    refine P.mono ?_
    rintro e w' ⟨rfl, hw⟩
    replace hw := hw.symm
    subst hw
    clear P
    go_wp2_with fail
    go_ret
    exact ⟨ret_bool (by first | rfl | simp), Below.refl _ _⟩
  | true =>
    go_enter Tryz.func134, Tryz.ntmps134
    go_wp2_with fail
    refine P.mono ?_
    rintro e w' ⟨rfl, hw⟩
    replace hw := hw.symm
    subst hw
    clear P
    go_wp2_with fail
    have hb1 : Hid (Below w.heap.size w (w.alloc (.cells #[.int .i64 2, .int .i64 2] 69))) := (Below.refl _ _).alloc (Nat.le_refl _) _
    refine (holds_any g d ao cap at_ an ca cn _ ts (HN.out.below hb1.out) (HS.out.kept hb1.out) _ [2, 2] (roles_new w [2, 2] _ (by decide)) (by decide)).mono ?_
    rintro e w1 ⟨rfl, hw1⟩
    have HB : Hid (Below w.heap.size w w1) := hb1.out.trans (hw1.mono hb1.out.size)
    clear hw1
    go_wp2_with fail
    go_ret
    exact ⟨ret_bool (by first | rfl | simp), HB.out⟩
end Go.Proofs.YtccnjmnafkfjdaaGreat.vt
