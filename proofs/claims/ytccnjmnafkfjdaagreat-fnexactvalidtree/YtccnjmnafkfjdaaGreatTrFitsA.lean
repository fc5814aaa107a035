import Derived.Test.YtccnjmnafkfjdaaGreatTrHolds
namespace Go.Proofs.YtccnjmnafkfjdaaGreat.vt
open Go.RowKit Go.Proofs.YtccnjmnafkfjdaaGreat.bts Go.Proofs.YtccnjmnafkfjdaaGreat.nod Go.Proofs.YtccnjmnafkfjdaaGreat.lex

theorem roles_new (W : World) (rs : List Nat) (t : TypeId) (h5 : ∀ k, k < rs.length → rs.getD k 0 ≤ 5) : RolesAt (W.alloc (.cells (rs.map fun r => Value.int .i64 (r : Nat)).toArray t)) (some ⟨W.heap.size, 0, none⟩) rs := by
  intro k hk
  refine ⟨W.heap.size, 0, rfl, ?_, h5 k hk⟩
  have hh := heap_alloc_new W (.cells (rs.map fun r => Value.int .i64 (r : Nat)).toArray t)
  unfold World.cell?
  rw [hh]
  simp [hk, List.getD_eq_getElem?_getD]
theorem roles_none (W : World) (ra : Option Addr) : RolesAt W ra [] := fun k hk => absurd hk (by simp)

set_option maxRecDepth 100000 in
set_option maxHeartbeats 1000000 in
theorem ft3 (g : Nat) (d : Nd) (ao : Option Addr) (cap : Nat) (at_ an : Option Addr) (ca cn : Nat) (w : World) (ts : List Int) (N : Node6 w g d ao ts.length cap at_ an ca cn) (hm : RcVV w (.slice an d.names.length cn) d.names) (hsz : d.text.length + sizeSS d.names ≤ 1048576) (h : RepS w (.slice ao ts.length cap) ts) :
    Calls Tryz.prog 88 #[.pointer (some ⟨g, 0, none⟩)] w fun e w' => e = .returned (.bool (named d.n d.text d.names 0 0 && holds [0] ts)) ∧ Below w.heap.size w w' := by
  have P := plain_any g d ao ts.length cap at_ an ca cn w N hm hsz
  have c5 := N.c5
  have HN : Hid (Node6 w g d ao ts.length cap at_ an ca cn) := N
  have HS : Hid (RepS w (.slice ao ts.length cap) ts) := h
  generalize named d.n d.text d.names 0 0 = nb at P ⊢
  clear N hm hsz h
  cases nb with
  | false =>
    go_enter Tryz.func88, Tryz.ntmps88
    go_wp2_with fail
    refine P.mono ?_
    rintro e w' ⟨rfl, hw⟩
    replace hw := hw.symm
    subst hw
    clear P
    go_wp2_with fail
    go_ret
    exact ⟨rfl, Below.refl _ _⟩
  | true =>
    go_enter Tryz.func88, Tryz.ntmps88
    go_wp2_with fail
    refine P.mono ?_
    rintro e w' ⟨rfl, hw⟩
    replace hw := hw.symm
    subst hw
    clear P
    go_wp2_with fail
    have hb1 : Hid (Below w.heap.size w (w.alloc (.cells #[.int .i64 0] 69))) := (Below.refl _ _).alloc (Nat.le_refl _) _
    refine (holds_any g d ao cap at_ an ca cn _ ts (HN.out.below hb1.out) (HS.out.kept hb1.out) _ [0] (roles_new w [0] _ (by decide)) (by decide)).mono ?_
    rintro e w1 ⟨rfl, hw1⟩
    have HB : Hid (Below w.heap.size w w1) := hb1.out.trans (hw1.mono hb1.out.size)
    clear hw1
    go_wp2_with fail
    go_ret
    exact ⟨ret_bool (by simp), HB.out⟩

set_option maxRecDepth 100000 in
set_option maxHeartbeats 1000000 in
theorem ft4 (g : Nat) (d : Nd) (ao : Option Addr) (cap : Nat) (at_ an : Option Addr) (ca cn : Nat) (w : World) (ts : List Int) (N : Node6 w g d ao ts.length cap at_ an ca cn) (hm : RcVV w (.slice an d.names.length cn) d.names) (hsz : d.text.length + sizeSS d.names ≤ 1048576) (h : RepS w (.slice ao ts.length cap) ts) :
    Calls Tryz.prog 91 #[.pointer (some ⟨g, 0, none⟩)] w fun e w' => e = .returned (.bool (named d.n d.text d.names 0 0 && holds [2, 0] ts)) ∧ Below w.heap.size w w' := by
  have P := plain_any g d ao ts.length cap at_ an ca cn w N hm hsz
  have c5 := N.c5
  have HN : Hid (Node6 w g d ao ts.length cap at_ an ca cn) := N
  have HS : Hid (RepS w (.slice ao ts.length cap) ts) := h
  generalize named d.n d.text d.names 0 0 = nb at P ⊢
  clear N hm hsz h
  cases nb with
  | false =>
    go_enter Tryz.func91, Tryz.ntmps91
    go_wp2_with fail
    refine P.mono ?_
    rintro e w' ⟨rfl, hw⟩
    replace hw := hw.symm
    subst hw
    clear P
    go_wp2_with fail
    go_ret
    exact ⟨rfl, Below.refl _ _⟩
  | true =>
    go_enter Tryz.func91, Tryz.ntmps91
    go_wp2_with fail
    refine P.mono ?_
    rintro e w' ⟨rfl, hw⟩
    replace hw := hw.symm
    subst hw
    clear P
    go_wp2_with fail
    have hb1 : Hid (Below w.heap.size w (w.alloc (.cells #[.int .i64 2, .int .i64 0] 69))) := (Below.refl _ _).alloc (Nat.le_refl _) _
    refine (holds_any g d ao cap at_ an ca cn _ ts (HN.out.below hb1.out) (HS.out.kept hb1.out) _ [2, 0] (roles_new w [2, 0] _ (by decide)) (by decide)).mono ?_
    rintro e w1 ⟨rfl, hw1⟩
    have HB : Hid (Below w.heap.size w w1) := hb1.out.trans (hw1.mono hb1.out.size)
    clear hw1
    go_wp2_with fail
    go_ret
    exact ⟨ret_bool (by simp), HB.out⟩

set_option maxRecDepth 100000 in
set_option maxHeartbeats 1000000 in
theorem ft5 (g : Nat) (d : Nd) (ao : Option Addr) (cap : Nat) (at_ an : Option Addr) (ca cn : Nat) (w : World) (ts : List Int) (N : Node6 w g d ao ts.length cap at_ an ca cn) (hm : RcVV w (.slice an d.names.length cn) d.names) (hsz : d.text.length + sizeSS d.names ≤ 1048576) (h : RepS w (.slice ao ts.length cap) ts) :
    Calls Tryz.prog 94 #[.pointer (some ⟨g, 0, none⟩)] w fun e w' => e = .returned (.bool (named d.n d.text d.names 0 0 && holds [0, 2] ts)) ∧ Below w.heap.size w w' := by
  have P := plain_any g d ao ts.length cap at_ an ca cn w N hm hsz
  have c5 := N.c5
  have HN : Hid (Node6 w g d ao ts.length cap at_ an ca cn) := N
  have HS : Hid (RepS w (.slice ao ts.length cap) ts) := h
  generalize named d.n d.text d.names 0 0 = nb at P ⊢
  clear N hm hsz h
  cases nb with
  | false =>
    go_enter Tryz.func94, Tryz.ntmps94
    go_wp2_with fail
    refine P.mono ?_
    rintro e w' ⟨rfl, hw⟩
    replace hw := hw.symm
    subst hw
    clear P
    go_wp2_with fail
    go_ret
    exact ⟨rfl, Below.refl _ _⟩
  | true =>
    go_enter Tryz.func94, Tryz.ntmps94
    go_wp2_with fail
    refine P.mono ?_
    rintro e w' ⟨rfl, hw⟩
    replace hw := hw.symm
    subst hw
    clear P
    go_wp2_with fail
    have hb1 : Hid (Below w.heap.size w (w.alloc (.cells #[.int .i64 0, .int .i64 2] 69))) := (Below.refl _ _).alloc (Nat.le_refl _) _
    refine (holds_any g d ao cap at_ an ca cn _ ts (HN.out.below hb1.out) (HS.out.kept hb1.out) _ [0, 2] (roles_new w [0, 2] _ (by decide)) (by decide)).mono ?_
    rintro e w1 ⟨rfl, hw1⟩
    have HB : Hid (Below w.heap.size w w1) := hb1.out.trans (hw1.mono hb1.out.size)
    clear hw1
    go_wp2_with fail
    go_ret
    exact ⟨ret_bool (by simp), HB.out⟩

set_option maxRecDepth 100000 in
set_option maxHeartbeats 1000000 in
theorem ft8 (g : Nat) (d : Nd) (ao : Option Addr) (cap : Nat) (at_ an : Option Addr) (ca cn : Nat) (w : World) (ts : List Int) (N : Node6 w g d ao ts.length cap at_ an ca cn) (hm : RcVV w (.slice an d.names.length cn) d.names) (hsz : d.text.length + sizeSS d.names ≤ 1048576) (h : RepS w (.slice ao ts.length cap) ts) :
    Calls Tryz.prog 103 #[.pointer (some ⟨g, 0, none⟩)] w fun e w' => e = .returned (.bool (named d.n d.text d.names 0 0 && holds [] ts)) ∧ Below w.heap.size w w' := by
  have P := plain_any g d ao ts.length cap at_ an ca cn w N hm hsz
  have c5 := N.c5
  have HN : Hid (Node6 w g d ao ts.length cap at_ an ca cn) := N
  have HS : Hid (RepS w (.slice ao ts.length cap) ts) := h
  generalize named d.n d.text d.names 0 0 = nb at P ⊢
  clear N hm hsz h
  cases nb with
  | false =>
    go_enter Tryz.func103, Tryz.ntmps103
    go_wp2_with fail
    refine P.mono ?_
    rintro e w' ⟨rfl, hw⟩
    replace hw := hw.symm
    subst hw
    clear P
    go_wp2_with fail
    go_ret
    exact ⟨rfl, Below.refl _ _⟩
  | true =>
    go_enter Tryz.func103, Tryz.ntmps103
    go_wp2_with fail
    refine P.mono ?_
    rintro e w' ⟨rfl, hw⟩
    replace hw := hw.symm
    subst hw
    clear P
    go_wp2_with fail
    refine (holds_any g d ao cap at_ an ca cn _ ts HN.out HS.out none [] (roles_none _ _) (by decide)).mono ?_
    rintro e w1 ⟨rfl, hw1⟩
    have HB : Hid (Below w.heap.size w w1) := hw1
    clear hw1
    go_wp2_with fail
    go_ret
    exact ⟨ret_bool (by simp), HB.out⟩

set_option maxRecDepth 100000 in
set_option maxHeartbeats 1000000 in
theorem ft10 (g : Nat) (d : Nd) (ao : Option Addr) (cap : Nat) (at_ an : Option Addr) (ca cn : Nat) (w : World) (ts : List Int) (N : Node6 w g d ao ts.length cap at_ an ca cn) (hm : RcVV w (.slice an d.names.length cn) d.names) (hsz : d.text.length + sizeSS d.names ≤ 1048576) (h : RepS w (.slice ao ts.length cap) ts) :
    Calls Tryz.prog 109 #[.pointer (some ⟨g, 0, none⟩)] w fun e w' => e = .returned (.bool (named d.n d.text d.names 0 0 && holds [4] ts)) ∧ Below w.heap.size w w' := by
  have P := plain_any g d ao ts.length cap at_ an ca cn w N hm hsz
  have c5 := N.c5
  have HN : Hid (Node6 w g d ao ts.length cap at_ an ca cn) := N
  have HS : Hid (RepS w (.slice ao ts.length cap) ts) := h
  generalize named d.n d.text d.names 0 0 = nb at P ⊢
  clear N hm hsz h
  cases nb with
  | false =>
    go_enter Tryz.func109, Tryz.ntmps109
    go_wp2_with fail
    refine P.mono ?_
    rintro e w' ⟨rfl, hw⟩
    replace hw := hw.symm
    subst hw
    clear P
    go_wp2_with fail
    go_ret
    exact ⟨rfl, Below.refl _ _⟩
  | true =>
    go_enter Tryz.func109, Tryz.ntmps109
    go_wp2_with fail
    refine P.mono ?_
    rintro e w' ⟨rfl, hw⟩
    replace hw := hw.symm
    subst hw
    clear P
    go_wp2_with fail
    have hb1 : Hid (Below w.heap.size w (w.alloc (.cells #[.int .i64 4] 69))) := (Below.refl _ _).alloc (Nat.le_refl _) _
    refine (holds_any g d ao cap at_ an ca cn _ ts (HN.out.below hb1.out) (HS.out.kept hb1.out) _ [4] (roles_new w [4] _ (by decide)) (by decide)).mono ?_
    rintro e w1 ⟨rfl, hw1⟩
    have HB : Hid (Below w.heap.size w w1) := hb1.out.trans (hw1.mono hb1.out.size)
    clear hw1
    go_wp2_with fail
    go_ret
    exact ⟨ret_bool (by simp), HB.out⟩

set_option maxRecDepth 100000 in
set_option maxHeartbeats 1000000 in
theorem ftW (g : Nat) (d : Nd) (ao : Option Addr) (cap : Nat) (at_ an : Option Addr) (ca cn : Nat) (w : World) (ts : List Int) (N : Node6 w g d ao ts.length cap at_ an ca cn) (hm : RcVV w (.slice an d.names.length cn) d.names) (hsz : d.text.length + sizeSS d.names ≤ 1048576) (h : RepS w (.slice ao ts.length cap) ts) :
    Calls Tryz.prog 140 #[.pointer (some ⟨g, 0, none⟩)] w fun e w' => e = .returned (.bool (named d.n d.text d.names 0 0 && holds [] ts)) ∧ Below w.heap.size w w' := by
  have P := plain_any g d ao ts.length cap at_ an ca cn w N hm hsz
  have c5 := N.c5
  have HN : Hid (Node6 w g d ao ts.length cap at_ an ca cn) := N
  have HS : Hid (RepS w (.slice ao ts.length cap) ts) := h
  generalize named d.n d.text d.names 0 0 = nb at P ⊢
  clear N hm hsz h
  cases nb with
  | false =>
    go_enter Tryz.func140, Tryz.ntmps140
    go_wp2_with fail
    refine P.mono ?_
    rintro e w' ⟨rfl, hw⟩
    replace hw := hw.symm
    subst hw
    clear P
    go_wp2_with fail
    go_ret
    exact ⟨rfl, Below.refl _ _⟩
  | true =>
    go_enter Tryz.func140, Tryz.ntmps140
    go_wp2_with fail
    refine P.mono ?_
    rintro e w' ⟨rfl, hw⟩
    replace hw := hw.symm
    subst hw
    clear P
    go_wp2_with fail
    refine (holds_any g d ao cap at_ an ca cn _ ts HN.out HS.out none [] (roles_none _ _) (by decide)).mono ?_
    rintro e w1 ⟨rfl, hw1⟩
    have HB : Hid (Below w.heap.size w w1) := hw1
    clear hw1
    go_wp2_with fail
    go_ret
    exact ⟨ret_bool (by simp), HB.out⟩

set_option maxRecDepth 100000 in
set_option maxHeartbeats 1000000 in
theorem ft17 (g : Nat) (d : Nd) (ao : Option Addr) (cap : Nat) (at_ an : Option Addr) (ca cn : Nat) (w : World) (ts : List Int) (N : Node6 w g d ao ts.length cap at_ an ca cn) (hm : RcVV w (.slice an d.names.length cn) d.names) (hsz : d.text.length + sizeSS d.names ≤ 1048576) (h : RepS w (.slice ao ts.length cap) ts) :
    Calls Tryz.prog 121 #[.pointer (some ⟨g, 0, none⟩)] w fun e w' => e = .returned (.bool (named d.n d.text d.names 0 0 && holds [2, 2] ts)) ∧ Below w.heap.size w w' := by
  have P := plain_any g d ao ts.length cap at_ an ca cn w N hm hsz
  have c5 := N.c5
  have HN : Hid (Node6 w g d ao ts.length cap at_ an ca cn) := N
  have HS : Hid (RepS w (.slice ao ts.length cap) ts) := h
  generalize named d.n d.text d.names 0 0 = nb at P ⊢
  clear N hm hsz h
  cases nb with
  | false =>
    go_enter Tryz.func121, Tryz.ntmps121
    go_wp2_with fail
    refine P.mono ?_
    rintro e w' ⟨rfl, hw⟩
    replace hw := hw.symm
    subst hw
    clear P
    go_wp2_with fail
    go_ret
    exact ⟨rfl, Below.refl _ _⟩
  | true =>
    go_enter Tryz.func121, Tryz.ntmps121
    go_wp2_with fail
    refine P.mono ?_
    rintro e w' ⟨rfl, hw⟩
    replace hw := hw.symm
    subst hw
    clear P
    go_wp2_with fail
    have hb1 : Hid (Below w.heap.size w (w.alloc (.cells #[.int .i64 2, .int .i64 2] 69))) := (Below.refl _ _).alloc (Nat.le_refl _) _
    refine (holds_any g d ao cap at_ an ca cn _ ts (HN.out.below hb1.out) (HS.out.kept hb1.out) _ [2, 2] (roles_new w [2, 2] _ (by decide)) (by decide)).mono ?_
    rintro e w1 ⟨rfl, hw1⟩
    have HB : Hid (Below w.heap.size w w1) := hb1.out.trans (hw1.mono hb1.out.size)
    clear hw1
    go_wp2_with fail
    go_ret
    exact ⟨ret_bool (by simp), HB.out⟩

set_option maxRecDepth 100000 in
set_option maxHeartbeats 1000000 in
theorem ftU (g : Nat) (d : Nd) (ao : Option Addr) (cap : Nat) (at_ an : Option Addr) (ca cn : Nat) (w : World) (ts : List Int) (N : Node6 w g d ao ts.length cap at_ an ca cn) (hm : RcVV w (.slice an d.names.length cn) d.names) (hsz : d.text.length + sizeSS d.names ≤ 1048576) (h : RepS w (.slice ao ts.length cap) ts) :
    Calls Tryz.prog 137 #[.pointer (some ⟨g, 0, none⟩)] w fun e w' => e = .returned (.bool (named d.n d.text d.names 0 0 && holds [2] ts)) ∧ Below w.heap.size w w' := by
  have P := plain_any g d ao ts.length cap at_ an ca cn w N hm hsz
  have c5 := N.c5
  have HN : Hid (Node6 w g d ao ts.length cap at_ an ca cn) := N
  have HS : Hid (RepS w (.slice ao ts.length cap) ts) := h
  generalize named d.n d.text d.names 0 0 = nb at P ⊢
  clear N hm hsz h
  cases nb with
  | false =>
    go_enter Tryz.func137, Tryz.ntmps137
    go_wp2_with fail
    refine P.mono ?_
    rintro e w' ⟨rfl, hw⟩
    replace hw := hw.symm
    subst hw
    clear P
    go_wp2_with fail
    go_ret
    exact ⟨rfl, Below.refl _ _⟩
  | true =>
    go_enter Tryz.func137, Tryz.ntmps137
    go_wp2_with fail
    refine P.mono ?_
    rintro e w' ⟨rfl, hw⟩
    replace hw := hw.symm
    subst hw
    clear P
    go_wp2_with fail
    have hb1 : Hid (Below w.heap.size w (w.alloc (.cells #[.int .i64 2] 69))) := (Below.refl _ _).alloc (Nat.le_refl _) _
    refine (holds_any g d ao cap at_ an ca cn _ ts (HN.out.below hb1.out) (HS.out.kept hb1.out) _ [2] (roles_new w [2] _ (by decide)) (by decide)).mono ?_
    rintro e w1 ⟨rfl, hw1⟩
    have HB : Hid (Below w.heap.size w w1) := hb1.out.trans (hw1.mono hb1.out.size)
    clear hw1
    go_wp2_with fail
    go_ret
    exact ⟨ret_bool (by simp), HB.out⟩

set_option maxRecDepth 100000 in
set_option maxHeartbeats 1000000 in
theorem ft26 (g : Nat) (d : Nd) (ao : Option Addr) (cap : Nat) (at_ an : Option Addr) (ca cn : Nat) (w : World) (ts : List Int) (N : Node6 w g d ao ts.length cap at_ an ca cn) (hm : RcVV w (.slice an d.names.length cn) d.names) (hsz : d.text.length + sizeSS d.names ≤ 1048576) (h : RepS w (.slice ao ts.length cap) ts) :
    Calls Tryz.prog 78 #[.pointer (some ⟨g, 0, none⟩)] w fun e w' => e = .returned (.bool (named d.n d.text d.names 1 1 && holds [5] ts)) ∧ Below w.heap.size w w' := by
  have P := named_any g d ao ts.length cap at_ an ca cn 1 1 w N hm hsz (by omega) (by omega)
  have c5 := N.c5
  have HN : Hid (Node6 w g d ao ts.length cap at_ an ca cn) := N
  have HS : Hid (RepS w (.slice ao ts.length cap) ts) := h
  generalize named d.n d.text d.names 1 1 = nb at P ⊢
  clear N hm hsz h
  cases nb with
  | false =>
    go_enter Tryz.func78, Tryz.ntmps78
    go_wp2_with fail
    refine P.mono ?_
    rintro e w' ⟨rfl, hw⟩
    replace hw := hw.symm
    subst hw
    clear P
    go_wp2_with fail
    go_ret
    exact ⟨rfl, Below.refl _ _⟩
  | true =>
    go_enter Tryz.func78, Tryz.ntmps78
    go_wp2_with fail
    refine P.mono ?_
    rintro e w' ⟨rfl, hw⟩
    replace hw := hw.symm
    subst hw
    clear P
    go_wp2_with fail
    have hb1 : Hid (Below w.heap.size w (w.alloc (.cells #[.int .i64 5] 69))) := (Below.refl _ _).alloc (Nat.le_refl _) _
    refine (holds_any g d ao cap at_ an ca cn _ ts (HN.out.below hb1.out) (HS.out.kept hb1.out) _ [5] (roles_new w [5] _ (by decide)) (by decide)).mono ?_
    rintro e w1 ⟨rfl, hw1⟩
    have HB : Hid (Below w.heap.size w w1) := hb1.out.trans (hw1.mono hb1.out.size)
    clear hw1
    go_wp2_with fail
    go_ret
    exact ⟨ret_bool (by simp), HB.out⟩

set_option maxRecDepth 100000 in
set_option maxHeartbeats 1000000 in
theorem ft16 (g : Nat) (d : Nd) (ao : Option Addr) (cap : Nat) (at_ an : Option Addr) (ca cn : Nat) (w : World) (ts : List Int) (N : Node6 w g d ao ts.length cap at_ an ca cn) (hm : RcVV w (.slice an d.names.length cn) d.names) (hsz : d.text.length + sizeSS d.names ≤ 1048576) (h : RepS w (.slice ao ts.length cap) ts) :
    Calls Tryz.prog 118 #[.pointer (some ⟨g, 0, none⟩)] w fun e w' => e = .returned (.bool (named d.n d.text d.names 1 1 && holds [] ts)) ∧ Below w.heap.size w w' := by
  have P := named_any g d ao ts.length cap at_ an ca cn 1 1 w N hm hsz (by omega) (by omega)
  have c5 := N.c5
  have HN : Hid (Node6 w g d ao ts.length cap at_ an ca cn) := N
  have HS : Hid (RepS w (.slice ao ts.length cap) ts) := h
  generalize named d.n d.text d.names 1 1 = nb at P ⊢
  clear N hm hsz h
  cases nb with
  | false =>
    go_enter Tryz.func118, Tryz.ntmps118
    go_wp2_with fail
    refine P.mono ?_
    rintro e w' ⟨rfl, hw⟩
    replace hw := hw.symm
    subst hw
    clear P
    go_wp2_with fail
    go_ret
    exact ⟨rfl, Below.refl _ _⟩
  | true =>
    go_enter Tryz.func118, Tryz.ntmps118
    go_wp2_with fail
    refine P.mono ?_
    rintro e w' ⟨rfl, hw⟩
    replace hw := hw.symm
    subst hw
    clear P
    go_wp2_with fail
    refine (holds_any g d ao cap at_ an ca cn _ ts HN.out HS.out none [] (roles_none _ _) (by decide)).mono ?_
    rintro e w1 ⟨rfl, hw1⟩
    have HB : Hid (Below w.heap.size w w1) := hw1
    clear hw1
    go_wp2_with fail
    go_ret
    exact ⟨ret_bool (by simp), HB.out⟩

set_option maxRecDepth 100000 in
set_option maxHeartbeats 1000000 in
theorem ft19 (g : Nat) (d : Nd) (ao : Option Addr) (cap : Nat) (at_ an : Option Addr) (ca cn : Nat) (w : World) (ts : List Int) (N : Node6 w g d ao ts.length cap at_ an ca cn) (hm : RcVV w (.slice an d.names.length cn) d.names) (hsz : d.text.length + sizeSS d.names ≤ 1048576) (h : RepS w (.slice ao ts.length cap) ts) :
    Calls Tryz.prog 127 #[.pointer (some ⟨g, 0, none⟩)] w fun e w' => e = .returned (.bool (named d.n d.text d.names 0 50 && holds [0] ts)) ∧ Below w.heap.size w w' := by
  have P := named_any g d ao ts.length cap at_ an ca cn 0 50 w N hm hsz (by omega) (by omega)
  have c5 := N.c5
  have HN : Hid (Node6 w g d ao ts.length cap at_ an ca cn) := N
  have HS : Hid (RepS w (.slice ao ts.length cap) ts) := h
  generalize named d.n d.text d.names 0 50 = nb at P ⊢
  clear N hm hsz h
  cases nb with
  | false =>
    go_enter Tryz.func127, Tryz.ntmps127
    go_wp2_with fail
    refine P.mono ?_
    rintro e w' ⟨rfl, hw⟩
    replace hw := hw.symm
    subst hw
    clear P
    go_wp2_with fail
    go_ret
    exact ⟨rfl, Below.refl _ _⟩
  | true =>
    go_enter Tryz.func127, Tryz.ntmps127
    go_wp2_with fail
    refine P.mono ?_
    rintro e w' ⟨rfl, hw⟩
    replace hw := hw.symm
    subst hw
    clear P
    go_wp2_with fail
    have hb1 : Hid (Below w.heap.size w (w.alloc (.cells #[.int .i64 0] 69))) := (Below.refl _ _).alloc (Nat.le_refl _) _
    refine (holds_any g d ao cap at_ an ca cn _ ts (HN.out.below hb1.out) (HS.out.kept hb1.out) _ [0] (roles_new w [0] _ (by decide)) (by decide)).mono ?_
    rintro e w1 ⟨rfl, hw1⟩
    have HB : Hid (Below w.heap.size w w1) := hb1.out.trans (hw1.mono hb1.out.size)
    clear hw1
    go_wp2_with fail
    go_ret
    exact ⟨ret_bool (by simp), HB.out⟩

set_option maxRecDepth 100000 in
set_option maxHeartbeats 1000000 in
theorem ft1 (g : Nat) (d : Nd) (ao : Option Addr) (cap : Nat) (at_ an : Option Addr) (ca cn : Nat) (w : World) (ts : List Int) (N : Node6 w g d ao ts.length cap at_ an ca cn) (hm : RcVV w (.slice an d.names.length cn) d.names) (hsz : d.text.length + sizeSS d.names ≤ 1048576) (h : RepS w (.slice ao ts.length cap) ts) :
    Calls Tryz.prog 75 #[.pointer (some ⟨g, 0, none⟩)] w fun e w' => e = .returned (.bool (named d.n d.text d.names 1 50 && takesAll 2 ts 0 50)) ∧ Below w.heap.size w w' := by
  have P := named_any g d ao ts.length cap at_ an ca cn 1 50 w N hm hsz (by omega) (by omega)
  have c5 := N.c5
  have HN : Hid (Node6 w g d ao ts.length cap at_ an ca cn) := N
  have HS : Hid (RepS w (.slice ao ts.length cap) ts) := h
  generalize named d.n d.text d.names 1 50 = nb at P ⊢
  clear N hm hsz h
  cases nb with
  | false =>
    go_enter Tryz.func75, Tryz.ntmps75
    go_wp2_with fail
    refine P.mono ?_
    rintro e w' ⟨rfl, hw⟩
    replace hw := hw.symm
    subst hw
    clear P
    go_wp2_with fail
    go_ret
    exact ⟨rfl, Below.refl _ _⟩
  | true =>
    go_enter Tryz.func75, Tryz.ntmps75
    go_wp2_with fail
    refine P.mono ?_
    rintro e w' ⟨rfl, hw⟩
    replace hw := hw.symm
    subst hw
    clear P
    go_wp2_with fail
    refine (takesAll_any 2 (by omega) _ ts 0 50 w HS.out (by omega) (by omega)).mono ?_
    rintro e w1 ⟨rfl, hw1⟩
    have HB : Hid (Below w.heap.size w w1) := hw1
    clear hw1
    go_wp2_with fail
    go_ret
    exact ⟨ret_bool (by simp), HB.out⟩

set_option maxRecDepth 100000 in
set_option maxHeartbeats 1000000 in
theorem ft9 (g : Nat) (d : Nd) (ao : Option Addr) (cap : Nat) (at_ an : Option Addr) (ca cn : Nat) (w : World) (ts : List Int) (N : Node6 w g d ao ts.length cap at_ an ca cn) (hm : RcVV w (.slice an d.names.length cn) d.names) (hsz : d.text.length + sizeSS d.names ≤ 1048576) (h : RepS w (.slice ao ts.length cap) ts) :
    Calls Tryz.prog 106 #[.pointer (some ⟨g, 0, none⟩)] w fun e w' => e = .returned (.bool (named d.n d.text d.names 0 0 && takesAll 2 ts 0 50)) ∧ Below w.heap.size w w' := by
  have P := plain_any g d ao ts.length cap at_ an ca cn w N hm hsz
  have c5 := N.c5
  have HN : Hid (Node6 w g d ao ts.length cap at_ an ca cn) := N
  have HS : Hid (RepS w (.slice ao ts.length cap) ts) := h
  generalize named d.n d.text d.names 0 0 = nb at P ⊢
  clear N hm hsz h
  cases nb with
  | false =>
    go_enter Tryz.func106, Tryz.ntmps106
    go_wp2_with fail
    refine P.mono ?_
    rintro e w' ⟨rfl, hw⟩
    replace hw := hw.symm
    subst hw
    clear P
    go_wp2_with fail
    go_ret
    exact ⟨rfl, Below.refl _ _⟩
  | true =>
    go_enter Tryz.func106, Tryz.ntmps106
    go_wp2_with fail
    refine P.mono ?_
    rintro e w' ⟨rfl, hw⟩
    replace hw := hw.symm
    subst hw
    clear P
    go_wp2_with fail
    refine (takesAll_any 2 (by omega) _ ts 0 50 w HS.out (by omega) (by omega)).mono ?_
    rintro e w1 ⟨rfl, hw1⟩
    have HB : Hid (Below w.heap.size w w1) := hw1
    clear hw1
    go_wp2_with fail
    go_ret
    exact ⟨ret_bool (by simp), HB.out⟩

set_option maxRecDepth 100000 in
set_option maxHeartbeats 1000000 in
theorem ft18 (g : Nat) (d : Nd) (ao : Option Addr) (cap : Nat) (at_ an : Option Addr) (ca cn : Nat) (w : World) (ts : List Int) (N : Node6 w g d ao ts.length cap at_ an ca cn) (hm : RcVV w (.slice an d.names.length cn) d.names) (hsz : d.text.length + sizeSS d.names ≤ 1048576) (h : RepS w (.slice ao ts.length cap) ts) :
    Calls Tryz.prog 124 #[.pointer (some ⟨g, 0, none⟩)] w fun e w' => e = .returned (.bool (named d.n d.text d.names 0 0 && takesAll 2 ts 1 51)) ∧ Below w.heap.size w w' := by
  have P := plain_any g d ao ts.length cap at_ an ca cn w N hm hsz
  have c5 := N.c5
  have HN : Hid (Node6 w g d ao ts.length cap at_ an ca cn) := N
  have HS : Hid (RepS w (.slice ao ts.length cap) ts) := h
  generalize named d.n d.text d.names 0 0 = nb at P ⊢
  clear N hm hsz h
  cases nb with
  | false =>
    go_enter Tryz.func124, Tryz.ntmps124
    go_wp2_with fail
    refine P.mono ?_
    rintro e w' ⟨rfl, hw⟩
    replace hw := hw.symm
    subst hw
    clear P
    go_wp2_with fail
    go_ret
    exact ⟨rfl, Below.refl _ _⟩
  | true =>
    go_enter Tryz.func124, Tryz.ntmps124
    go_wp2_with fail
    refine P.mono ?_
    rintro e w' ⟨rfl, hw⟩
    replace hw := hw.symm
    subst hw
    clear P
    go_wp2_with fail
    refine (takesAll_any 2 (by omega) _ ts 1 51 w HS.out (by omega) (by omega)).mono ?_
    rintro e w1 ⟨rfl, hw1⟩
    have HB : Hid (Below w.heap.size w w1) := hw1
    clear hw1
    go_wp2_with fail
    go_ret
    exact ⟨ret_bool (by simp), HB.out⟩
end Go.Proofs.YtccnjmnafkfjdaaGreat.vt
