import Derived.Test.YtepbddfpdlapbaaMVtShapeB
import Derived.Test.YtepbddfpdlapbaaMVtFieldsB
namespace Go.Proofs.Ytepbddfpdlapbaa.vt
open Go.RowKit Go.Proofs.Ytepbddfpdlapbaa.bts Go.Proofs.Ytepbddfpdlapbaa.nod Go.Proofs.Ytepbddfpdlapbaa.lex
def knd (l : List Nd) (i : Nat) : Int := (l.getD i nd0).kind
def innerOf (kd : Int) (lp : Bool) : Bool := if kd = 4 ∨ kd = 5 ∨ kd = 7 then true else if kd = 19 then false else lp
def letAt (s : ByteArray) (k : Nat) : Int := if h : k < s.size then ((s[k]'h).toNat : Int) else 0
theorem letAt_in {s : ByteArray} {k : Nat} (h : k < s.size) : letAt s k = ((s[k]'h).toNat : Int) := by unfold letAt; rw [dif_pos h]
def headOk (kd nn : Int) (tx : List Int) (nms : List (List Int)) (ct : Int) (lp : Bool) : Bool :=
  decide (0 ≤ kd) && (decide (kd ≤ 26) && (fieldsB kd nn tx nms && (decide (((shape kd nn ct).size : Int) = ct) && (!((shape kd nn ct).toList == [63]) && (!(kd == 8) || lp)))))
def goodKids (f : Nat → Bool) (l : List Nd) (blk : Bool) (sh : ByteArray) : Nat → List Nat → Bool
  | _, [] => true
  | k, x :: r => fits (letAt sh k) (knd l x) && (f x && (!(blk && ((knd l x == 9 || knd l x == 8) && !r.isEmpty)) && goodKids f l blk sh (k + 1) r))
def good (l : List Nd) : Nat → Nat → Bool → Bool
  | 0, _, _ => false
  | d + 1, i, lp => headOk (knd l i) (l.getD i nd0).n (l.getD i nd0).text (l.getD i nd0).names (cnt l i) lp &&
      goodKids (fun x => good l d x (innerOf (knd l i) lp)) l (knd l i == 0) (shape (knd l i) (l.getD i nd0).n (cnt l i)) 0 (kids l i)
theorem kids_ok {l : List Nd} {d : Nat} (hd : d ≤ 200) : ∀ {c p e : Nat}, loopN (endAt l d) c p = some e → ∀ k, k < c → ∃ e', endAt l d ((kidsL l c p).getD k 0) = some e' := by
  intro c
  induction c with
  | zero => intro p e h k hk; omega
  | succ c ih =>
    intro p e h k hk
    cases hf : endAt l d p with
    | none => rw [loopN_none hf] at h; cases h
    | some m =>
      rw [loopN_some hf] at h
      cases k with
      | zero => exact ⟨m, by rw [kidsL]; exact hf⟩
      | succ k =>
        have e1 : (kidsL l (c + 1) p).getD (k + 1) 0 = (kidsL l c m).getD k 0 := by
          rw [kidsL]; unfold nx; rw [endAt_le hf hd]; rfl
        rw [e1]
        exact ih h k (by omega)
theorem goodKids_step {f : Nat → Bool} {l : List Nd} {blk : Bool} {sh : ByteArray} {ks : List Nat} {j : Nat} (h : j < ks.length) :
    goodKids f l blk sh j (ks.drop j) = (fits (letAt sh j) (knd l (ks.getD j 0)) && (f (ks.getD j 0) && (!(blk && ((knd l (ks.getD j 0) == 9 || knd l (ks.getD j 0) == 8) && decide (j + 1 < ks.length))) && goodKids f l blk sh (j + 1) (ks.drop (j + 1))))) := by
  have e : ks.drop j = ks.getD j 0 :: ks.drop (j + 1) := by
    rw [List.drop_eq_getElem_cons h]
    simp [List.getD_eq_getElem?_getD, List.getElem?_eq_getElem h]
  have e2 : (!(ks.drop (j + 1)).isEmpty) = decide (j + 1 < ks.length) := by
    rw [Bool.eq_iff_iff]
    simp only [Bool.not_eq_true', List.isEmpty_eq_false_iff, decide_eq_true_eq, ne_eq, List.drop_eq_nil_iff]
    omega
  rw [e, goodKids, e2]
set_option maxRecDepth 100000 in
set_option maxHeartbeats 4000000 in
theorem bad_neg (n cap b off i p ca q cn : Nat) (at_ an : Option Addr) (kd nn ct : Int) (lp : Bool) (w : World) (hin : i < n) (_hn : n ≤ 6000) (_hct : 0 ≤ ct) (_hct1 : ct ≤ 6000)
    (c0 : w.cell? ⟨b, off + i * 5, none⟩ = some (.int .i64 kd)) (c1 : w.cell? ⟨b, off + i * 5 + 1, none⟩ = some (.int .i64 nn)) (c2 : w.cell? ⟨b, off + i * 5 + 2, none⟩ = some (.slice at_ p ca)) (c3 : w.cell? ⟨b, off + i * 5 + 3, none⟩ = some (.slice an q cn)) (c4 : w.cell? ⟨b, off + i * 5 + 4, none⟩ = some (.int .i64 ct))
    (CS : Hid (∀ W, Calls Try.prog 71 #[.agg #[.int .i64 kd, .int .i64 nn, .slice at_ p ca, .slice an q cn, .int .i64 ct]] W fun x w' => x = .returned (.string (shape kd nn ct)) ∧ Below W.heap.size W w')) (h : kd < 0) :
    Calls Try.prog 62 #[.slice (some ⟨b, off, none⟩) n cap, .int .i64 i, .bool lp] w fun x w' => x = .returned (.bool false) ∧ Below w.heap.size w w' := by
  have HA : Hid (∀ wr, Below (w.heap.size + 1) (w.alloc (.cells #[.int .i64 kd, .int .i64 nn, .slice at_ p ca, .slice an q cn, .int .i64 ct] 75)) wr → wr.cell? ⟨w.heap.size, 0, none⟩ = some (.int .i64 kd) ∧ wr.cell? ⟨w.heap.size, 1, none⟩ = some (.int .i64 nn) ∧ wr.cell? ⟨w.heap.size, 2, none⟩ = some (.slice at_ p ca) ∧ wr.cell? ⟨w.heap.size, 3, none⟩ = some (.slice an q cn) ∧ wr.cell? ⟨w.heap.size, 4, none⟩ = some (.int .i64 ct) ∧ Below w.heap.size w wr) := by
    intro wr hb
    have hh := (hb.block w.heap.size (by omega)).trans (heap_alloc_new w _)
    exact ⟨by simp only [World.cell?, hh]; rfl, by simp only [World.cell?, hh]; rfl, by simp only [World.cell?, hh]; rfl, by simp only [World.cell?, hh]; rfl, by simp only [World.cell?, hh]; rfl, ((Below.refl _ _).alloc (Nat.le_refl _) _).trans (hb.mono (by omega))⟩
  go_enter Try.func62, Try.ntmps62
  go_wp2_with fail
  refine (CS.out _).mono ?_
  rintro x w1 ⟨rfl, hb1⟩
  simp only [World.size_alloc] at hb1
  obtain ⟨a0, a1, a2, a3, a4, hw1⟩ := HA.out w1 hb1
  have HB1 : Hid (Below (w.heap.size + 1) (w.alloc (.cells #[.int .i64 kd, .int .i64 nn, .slice at_ p ca, .slice an q cn, .int .i64 ct] 75)) w1) := hb1
  have HW1 : Hid (Below w.heap.size w w1) := hw1
  have hs1 := hb1.size
  simp only [World.size_alloc] at hs1
  clear hb1 hw1 c0 c1 c2 c3 c4
  go_wp2
  go_ret
  exact ⟨rfl, HW1.out⟩
set_option maxRecDepth 100000 in
set_option maxHeartbeats 4000000 in
theorem bad_big (n cap b off i p ca q cn : Nat) (at_ an : Option Addr) (kd nn ct : Int) (lp : Bool) (w : World) (hin : i < n) (_hn : n ≤ 6000) (_hct : 0 ≤ ct) (_hct1 : ct ≤ 6000)
    (c0 : w.cell? ⟨b, off + i * 5, none⟩ = some (.int .i64 kd)) (c1 : w.cell? ⟨b, off + i * 5 + 1, none⟩ = some (.int .i64 nn)) (c2 : w.cell? ⟨b, off + i * 5 + 2, none⟩ = some (.slice at_ p ca)) (c3 : w.cell? ⟨b, off + i * 5 + 3, none⟩ = some (.slice an q cn)) (c4 : w.cell? ⟨b, off + i * 5 + 4, none⟩ = some (.int .i64 ct))
    (CS : Hid (∀ W, Calls Try.prog 71 #[.agg #[.int .i64 kd, .int .i64 nn, .slice at_ p ca, .slice an q cn, .int .i64 ct]] W fun x w' => x = .returned (.string (shape kd nn ct)) ∧ Below W.heap.size W w')) (h : 26 < kd) :
    Calls Try.prog 62 #[.slice (some ⟨b, off, none⟩) n cap, .int .i64 i, .bool lp] w fun x w' => x = .returned (.bool false) ∧ Below w.heap.size w w' := by
  have e0 : decide (kd < 0) = false := by simp; omega
  have HA : Hid (∀ wr, Below (w.heap.size + 1) (w.alloc (.cells #[.int .i64 kd, .int .i64 nn, .slice at_ p ca, .slice an q cn, .int .i64 ct] 75)) wr → wr.cell? ⟨w.heap.size, 0, none⟩ = some (.int .i64 kd) ∧ wr.cell? ⟨w.heap.size, 1, none⟩ = some (.int .i64 nn) ∧ wr.cell? ⟨w.heap.size, 2, none⟩ = some (.slice at_ p ca) ∧ wr.cell? ⟨w.heap.size, 3, none⟩ = some (.slice an q cn) ∧ wr.cell? ⟨w.heap.size, 4, none⟩ = some (.int .i64 ct) ∧ Below w.heap.size w wr) := by
    intro wr hb
    have hh := (hb.block w.heap.size (by omega)).trans (heap_alloc_new w _)
    exact ⟨by simp only [World.cell?, hh]; rfl, by simp only [World.cell?, hh]; rfl, by simp only [World.cell?, hh]; rfl, by simp only [World.cell?, hh]; rfl, by simp only [World.cell?, hh]; rfl, ((Below.refl _ _).alloc (Nat.le_refl _) _).trans (hb.mono (by omega))⟩
  go_enter Try.func62, Try.ntmps62
  go_wp2_with fail
  refine (CS.out _).mono ?_
  rintro x w1 ⟨rfl, hb1⟩
  simp only [World.size_alloc] at hb1
  obtain ⟨a0, a1, a2, a3, a4, hw1⟩ := HA.out w1 hb1
  have HB1 : Hid (Below (w.heap.size + 1) (w.alloc (.cells #[.int .i64 kd, .int .i64 nn, .slice at_ p ca, .slice an q cn, .int .i64 ct] 75)) w1) := hb1
  have HW1 : Hid (Below w.heap.size w w1) := hw1
  have hs1 := hb1.size
  simp only [World.size_alloc] at hs1
  clear hb1 hw1 c0 c1 c2 c3 c4
  go_wp2
  go_ret
  exact ⟨rfl, HW1.out⟩
set_option maxRecDepth 100000 in
set_option maxHeartbeats 4000000 in
theorem bad_fields (n cap b off i p ca q cn : Nat) (at_ an : Option Addr) (kd nn ct : Int) (lp : Bool) (tx : List Int) (nms : List (List Int)) (w : World) (hin : i < n) (_hn : n ≤ 6000) (_hct : 0 ≤ ct) (_hct1 : ct ≤ 6000)
    (c0 : w.cell? ⟨b, off + i * 5, none⟩ = some (.int .i64 kd)) (c1 : w.cell? ⟨b, off + i * 5 + 1, none⟩ = some (.int .i64 nn)) (c2 : w.cell? ⟨b, off + i * 5 + 2, none⟩ = some (.slice at_ p ca)) (c3 : w.cell? ⟨b, off + i * 5 + 3, none⟩ = some (.slice an q cn)) (c4 : w.cell? ⟨b, off + i * 5 + 4, none⟩ = some (.int .i64 ct))
    (CS : Hid (∀ W, Calls Try.prog 71 #[.agg #[.int .i64 kd, .int .i64 nn, .slice at_ p ca, .slice an q cn, .int .i64 ct]] W fun x w' => x = .returned (.string (shape kd nn ct)) ∧ Below W.heap.size W w'))
    (CF : Hid (∀ W, Below w.heap.size w W → Calls Try.prog 72 #[.agg #[.int .i64 kd, .int .i64 nn, .slice at_ p ca, .slice an q cn, .int .i64 ct]] W fun e w' => e = .returned (.bool (fieldsB kd nn tx nms)) ∧ Below W.heap.size W w')) (h0 : 0 ≤ kd) (h26 : kd ≤ 26) (h : fieldsB kd nn tx nms = false) :
    Calls Try.prog 62 #[.slice (some ⟨b, off, none⟩) n cap, .int .i64 i, .bool lp] w fun x w' => x = .returned (.bool false) ∧ Below w.heap.size w w' := by
  have e0 : decide (kd < 0) = false := by simp; omega
  have e1 : decide (26 < kd) = false := by simp; omega
  rw [h] at CF
  have HA : Hid (∀ wr, Below (w.heap.size + 1) (w.alloc (.cells #[.int .i64 kd, .int .i64 nn, .slice at_ p ca, .slice an q cn, .int .i64 ct] 75)) wr → wr.cell? ⟨w.heap.size, 0, none⟩ = some (.int .i64 kd) ∧ wr.cell? ⟨w.heap.size, 1, none⟩ = some (.int .i64 nn) ∧ wr.cell? ⟨w.heap.size, 2, none⟩ = some (.slice at_ p ca) ∧ wr.cell? ⟨w.heap.size, 3, none⟩ = some (.slice an q cn) ∧ wr.cell? ⟨w.heap.size, 4, none⟩ = some (.int .i64 ct) ∧ Below w.heap.size w wr) := by
    intro wr hb
    have hh := (hb.block w.heap.size (by omega)).trans (heap_alloc_new w _)
    exact ⟨by simp only [World.cell?, hh]; rfl, by simp only [World.cell?, hh]; rfl, by simp only [World.cell?, hh]; rfl, by simp only [World.cell?, hh]; rfl, by simp only [World.cell?, hh]; rfl, ((Below.refl _ _).alloc (Nat.le_refl _) _).trans (hb.mono (by omega))⟩
  go_enter Try.func62, Try.ntmps62
  go_wp2_with fail
  refine (CS.out _).mono ?_
  rintro x w1 ⟨rfl, hb1⟩
  simp only [World.size_alloc] at hb1
  obtain ⟨a0, a1, a2, a3, a4, hw1⟩ := HA.out w1 hb1
  have HB1 : Hid (Below (w.heap.size + 1) (w.alloc (.cells #[.int .i64 kd, .int .i64 nn, .slice at_ p ca, .slice an q cn, .int .i64 ct] 75)) w1) := hb1
  have HW1 : Hid (Below w.heap.size w w1) := hw1
  have hs1 := hb1.size
  simp only [World.size_alloc] at hs1
  clear hb1 hw1 c0 c1 c2 c3 c4
  go_wp2_with fail
  refine (CF.out _ HW1.out).mono ?_
  rintro x w2 ⟨rfl, hb2⟩
  have HB2 : Hid (Below (w.heap.size + 1) (w.alloc (.cells #[.int .i64 kd, .int .i64 nn, .slice at_ p ca, .slice an q cn, .int .i64 ct] 75)) w2) := HB1.out.trans (hb2.mono hs1)
  obtain ⟨d0, d1, d2, d3, d4, hw2⟩ := HA.out w2 HB2.out
  have HW2 : Hid (Below w.heap.size w w2) := hw2
  have hs2 := hb2.size
  clear hb2 hw2 a0 a1 a2 a3 a4
  go_wp2
  go_ret
  exact ⟨rfl, HW2.out⟩
set_option maxRecDepth 100000 in
set_option maxHeartbeats 4000000 in
theorem bad_size (n cap b off i p ca q cn : Nat) (at_ an : Option Addr) (kd nn ct : Int) (lp : Bool) (tx : List Int) (nms : List (List Int)) (w : World) (hin : i < n) (_hn : n ≤ 6000) (_hct : 0 ≤ ct) (_hct1 : ct ≤ 6000)
    (c0 : w.cell? ⟨b, off + i * 5, none⟩ = some (.int .i64 kd)) (c1 : w.cell? ⟨b, off + i * 5 + 1, none⟩ = some (.int .i64 nn)) (c2 : w.cell? ⟨b, off + i * 5 + 2, none⟩ = some (.slice at_ p ca)) (c3 : w.cell? ⟨b, off + i * 5 + 3, none⟩ = some (.slice an q cn)) (c4 : w.cell? ⟨b, off + i * 5 + 4, none⟩ = some (.int .i64 ct))
    (CS : Hid (∀ W, Calls Try.prog 71 #[.agg #[.int .i64 kd, .int .i64 nn, .slice at_ p ca, .slice an q cn, .int .i64 ct]] W fun x w' => x = .returned (.string (shape kd nn ct)) ∧ Below W.heap.size W w'))
    (CF : Hid (∀ W, Below w.heap.size w W → Calls Try.prog 72 #[.agg #[.int .i64 kd, .int .i64 nn, .slice at_ p ca, .slice an q cn, .int .i64 ct]] W fun e w' => e = .returned (.bool (fieldsB kd nn tx nms)) ∧ Below W.heap.size W w')) (h0 : 0 ≤ kd) (h26 : kd ≤ 26) (hf : fieldsB kd nn tx nms = true) (h : ¬ ((shape kd nn ct).size : Int) = ct) :
    Calls Try.prog 62 #[.slice (some ⟨b, off, none⟩) n cap, .int .i64 i, .bool lp] w fun x w' => x = .returned (.bool false) ∧ Below w.heap.size w w' := by
  have e0 : decide (kd < 0) = false := by simp; omega
  have e1 : decide (26 < kd) = false := by simp; omega
  rw [hf] at CF
  have hne : (((shape kd nn ct).size : Int) != ct) = true := bne_iff_ne.mpr h
  generalize shape kd nn ct = sh at CS hne h
  have HA : Hid (∀ wr, Below (w.heap.size + 1) (w.alloc (.cells #[.int .i64 kd, .int .i64 nn, .slice at_ p ca, .slice an q cn, .int .i64 ct] 75)) wr → wr.cell? ⟨w.heap.size, 0, none⟩ = some (.int .i64 kd) ∧ wr.cell? ⟨w.heap.size, 1, none⟩ = some (.int .i64 nn) ∧ wr.cell? ⟨w.heap.size, 2, none⟩ = some (.slice at_ p ca) ∧ wr.cell? ⟨w.heap.size, 3, none⟩ = some (.slice an q cn) ∧ wr.cell? ⟨w.heap.size, 4, none⟩ = some (.int .i64 ct) ∧ Below w.heap.size w wr) := by
    intro wr hb
    have hh := (hb.block w.heap.size (by omega)).trans (heap_alloc_new w _)
    exact ⟨by simp only [World.cell?, hh]; rfl, by simp only [World.cell?, hh]; rfl, by simp only [World.cell?, hh]; rfl, by simp only [World.cell?, hh]; rfl, by simp only [World.cell?, hh]; rfl, ((Below.refl _ _).alloc (Nat.le_refl _) _).trans (hb.mono (by omega))⟩
  go_enter Try.func62, Try.ntmps62
  go_wp2_with fail
  refine (CS.out _).mono ?_
  rintro x w1 ⟨rfl, hb1⟩
  simp only [World.size_alloc] at hb1
  obtain ⟨a0, a1, a2, a3, a4, hw1⟩ := HA.out w1 hb1
  have HB1 : Hid (Below (w.heap.size + 1) (w.alloc (.cells #[.int .i64 kd, .int .i64 nn, .slice at_ p ca, .slice an q cn, .int .i64 ct] 75)) w1) := hb1
  have HW1 : Hid (Below w.heap.size w w1) := hw1
  have hs1 := hb1.size
  simp only [World.size_alloc] at hs1
  clear hb1 hw1 c0 c1 c2 c3 c4
  go_wp2_with fail
  refine (CF.out _ HW1.out).mono ?_
  rintro x w2 ⟨rfl, hb2⟩
  have HB2 : Hid (Below (w.heap.size + 1) (w.alloc (.cells #[.int .i64 kd, .int .i64 nn, .slice at_ p ca, .slice an q cn, .int .i64 ct] 75)) w2) := HB1.out.trans (hb2.mono hs1)
  obtain ⟨d0, d1, d2, d3, d4, hw2⟩ := HA.out w2 HB2.out
  have HW2 : Hid (Below w.heap.size w w2) := hw2
  have hs2 := hb2.size
  clear hb2 hw2 a0 a1 a2 a3 a4
  go_wp2
  go_ret
  exact ⟨rfl, HW2.out⟩
set_option maxRecDepth 100000 in
set_option maxHeartbeats 4000000 in
theorem bad_shape (n cap b off i p ca q cn : Nat) (at_ an : Option Addr) (kd nn ct : Int) (lp : Bool) (tx : List Int) (nms : List (List Int)) (w : World) (hin : i < n) (_hn : n ≤ 6000) (_hct : 0 ≤ ct) (_hct1 : ct ≤ 6000)
    (c0 : w.cell? ⟨b, off + i * 5, none⟩ = some (.int .i64 kd)) (c1 : w.cell? ⟨b, off + i * 5 + 1, none⟩ = some (.int .i64 nn)) (c2 : w.cell? ⟨b, off + i * 5 + 2, none⟩ = some (.slice at_ p ca)) (c3 : w.cell? ⟨b, off + i * 5 + 3, none⟩ = some (.slice an q cn)) (c4 : w.cell? ⟨b, off + i * 5 + 4, none⟩ = some (.int .i64 ct))
    (CS : Hid (∀ W, Calls Try.prog 71 #[.agg #[.int .i64 kd, .int .i64 nn, .slice at_ p ca, .slice an q cn, .int .i64 ct]] W fun x w' => x = .returned (.string (shape kd nn ct)) ∧ Below W.heap.size W w'))
    (CF : Hid (∀ W, Below w.heap.size w W → Calls Try.prog 72 #[.agg #[.int .i64 kd, .int .i64 nn, .slice at_ p ca, .slice an q cn, .int .i64 ct]] W fun e w' => e = .returned (.bool (fieldsB kd nn tx nms)) ∧ Below W.heap.size W w')) (h0 : 0 ≤ kd) (h26 : kd ≤ 26) (hf : fieldsB kd nn tx nms = true) (hsz : ((shape kd nn ct).size : Int) = ct) (h : ((shape kd nn ct).toList == [63]) = true) :
    Calls Try.prog 62 #[.slice (some ⟨b, off, none⟩) n cap, .int .i64 i, .bool lp] w fun x w' => x = .returned (.bool false) ∧ Below w.heap.size w w' := by
  have e0 : decide (kd < 0) = false := by simp; omega
  have e1 : decide (26 < kd) = false := by simp; omega
  rw [hf] at CF
  have hne : (((shape kd nn ct).size : Int) != ct) = false := by rw [hsz]; simp
  generalize shape kd nn ct = sh at CS hne h hsz
  have HA : Hid (∀ wr, Below (w.heap.size + 1) (w.alloc (.cells #[.int .i64 kd, .int .i64 nn, .slice at_ p ca, .slice an q cn, .int .i64 ct] 75)) wr → wr.cell? ⟨w.heap.size, 0, none⟩ = some (.int .i64 kd) ∧ wr.cell? ⟨w.heap.size, 1, none⟩ = some (.int .i64 nn) ∧ wr.cell? ⟨w.heap.size, 2, none⟩ = some (.slice at_ p ca) ∧ wr.cell? ⟨w.heap.size, 3, none⟩ = some (.slice an q cn) ∧ wr.cell? ⟨w.heap.size, 4, none⟩ = some (.int .i64 ct) ∧ Below w.heap.size w wr) := by
    intro wr hb
    have hh := (hb.block w.heap.size (by omega)).trans (heap_alloc_new w _)
    exact ⟨by simp only [World.cell?, hh]; rfl, by simp only [World.cell?, hh]; rfl, by simp only [World.cell?, hh]; rfl, by simp only [World.cell?, hh]; rfl, by simp only [World.cell?, hh]; rfl, ((Below.refl _ _).alloc (Nat.le_refl _) _).trans (hb.mono (by omega))⟩
  go_enter Try.func62, Try.ntmps62
  go_wp2_with fail
  refine (CS.out _).mono ?_
  rintro x w1 ⟨rfl, hb1⟩
  simp only [World.size_alloc] at hb1
  obtain ⟨a0, a1, a2, a3, a4, hw1⟩ := HA.out w1 hb1
  have HB1 : Hid (Below (w.heap.size + 1) (w.alloc (.cells #[.int .i64 kd, .int .i64 nn, .slice at_ p ca, .slice an q cn, .int .i64 ct] 75)) w1) := hb1
  have HW1 : Hid (Below w.heap.size w w1) := hw1
  have hs1 := hb1.size
  simp only [World.size_alloc] at hs1
  clear hb1 hw1 c0 c1 c2 c3 c4
  go_wp2_with fail
  refine (CF.out _ HW1.out).mono ?_
  rintro x w2 ⟨rfl, hb2⟩
  have HB2 : Hid (Below (w.heap.size + 1) (w.alloc (.cells #[.int .i64 kd, .int .i64 nn, .slice at_ p ca, .slice an q cn, .int .i64 ct] 75)) w2) := HB1.out.trans (hb2.mono hs1)
  obtain ⟨d0, d1, d2, d3, d4, hw2⟩ := HA.out w2 HB2.out
  have HW2 : Hid (Below w.heap.size w w2) := hw2
  have hs2 := hb2.size
  clear hb2 hw2 a0 a1 a2 a3 a4
  go_wp2
  go_ret
  exact ⟨rfl, HW2.out⟩
set_option maxRecDepth 100000 in
set_option maxHeartbeats 4000000 in
theorem bad_break (n cap b off i p ca q cn : Nat) (at_ an : Option Addr) (nn ct : Int) (lp : Bool) (tx : List Int) (nms : List (List Int)) (w : World) (hin : i < n) (_hn : n ≤ 6000) (_hct : 0 ≤ ct) (_hct1 : ct ≤ 6000)
    (c0 : w.cell? ⟨b, off + i * 5, none⟩ = some (.int .i64 8)) (c1 : w.cell? ⟨b, off + i * 5 + 1, none⟩ = some (.int .i64 nn)) (c2 : w.cell? ⟨b, off + i * 5 + 2, none⟩ = some (.slice at_ p ca)) (c3 : w.cell? ⟨b, off + i * 5 + 3, none⟩ = some (.slice an q cn)) (c4 : w.cell? ⟨b, off + i * 5 + 4, none⟩ = some (.int .i64 ct))
    (CS : Hid (∀ W, Calls Try.prog 71 #[.agg #[.int .i64 8, .int .i64 nn, .slice at_ p ca, .slice an q cn, .int .i64 ct]] W fun x w' => x = .returned (.string (shape 8 nn ct)) ∧ Below W.heap.size W w'))
    (CF : Hid (∀ W, Below w.heap.size w W → Calls Try.prog 72 #[.agg #[.int .i64 8, .int .i64 nn, .slice at_ p ca, .slice an q cn, .int .i64 ct]] W fun e w' => e = .returned (.bool (fieldsB 8 nn tx nms)) ∧ Below W.heap.size W w')) (hlp : lp = false) (hf : fieldsB 8 nn tx nms = true) (hsz : ((shape 8 nn ct).size : Int) = ct) (h : ((shape 8 nn ct).toList == [63]) = false) :
    Calls Try.prog 62 #[.slice (some ⟨b, off, none⟩) n cap, .int .i64 i, .bool lp] w fun x w' => x = .returned (.bool false) ∧ Below w.heap.size w w' := by
  subst hlp
  rw [hf] at CF
  have hne : (((shape 8 nn ct).size : Int) != ct) = false := by rw [hsz]; simp
  generalize shape 8 nn ct = sh at CS hne h hsz
  have HA : Hid (∀ wr, Below (w.heap.size + 1) (w.alloc (.cells #[.int .i64 8, .int .i64 nn, .slice at_ p ca, .slice an q cn, .int .i64 ct] 75)) wr → wr.cell? ⟨w.heap.size, 0, none⟩ = some (.int .i64 8) ∧ wr.cell? ⟨w.heap.size, 1, none⟩ = some (.int .i64 nn) ∧ wr.cell? ⟨w.heap.size, 2, none⟩ = some (.slice at_ p ca) ∧ wr.cell? ⟨w.heap.size, 3, none⟩ = some (.slice an q cn) ∧ wr.cell? ⟨w.heap.size, 4, none⟩ = some (.int .i64 ct) ∧ Below w.heap.size w wr) := by
    intro wr hb
    have hh := (hb.block w.heap.size (by omega)).trans (heap_alloc_new w _)
    exact ⟨by simp only [World.cell?, hh]; rfl, by simp only [World.cell?, hh]; rfl, by simp only [World.cell?, hh]; rfl, by simp only [World.cell?, hh]; rfl, by simp only [World.cell?, hh]; rfl, ((Below.refl _ _).alloc (Nat.le_refl _) _).trans (hb.mono (by omega))⟩
  go_enter Try.func62, Try.ntmps62
  go_wp2_with fail
  refine (CS.out _).mono ?_
  rintro x w1 ⟨rfl, hb1⟩
  simp only [World.size_alloc] at hb1
  obtain ⟨a0, a1, a2, a3, a4, hw1⟩ := HA.out w1 hb1
  have HB1 : Hid (Below (w.heap.size + 1) (w.alloc (.cells #[.int .i64 8, .int .i64 nn, .slice at_ p ca, .slice an q cn, .int .i64 ct] 75)) w1) := hb1
  have HW1 : Hid (Below w.heap.size w w1) := hw1
  have hs1 := hb1.size
  simp only [World.size_alloc] at hs1
  clear hb1 hw1 c0 c1 c2 c3 c4
  go_wp2_with fail
  refine (CF.out _ HW1.out).mono ?_
  rintro x w2 ⟨rfl, hb2⟩
  have HB2 : Hid (Below (w.heap.size + 1) (w.alloc (.cells #[.int .i64 8, .int .i64 nn, .slice at_ p ca, .slice an q cn, .int .i64 ct] 75)) w2) := HB1.out.trans (hb2.mono hs1)
  obtain ⟨d0, d1, d2, d3, d4, hw2⟩ := HA.out w2 HB2.out
  have HW2 : Hid (Below w.heap.size w w2) := hw2
  have hs2 := hb2.size
  clear hb2 hw2 a0 a1 a2 a3 a4
  go_wp2
  go_ret
  exact ⟨rfl, HW2.out⟩
end Go.Proofs.Ytepbddfpdlapbaa.vt
