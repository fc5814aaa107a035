import Derived.BigQuiet
import Derived.Deep.QuietTactic
import Derived.Handy
import Derived.Test.YtepbddfpdlapbaaMBytesMore
namespace Go.Proofs.Ytepbddfpdlapbaa.tk
open Go.RowKit Go.Proofs.Ytepbddfpdlapbaa.bts
theorem cellB {w w' : World} {b o : Nat} {v : Value} (h : w.cell? ⟨b, o, none⟩ = some v) (hb : Below w.heap.size w w') : w'.cell? ⟨b, o, none⟩ = some v :=
  (hb.cell (p := ⟨b, o, none⟩) (World.block_lt_of_cell? _ _ h)).trans h
theorem heap_lt {w : World} {b : Nat} {o : Obj} (h : w.heap[b]? = some o) : b < w.heap.size := by
  rcases Nat.lt_or_ge b w.heap.size with hlt | hge
  · exact hlt
  · rw [Array.getElem?_eq_none hge] at h; cases h
theorem bel_drewN {B : Nat} {a w : World} (h : Below B a w) (m : Nat) : Below B a (w.drewN m) := h.trans ⟨rfl, rfl, rfl, Nat.le_refl _, fun _ _ => rfl⟩
def Lone (T : TypeId) (c : Nat) (w : World) (g : Nat) (xs : List Value) : Prop := w.ownsRow 0 T c (.slice (some ⟨g, 0, none⟩) 1 1) 1 xs
theorem Lone.of {T : TypeId} {c : Nat} {w : World} {g : Nat} {xs : List Value} (h : w.heap[g]? = some (.cells xs.toArray T (0, 0))) (hc : xs.length = c) : Lone T c w g xs := by
  subst hc
  exact ⟨by omega, .inr ⟨g, 1, _, rfl, Nat.zero_le _, h, by omega, by unfold maxLen; omega, by simp, by simp⟩⟩
theorem Lone.below {T : TypeId} {c : Nat} {w w' : World} {B g : Nat} {xs : List Value} (h : Lone T c w g xs) (hb : Below B w w') (hg : g < B) : Lone T c w' g xs := own_below h hb hg
theorem Lone.set {T : TypeId} {c : Nat} {w : World} {g : Nat} {xs : List Value} (h : Lone T c w g xs) (j : Nat) (u : Value) : Lone T c (w.setCell ⟨g, j, none⟩ u) g (xs.set j u) := (World.ownsRow.stored h j u).1
theorem Lone.at {T : TypeId} {c : Nat} {w : World} {g j : Nat} {xs : List Value} (h : Lone T c w g xs) (hj : j < c) : w.cell? ⟨g, j, none⟩ = xs[j]? := World.ownsRow.cellAt h j (by omega)
theorem Lone.free {T : TypeId} {c : Nat} {w : World} {g : Nat} {xs : List Value} (h : Lone T c w g xs) (j : Nat) : w.frozen? ⟨g, j, none⟩ = false := World.ownsRow.frozenAt h j
theorem Lone.other {T : TypeId} {c : Nat} {w : World} {g b o : Nat} {u : Value} {xs : List Value} (h : Lone T c w g xs) (hb : ¬ b = g) : Lone T c (w.setCell ⟨b, o, none⟩ u) g xs := by
  obtain ⟨h1, h2⟩ := h
  refine ⟨h1, ?_⟩
  rcases h2 with h | ⟨g', c, cur, e', hb', hh, r⟩
  · exact .inl h
  · have e : g' = g := by simp at e'; exact e'.1.symm
    subst e
    exact .inr ⟨g', c, cur, e', hb', (Below.heap_setCell w ⟨b, o, none⟩ u g' (fun e => hb e.symm)).trans hh, r⟩
theorem Lone.back {T : TypeId} {c : Nat} {w : World} {g : Nat} {xs : List Value} (h : Lone T c w g xs) : w.heap[g]? = some (.cells xs.toArray T (0, 0)) := by
  have hl := h.1
  rcases h.2 with ⟨h, _⟩ | ⟨g', cap, cur, e', _, hh, _, _, hs, ht⟩
  · simp at h
  · simp only [Value.slice.injEq, Option.some.injEq, Addr.mk.injEq, and_true] at e'
    obtain ⟨rfl, _, rfl⟩ := e'
    have hc : cur = xs.toArray := by
      apply Array.toList_inj.mp
      rw [List.take_of_length_le (by rw [Array.length_toList]; omega)] at ht
      simpa using ht
    rw [hh, hc]
structure Fq (g : Nat) (w w' : World) : Prop where
  below : Below g w w'
  keep : ∀ b, b < w.heap.size → b ≠ g → w'.heap[b]? = w.heap[b]?
theorem Fq.refl (g : Nat) (w : World) : Fq g w w := ⟨Below.refl _ _, fun _ _ _ => rfl⟩
theorem Fq.trans {g : Nat} {a b c : World} (h : Fq g a b) (k : Fq g b c) : Fq g a c :=
  ⟨h.below.trans k.below, fun x hx hg => (k.keep x (Nat.lt_of_lt_of_le hx h.below.size) hg).trans (h.keep x hx hg)⟩
theorem Fq.grown {g : Nat} {a b c : World} (h : Fq g a b) (hg : g ≤ b.heap.size) (k : Below b.heap.size b c) : Fq g a c :=
  h.trans ⟨k.mono hg, fun x hx _ => k.block x hx⟩
theorem Fq.of {g : Nat} {a b : World} (hg : g ≤ a.heap.size) (k : Below a.heap.size a b) : Fq g a b := (Fq.refl g a).grown hg k
theorem Fq.set {g o : Nat} (w : World) (v : Value) : Fq g w (w.setCell ⟨g, o, none⟩ v) :=
  ⟨(Below.refl _ _).setCell (p := ⟨g, o, none⟩) (Nat.le_refl _) _, fun b _ hb => Below.heap_setCell w ⟨g, o, none⟩ _ b hb⟩
theorem drew_lone {T : TypeId} {c g : Nat} {w : World} {xs : List Value} (h : Lone T c w g xs) (k : Nat) : Lone T c (w.drewN k) g xs := h.below (bel_drewN (Below.refl _ _) k) (heap_lt h.back)
theorem Fq.drewN {g : Nat} {w w' : World} (h : Fq g w w') (k : Nat) : Fq g w (w'.drewN k) := ⟨bel_drewN h.below k, fun b hb hbg => by
  have : (w'.drewN k).heap = w'.heap := World.heap_drewN _ _
  rw [this]
  exact h.keep b hb hbg⟩
def nx (bs : List Int) (i : Nat) : Int := if i < bs.length then bs.getD i 0 else 0
def nxi (bs : List Int) (i : Nat) : Nat := if i < bs.length then i + 1 else i
def Rr (w0 : World) (av : Option Addr) (cv : Nat) (bs : List Int) (w : World) (r i : Nat) : Prop :=
  Below w0.heap.size w0 w ∧ w0.heap.size ≤ r ∧ Lone 37 2 w r [.slice av bs.length cv, .int .i64 (i : Int)] ∧ i ≤ bs.length
theorem Rr.lt {w0 w : World} {av : Option Addr} {cv r i : Nat} {bs : List Int} (h : Rr w0 av cv bs w r i) : r < w.heap.size := heap_lt h.2.2.1.back
theorem Rr.keep {w0 w w' : World} {av : Option Addr} {cv r i : Nat} {bs : List Int} (h : Rr w0 av cv bs w r i) (hb : Below w.heap.size w w') : Rr w0 av cv bs w' r i :=
  ⟨h.1.trans (hb.mono h.1.size), h.2.1, h.2.2.1.below hb h.lt, h.2.2.2⟩
set_option maxRecDepth 100000 in
set_option maxHeartbeats 1000000 in
theorem next_any (w0 w : World) (av : Option Addr) (cv r i : Nat) (bs : List Int) (hr : Rd w0 av bs) (hb : Bts bs) (hl : bs.length ≤ 600) (h : Rr w0 av cv bs w r i) :
    Calls Try.prog 9 #[.pointer (some ⟨r, 0, none⟩)] w fun e w' => e = .returned (.int .i64 (nx bs i)) ∧ Rr w0 av cv bs w' r (nxi bs i) ∧ Fq r w w' := by
  obtain ⟨h1, h2, hL, hi⟩ := h
  have HL : Hid (Lone 37 2 w r [.slice av bs.length cv, .int .i64 (i : Int)]) := hL
  have H1 : Hid (Below w0.heap.size w0 w ∧ w0.heap.size ≤ r) := ⟨h1, h2⟩
  have c0 : w.cell? ⟨r, 0, none⟩ = some (.slice av bs.length cv) := hL.at (j := 0) (by omega)
  have c1 : w.cell? ⟨r, 1, none⟩ = some (.int .i64 (i : Int)) := hL.at (j := 1) (by omega)
  by_cases hlt : (bs.length : Int) ≤ (i : Int)
  · have e1 : nx bs i = 0 := by unfold nx; rw [if_neg (by omega)]
    have e2 : nxi bs i = i := by unfold nxi; rw [if_neg (by omega)]
    rw [e1, e2]
    clear h1 h2 hL
    go_enter Try.func9, Try.ntmps9
    go_wp2_with fail
    go_quiet (fail)
    go_wp2
    go_returns
    exact ⟨rfl, ⟨bel_drewN H1.out.1 _, H1.out.2, drew_lone HL.out _, hi⟩, (Fq.refl r w).drewN _⟩
  · have ha : i < bs.length := by omega
    have e1 : nx bs i = bs.getD i 0 := by unfold nx; rw [if_pos ha]
    have e2 : nxi bs i = i + 1 := by unfold nxi; rw [if_pos ha]
    obtain ⟨b, off, rfl, hcell⟩ := hr i ha
    have hz := hb i
    rw [e1, e2]
    generalize bs.getD i 0 = z at hcell hz
    have HC : Hid (∀ W, Below w0.heap.size w0 W → W.cell? ⟨b, off + i, none⟩ = some (.int .u8 z)) := fun W h => cellB hcell h
    have k0 := HC.out w h1
    clear h1 h2 hL hcell hr
    go_enter Try.func9, Try.ntmps9
    go_wp2_with fail
    go_quiet (fail)
    rename Nat => n1
    go_wp2_with fail
    go_quiet (fail)
    have L1 := drew_lone (drew_lone HL.out n1) nq
    have d1 : ((w.drewN n1).drewN nq).cell? ⟨r, 1, none⟩ = some (.int .i64 (i : Int)) := L1.at (j := 1) (by omega)
    have f1 := L1.free 1
    have P : Hid (Rr w0 (some ⟨b, off, none⟩) cv bs (((w.drewN n1).drewN nq).setCell ⟨r, 1, none⟩ (.int .i64 ((i : Int) + 1))) r (i + 1) ∧ Fq r w (((w.drewN n1).drewN nq).setCell ⟨r, 1, none⟩ (.int .i64 ((i : Int) + 1)))) :=
      ⟨⟨(bel_drewN (bel_drewN H1.out.1 n1) nq).setCell (p := ⟨r, 1, none⟩) H1.out.2 _, H1.out.2, L1.set 1 _, ha⟩, (((Fq.refl r w).drewN n1).drewN nq).trans (Fq.set _ _)⟩
    clear L1
    generalize (w.drewN n1).drewN nq = W1 at d1 f1 P ⊢
    go_wp2
    go_returns
    exact ⟨rfl, P.out⟩
set_option maxRecDepth 100000 in
theorem left_any (w0 w : World) (av : Option Addr) (cv r i : Nat) (bs : List Int) (hl : bs.length ≤ 600) (h : Rr w0 av cv bs w r i) :
    Calls Try.prog 48 #[.pointer (some ⟨r, 0, none⟩)] w fun e w' => e = .returned (.int .i64 ((bs.length - i : Nat) : Int)) ∧ Rr w0 av cv bs w' r i ∧ Fq r w w' := by
  obtain ⟨h1, h2, hL, hi⟩ := h
  have HL : Hid (Lone 37 2 w r [.slice av bs.length cv, .int .i64 (i : Int)]) := hL
  have H1 : Hid (Below w0.heap.size w0 w ∧ w0.heap.size ≤ r) := ⟨h1, h2⟩
  have c0 : w.cell? ⟨r, 0, none⟩ = some (.slice av bs.length cv) := hL.at (j := 0) (by omega)
  have c1 : w.cell? ⟨r, 1, none⟩ = some (.int .i64 (i : Int)) := hL.at (j := 1) (by omega)
  have e0 : ((bs.length - i : Nat) : Int) = (bs.length : Int) - (i : Int) := by omega
  rw [e0]
  clear h1 h2 hL
  go_enter Try.func48, Try.ntmps48
  go_wp2_with fail
  go_quiet (fail)
  go_wp2
  go_returns
  exact ⟨rfl, ⟨bel_drewN H1.out.1 _, H1.out.2, drew_lone HL.out _, hi⟩, (Fq.refl r w).drewN _⟩
set_option maxRecDepth 100000 in
set_option maxHeartbeats 1000000 in
theorem open_any (w : World) (av : Option Addr) (cv : Nat) (zs : List Int) (hc : zs.length ≤ cv) (hl : cv ≤ 9223372036854775807) :
    Calls Try.prog 8 #[.slice av zs.length cv] w fun e w' => ∃ r, e = .returned (.pointer (some ⟨r, 0, none⟩)) ∧ Rr w av cv (zs.take 600) w' r 0 ∧ Below w.heap.size w w' ∧ r = w.heap.size := by
  have fin : ∀ n : Nat, (zs.take 600).length = n → Rr w av cv (zs.take 600) (w.alloc (.cells #[.slice av n cv, .int .i64 0] 37)) w.heap.size 0 ∧ Below w.heap.size w (w.alloc (.cells #[.slice av n cv, .int .i64 0] 37)) := fun n hn => by
    have hb : Below w.heap.size w (w.alloc (.cells #[.slice av n cv, .int .i64 0] 37)) := (Below.refl _ _).alloc (Nat.le_refl _) _
    exact ⟨⟨hb, Nat.le_refl _, Lone.of (by rw [hn]; exact heap_alloc_new _ _) rfl, Nat.zero_le _⟩, hb⟩
  by_cases h6 : 600 < zs.length
  · have F := fin 600 (by rw [List.length_take]; omega)
    go_enter Try.func8, Try.ntmps8
    go_wp2
    go_returns
    exact ⟨w.heap.size, rfl, F.1, F.2, rfl⟩
  · have F := fin zs.length (by rw [List.length_take]; omega)
    have h7 : ¬ ((600 : Int) < (zs.length : Int)) := by omega
    go_enter Try.func8, Try.ntmps8
    go_wp2
    go_returns
    exact ⟨w.heap.size, rfl, F.1, F.2, rfl⟩
end Go.Proofs.Ytepbddfpdlapbaa.tk
