import Derived.Test.YtccnjmnafkfjdaaGreatTrBase
import Derived.Handy
namespace Go.Proofs.YtccnjmnafkfjdaaGreat.vt
open Go.RowKit Go.Proofs.YtccnjmnafkfjdaaGreat.bts Go.Proofs.YtccnjmnafkfjdaaGreat.nod Go.Proofs.YtccnjmnafkfjdaaGreat.lex

/-- The pointer type of the program's nodes of a kind. -/
def ty (k : Int) : Nat :=
  if k = 0 then 74 else if k = 1 then 77 else if k = 2 then 81 else if k = 3 then 83 else if k = 4 then 85
  else if k = 5 then 87 else if k = 6 then 89 else if k = 7 then 91 else if k = 8 then 93 else if k = 9 then 95
  else if k = 10 then 97 else if k = 14 then 99 else if k = 15 then 101 else if k = 16 then 103 else if k = 17 then 105
  else if k = 18 then 107 else if k = 19 then 109 else if k = 20 then 111 else if k = 21 ∨ k = 22 ∨ k = 23 then 113 else if k = 24 ∨ k = 25 then 115
  else if k = 26 then 79 else 117
theorem kinds {P : Int → Prop} (h : P 0 ∧ P 1 ∧ P 2 ∧ P 3 ∧ P 4 ∧ P 5 ∧ P 6 ∧ P 7 ∧ P 8 ∧ P 9 ∧ P 10 ∧ P 11 ∧ P 12 ∧ P 13 ∧ P 14 ∧ P 15 ∧ P 16 ∧ P 17 ∧ P 18 ∧ P 19 ∧ P 20 ∧ P 21 ∧ P 22 ∧ P 23 ∧ P 24 ∧ P 25 ∧ P 26) {k : Int} (h0 : 0 ≤ k) (h26 : k ≤ 26) : P k := by
  obtain ⟨a0, a1, a2, a3, a4, a5, a6, a7, a8, a9, a10, a11, a12, a13, a14, a15, a16, a17, a18, a19, a20, a21, a22, a23, a24, a25, a26⟩ := h
  have : k = 0 ∨ k = 1 ∨ k = 2 ∨ k = 3 ∨ k = 4 ∨ k = 5 ∨ k = 6 ∨ k = 7 ∨ k = 8 ∨ k = 9 ∨ k = 10 ∨ k = 11 ∨ k = 12 ∨ k = 13 ∨ k = 14 ∨ k = 15 ∨ k = 16 ∨ k = 17 ∨ k = 18 ∨ k = 19 ∨ k = 20 ∨ k = 21 ∨ k = 22 ∨ k = 23 ∨ k = 24 ∨ k = 25 ∨ k = 26 := by omega
  rcases this with rfl | rfl | rfl | rfl | rfl | rfl | rfl | rfl | rfl | rfl | rfl | rfl | rfl | rfl | rfl | rfl | rfl | rfl | rfl | rfl | rfl | rfl | rfl | rfl | rfl | rfl | rfl <;> assumption
/-- The node's block: its six cells. -/
def NodeAt (w : World) (g : Nat) (d : Nd) (ut un pv : Value) : Prop :=
  w.cell? ⟨g, 0, none⟩ = some (.int .i64 d.kind) ∧ w.cell? ⟨g, 1, none⟩ = some (.int .i64 d.n) ∧ w.cell? ⟨g, 2, none⟩ = some ut ∧ w.cell? ⟨g, 3, none⟩ = some un ∧ w.cell? ⟨g, 4, none⟩ = some (.int .i64 d.count) ∧ w.cell? ⟨g, 5, none⟩ = some pv
theorem NodeAt.below {w w' : World} {g : Nat} {d : Nd} {ut un pv : Value} (h : NodeAt w g d ut un pv) (hb : Below w.heap.size w w') : NodeAt w' g d ut un pv := by
  obtain ⟨c0, c1, c2, c3, c4, c5⟩ := h
  have hlt := World.block_lt_of_cell? _ _ c0
  exact ⟨(hb.cell (p := ⟨g, 0, none⟩) hlt).trans c0, (hb.cell (p := ⟨g, 1, none⟩) hlt).trans c1, (hb.cell (p := ⟨g, 2, none⟩) hlt).trans c2, (hb.cell (p := ⟨g, 3, none⟩) hlt).trans c3, (hb.cell (p := ⟨g, 4, none⟩) hlt).trans c4, (hb.cell (p := ⟨g, 5, none⟩) hlt).trans c5⟩
/-- A slice of bytes whose capacity is known to be one. -/
def RcV (w : World) (v : Value) (zs : List Int) : Prop := ∃ ao cap, v = .slice ao zs.length cap ∧ zs.length ≤ cap ∧ cap ≤ 9223372036854775807 ∧ Rd w ao zs ∧ Bts zs
def RcVV (w : World) (v : Value) (l : List (List Int)) : Prop :=
  ∃ ao cap, v = .slice ao l.length cap ∧ l.length ≤ cap ∧ cap ≤ 9223372036854775807 ∧ ∀ i, i < l.length → ∃ b off u, ao = some ⟨b, off, none⟩ ∧ w.cell? ⟨b, off + i, none⟩ = some u ∧ RcV w u (l.getD i [])
def RcN (w : World) (ao : Option Addr) (l : List Nd) : Prop :=
  ∀ i, i < l.length → ∃ b off ut un, ao = some ⟨b, off, none⟩ ∧ w.cell? ⟨b, off + i * 5, none⟩ = some (.int .i64 (l.getD i nd0).kind) ∧ w.cell? ⟨b, off + i * 5 + 1, none⟩ = some (.int .i64 (l.getD i nd0).n) ∧
    w.cell? ⟨b, off + i * 5 + 2, none⟩ = some ut ∧ w.cell? ⟨b, off + i * 5 + 3, none⟩ = some un ∧ w.cell? ⟨b, off + i * 5 + 4, none⟩ = some (.int .i64 (l.getD i nd0).count) ∧ RcV w ut (l.getD i nd0).text ∧ RcVV w un (l.getD i nd0).names
theorem RcV.rd {w : World} {v : Value} {zs : List Int} (h : RcV w v zs) : RdV w v zs := by
  obtain ⟨ao, cap, e, h1, h2, hr, hz⟩ := h
  exact ⟨ao, cap, e, by omega, hr, hz⟩
theorem RcVV.rd {w : World} {v : Value} {l : List (List Int)} (h : RcVV w v l) : RdVV w v l := by
  obtain ⟨ao, cap, e, h1, h2, h⟩ := h
  refine ⟨ao, cap, e, by omega, fun i hi => ?_⟩
  obtain ⟨b, off, u, e, hc, hu⟩ := h i hi
  exact ⟨b, off, u, e, hc, hu.rd⟩
theorem RcV.below {w w' : World} {v : Value} {zs : List Int} (h : RcV w v zs) (hb : Below w.heap.size w w') : RcV w' v zs := by
  obtain ⟨ao, cap, e, h1, h2, hr, hz⟩ := h
  exact ⟨ao, cap, e, h1, h2, hr.below hb, hz⟩
theorem RcVV.below {w w' : World} {v : Value} {l : List (List Int)} (h : RcVV w v l) (hb : Below w.heap.size w w') : RcVV w' v l := by
  obtain ⟨ao, cap, e, h1, h2, h⟩ := h
  refine ⟨ao, cap, e, h1, h2, fun i hi => ?_⟩
  obtain ⟨b, off, u, e, hc, hr⟩ := h i hi
  exact ⟨b, off, u, e, (hb.cell (p := ⟨b, off + i, none⟩) (World.block_lt_of_cell? _ _ hc)).trans hc, hr.below hb⟩
theorem RcN.below {w w' : World} {ao : Option Addr} {l : List Nd} (h : RcN w ao l) (hb : Below w.heap.size w w') : RcN w' ao l := by
  intro i hi
  obtain ⟨b, off, ut, un, e, c0, c1, c2, c3, c4, ht, hn⟩ := h i hi
  have hlt := World.block_lt_of_cell? _ _ c0
  exact ⟨b, off, ut, un, e, (hb.cell (p := ⟨b, off + i * 5, none⟩) hlt).trans c0, (hb.cell (p := ⟨b, off + i * 5 + 1, none⟩) hlt).trans c1, (hb.cell (p := ⟨b, off + i * 5 + 2, none⟩) hlt).trans c2, (hb.cell (p := ⟨b, off + i * 5 + 3, none⟩) hlt).trans c3, (hb.cell (p := ⟨b, off + i * 5 + 4, none⟩) hlt).trans c4, ht.below hb, hn.below hb⟩
theorem OwS.rc {w : World} {B : Nat} {v : Value} {zs : List Int} (h : OwS w B v zs) (hb : Bts zs) (hm : zs.length ≤ 9223372036854775807) : RcV w v zs := by
  obtain ⟨ao, cap, e, _, hr, hz⟩ := h.rd hb hm
  obtain ⟨g, e2, _⟩ := h
  rw [e2] at e
  simp only [Value.slice.injEq] at e
  obtain ⟨rfl, _, rfl⟩ := e
  exact ⟨_, _, e2, Nat.le_refl _, hm, hr, hz⟩
theorem OwSS.rc {w : World} {B : Nat} {v : Value} {l : List (List Int)} (h : OwSS w B v l) (hok : ∀ i, i < l.length → Bts (l.getD i []) ∧ (l.getD i []).length ≤ 9223372036854775807) (hm : l.length ≤ 9223372036854775807) : RcVV w v l := by
  obtain ⟨g, us, e, ho, hx⟩ := h
  refine ⟨_, _, e, Nat.le_refl _, hm, fun i hi => ?_⟩
  obtain ⟨u, hu, hs⟩ := hx i hi
  exact ⟨g, 0, u, rfl, by rw [Nat.zero_add, ho.cellAt _ (by omega), hu], OwS.rc hs (hok i hi).1 (hok i hi).2⟩
theorem OwN.rc {w : World} {B : Nat} {g n : Nat} {l : List Nd} (h : OwN w B (.slice (some ⟨g, 0, none⟩) n n) l) (hok : ∀ i, i < l.length → NdOk (l.getD i nd0)) : RcN w (some ⟨g, 0, none⟩) l := by
  obtain ⟨g', us, e, ho, hx⟩ := h
  simp only [Value.slice.injEq, Option.some.injEq, Addr.mk.injEq, and_true] at e
  obtain ⟨rfl, _, _⟩ := e
  intro i hi
  obtain ⟨ut, un, h0, h1, h2, h3, h4, ht, hn⟩ := hx i hi
  have ok := hok i hi
  refine ⟨g, 0, ut, un, rfl, ?_, ?_, ?_, ?_, ?_, OwS.rc ht ok.1.1 ok.1.2, OwSS.rc hn ok.2.2 ok.2.1⟩
  · rw [Nat.zero_add, ho.cellAt _ (by omega), h0]
  · rw [Nat.zero_add, ho.cellAt _ (by omega), h1]
  · rw [Nat.zero_add, ho.cellAt _ (by omega), h2]
  · rw [Nat.zero_add, ho.cellAt _ (by omega), h3]
  · rw [Nat.zero_add, ho.cellAt _ (by omega), h4]
/-- The interface value is the tree. -/
def Rep : {D : Nat} → World → Value → Tr D → Prop
  | 0, _, _, _ => False
  | D + 1, w, v, t => ∃ (g : Nat) (ao : Option Addr) (cap : Nat) (ut un : Value) (U : Nat → Value), v = .iface (ty t.1.kind) (.pointer (some ⟨g, 0, none⟩)) ∧ 0 ≤ t.1.kind ∧ t.1.kind ≤ 26 ∧ t.2.length ≤ cap ∧ cap ≤ 9223372036854775807 ∧ t.2.length ≤ 1048576 ∧
      NodeAt w g t.1 ut un (.slice ao t.2.length cap) ∧ RcV w ut t.1.text ∧ RcVV w un t.1.names ∧ t.1.text.length + sizeSS t.1.names ≤ 1048576 ∧
      (∀ k, k < t.2.length → ∃ b off, ao = some ⟨b, off, none⟩ ∧ w.cell? ⟨b, off + k, none⟩ = some (U k)) ∧ (∀ k, k < t.2.length → Rep w (U k) (t.2.getD k (tr0 D)))
theorem Rep.kept {w w' : World} (hb : Below w.heap.size w w') : ∀ {D : Nat} {v : Value} {t : Tr D}, Rep w v t → Rep w' v t := by
  intro D
  induction D with
  | zero => intro v t h; exact h
  | succ D ih =>
    rintro v t ⟨g, ao, cap, ut, un, U, e, hk0, hk1, hlen, hcap, hl6, hn, ht, hm, hsz, hc, hr⟩
    refine ⟨g, ao, cap, ut, un, U, e, hk0, hk1, hlen, hcap, hl6, hn.below hb, ht.below hb, hm.below hb, hsz, fun k hk => ?_, fun k hk => ih (hr k hk)⟩
    obtain ⟨b, off, e, h⟩ := hc k hk
    exact ⟨b, off, e, (hb.cell (p := ⟨b, off + k, none⟩) (World.block_lt_of_cell? _ _ h)).trans h⟩
end Go.Proofs.YtccnjmnafkfjdaaGreat.vt
