import Derived.Test.YtccnjmnafkfjdaaGreatBytesMore
import Derived.Deep.Slices
import Derived.OpenShut
namespace Go.Proofs.YtccnjmnafkfjdaaGreat.nod
open Go.RowKit Go.Proofs.YtccnjmnafkfjdaaGreat.bts Go.ChangeShapes Go.Deep

/-- A node. -/
structure Nd where
  kind : Int
  n : Int
  text : List Int
  names : List (List Int)
  count : Int

/-- The node with nothing in it. -/
def nd0 : Nd := ⟨0, 0, [], [], 0⟩

/-- The value is a slice that reads as the list of bytes. -/
def RdV (w : World) (v : Value) (zs : List Int) : Prop := ∃ ao cap, v = .slice ao zs.length cap ∧ zs.length ≤ 9223372036854775807 ∧ Rd w ao zs ∧ Bts zs
/-- The value is a slice of slices of bytes. -/
def RdVV (w : World) (v : Value) (l : List (List Int)) : Prop :=
  ∃ ao cap, v = .slice ao l.length cap ∧ l.length ≤ 9223372036854775807 ∧ ∀ i, i < l.length → ∃ b off u, ao = some ⟨b, off, none⟩ ∧ w.cell? ⟨b, off + i, none⟩ = some u ∧ RdV w u (l.getD i [])
/-- The slice at this address reads as the list of nodes. -/
def RdN (w : World) (ao : Option Addr) (l : List Nd) : Prop :=
  ∀ i, i < l.length → ∃ b off ut un, ao = some ⟨b, off, none⟩ ∧ w.cell? ⟨b, off + i * 5, none⟩ = some (.int .i64 (l.getD i nd0).kind) ∧ w.cell? ⟨b, off + i * 5 + 1, none⟩ = some (.int .i64 (l.getD i nd0).n) ∧
    w.cell? ⟨b, off + i * 5 + 2, none⟩ = some ut ∧ w.cell? ⟨b, off + i * 5 + 3, none⟩ = some un ∧ w.cell? ⟨b, off + i * 5 + 4, none⟩ = some (.int .i64 (l.getD i nd0).count) ∧ RdV w ut (l.getD i nd0).text ∧ RdVV w un (l.getD i nd0).names

theorem RdV.below {w w' : World} {v : Value} {zs : List Int} (h : RdV w v zs) (hb : Below w.heap.size w w') : RdV w' v zs := by
  obtain ⟨ao, cap, e, hm, hr, hz⟩ := h
  exact ⟨ao, cap, e, hm, hr.below hb, hz⟩
theorem RdVV.below {w w' : World} {v : Value} {l : List (List Int)} (h : RdVV w v l) (hb : Below w.heap.size w w') : RdVV w' v l := by
  obtain ⟨ao, cap, e, hm, h⟩ := h
  refine ⟨ao, cap, e, hm, fun i hi => ?_⟩
  obtain ⟨b, off, u, e, hc, hr⟩ := h i hi
  exact ⟨b, off, u, e, (hb.cell (p := ⟨b, off + i, none⟩) (World.block_lt_of_cell? _ _ hc)).trans hc, hr.below hb⟩
theorem RdN.below {w w' : World} {ao : Option Addr} {l : List Nd} (h : RdN w ao l) (hb : Below w.heap.size w w') : RdN w' ao l := by
  intro i hi
  obtain ⟨b, off, ut, un, e, c0, c1, c2, c3, c4, ht, hn⟩ := h i hi
  have hlt := World.block_lt_of_cell? _ _ c0
  exact ⟨b, off, ut, un, e, (hb.cell (p := ⟨b, off + i * 5, none⟩) hlt).trans c0, (hb.cell (p := ⟨b, off + i * 5 + 1, none⟩) hlt).trans c1, (hb.cell (p := ⟨b, off + i * 5 + 2, none⟩) hlt).trans c2, (hb.cell (p := ⟨b, off + i * 5 + 3, none⟩) hlt).trans c3, (hb.cell (p := ⟨b, off + i * 5 + 4, none⟩) hlt).trans c4, ht.below hb, hn.below hb⟩

theorem cells25 : Tryz.prog.cellsOf 30 = 1 := by kernel_rfl
theorem cells5 : Tryz.prog.cellsOf 5 = 1 := by kernel_rfl
theorem cellsNode : Tryz.prog.cellsOf 33 = 5 := by kernel_rfl
theorem cells52 : Tryz.prog.cellsOf 31 = 1 := by kernel_rfl
theorem cells3 : Tryz.prog.cellsOf 3 = 1 := by kernel_rfl

theorem plainAt {b off : Nat} {i : Nat} : (⟨b, off, none⟩ : Addr).add i = ⟨b, off + i, none⟩ := by
  unfold Addr.add; split
  · rename_i h; rw [h, Nat.add_zero]
  · rfl

section
variable {H : Type} {enc : TypeId × Value → H} {W : World} {held : Bool}

theorem open_bytes {fuel : Nat} {v : Value} {x : DataW H × List MemPlace} (h : DataW.trod enc Tryz.prog W 0 (fun _ => true) held fuel 30 [v] = some x) : ∃ zs, RdV W v zs := by
  rcases open_ints Tryz.underlying30 Tryz.underlying5 cells5 h with ⟨hcs, _⟩ | ⟨a, l, c, zs, hcs, _, hl, hm, hz, _, hcell, hwz⟩
  · simp only [List.cons.injEq, and_true] at hcs
    subst hcs
    exact ⟨[], none, 0, rfl, by simp, fun i hi => absurd hi (by simp), fun i => by simp⟩
  · simp only [List.cons.injEq, and_true] at hcs
    subst hcs
    have hR : IsRow .u8 W (some a) l c zs := .inr ⟨_, rfl, hl, hm, by simpa using hz, hcell, hwz⟩
    obtain ⟨ys, hy, hr, hb⟩ := isRow_rd hR
    exact ⟨ys, some a, c, by rw [hy], by unfold maxLen at hm; omega, hr, hb⟩

theorem open_texts {fuel : Nat} {v : Value} {x : DataW H × List MemPlace} (h : DataW.trod enc Tryz.prog W 0 (fun _ => true) held fuel 31 [v] = some x) : ∃ l, RdVV W v l := by
  rcases open_slice1 Tryz.underlying31 cells25 h with ⟨hcs, _⟩ | ⟨a, len, cap, m, n, V, D, Pl, hcs, _, hl, hm, hmm, _, hx⟩
  · simp only [List.cons.injEq, and_true] at hcs
    subst hcs
    exact ⟨[], none, 0, rfl, by simp, fun i hi => absurd hi (by simp)⟩
  · simp only [List.cons.injEq, and_true] at hcs
    subst hcs
    simp only [if_true] at hmm
    obtain ⟨F, hF⟩ := choose_lt (α := List Int) (p := fun i zs => RdV W (V i) zs) (n := len) (fun i hi => open_bytes (hx i (by omega)).2)
    refine ⟨(List.range len).map F, some a, cap, by simp, by unfold maxLen at hm; simp; omega, fun i hi => ?_⟩
    simp only [List.length_map, List.length_range] at hi
    obtain ⟨b, off, spot⟩ := a
    have h0 := (hx 0 (by omega)).1
    have hs : spot = none := by simpa [Addr.add] using World.cell?_spot h0
    subst hs
    refine ⟨b, off, V i, rfl, ?_, ?_⟩
    · have := (hx i (by omega)).1; rwa [plainAt] at this
    · have e : ((List.range len).map F).getD i [] = F i := by simp [List.getD_eq_getElem?_getD, hi]
      rw [e]; exact hF i hi

set_option maxRecDepth 100000 in
theorem open_node {fuel : Nat} {cs : List Value} {x : DataW H × List MemPlace} (h : DataW.trod enc Tryz.prog W 0 (fun _ => true) held fuel 33 cs = some x) :
    ∃ (k n c : Int) (ut un : Value) (t : List Int) (ns : List (List Int)), cs = [.int .i64 k, .int .i64 n, ut, un, .int .i64 c] ∧ RdV W ut t ∧ RdVV W un ns := by
  obtain ⟨xs, m, _, _, hl, hlen, hf⟩ := DataW.trod_struct Tryz.underlying33 h
  rw [cellsNode] at hl
  match cs, hl with
  | [v0, v1, v2, v3, v4], _ =>
    match xs, hlen with
    | [y0, y1, y2, y3, y4], _ =>
      have f0 : DataW.trod enc Tryz.prog W 0 (fun _ => true) held m 3 [v0] = some y0 := by
        have := hf 0 _ rfl
        change DataW.trod enc Tryz.prog W 0 (fun _ => true) held m 3 (([v0, v1, v2, v3, v4].drop 0).take (Tryz.prog.cellsOf 3)) = _ at this
        rw [cells3] at this
        exact this
      have f1 : DataW.trod enc Tryz.prog W 0 (fun _ => true) held m 3 [v1] = some y1 := by
        have := hf 1 _ rfl
        change DataW.trod enc Tryz.prog W 0 (fun _ => true) held m 3 (([v0, v1, v2, v3, v4].drop 1).take (Tryz.prog.cellsOf 3)) = _ at this
        rw [cells3] at this
        exact this
      have f2 : DataW.trod enc Tryz.prog W 0 (fun _ => true) held m 30 [v2] = some y2 := by
        have := hf 2 _ rfl
        change DataW.trod enc Tryz.prog W 0 (fun _ => true) held m 30 (([v0, v1, v2, v3, v4].drop 2).take (Tryz.prog.cellsOf 30)) = _ at this
        rw [cells25] at this
        exact this
      have f3 : DataW.trod enc Tryz.prog W 0 (fun _ => true) held m 31 [v3] = some y3 := by
        have := hf 3 _ rfl
        change DataW.trod enc Tryz.prog W 0 (fun _ => true) held m 31 (([v0, v1, v2, v3, v4].drop 3).take (Tryz.prog.cellsOf 31)) = _ at this
        rw [cells52] at this
        exact this
      have f4 : DataW.trod enc Tryz.prog W 0 (fun _ => true) held m 3 [v4] = some y4 := by
        have := hf 4 _ rfl
        change DataW.trod enc Tryz.prog W 0 (fun _ => true) held m 3 (([v0, v1, v2, v3, v4].drop 4).take (Tryz.prog.cellsOf 3)) = _ at this
        rw [cells3] at this
        exact this
      obtain ⟨k, e0, _, _⟩ := DataW.trod_int Tryz.underlying3 f0
      obtain ⟨n, e1, _, _⟩ := DataW.trod_int Tryz.underlying3 f1
      obtain ⟨c, e4, _, _⟩ := DataW.trod_int Tryz.underlying3 f4
      obtain ⟨t, ht⟩ := open_bytes f2
      obtain ⟨ns, hns⟩ := open_texts f3
      simp only [List.cons.injEq, and_true] at e0 e1 e4
      subst e0 e1 e4
      exact ⟨k, n, c, v2, v3, t, ns, rfl, ht, hns⟩

set_option maxRecDepth 100000 in
theorem open_nodes {fuel : Nat} {a0 : Option Addr} {len cap : Nat} {x : DataW H × List MemPlace} (h : DataW.trod enc Tryz.prog W 0 (fun _ => true) held fuel 22 [.slice a0 len cap] = some x) :
    ∃ l : List Nd, l.length = len ∧ len ≤ 9223372036854775807 ∧ RdN W a0 l := by
  rcases open_slice Tryz.underlying22 h with ⟨hcs, _⟩ | ⟨a, len', cap', m, n, D, Pl, hcs, _, hl, hm, hmm, _, hx⟩
  · simp only [List.cons.injEq, Value.slice.injEq, and_true] at hcs
    obtain ⟨rfl, rfl, rfl⟩ := hcs
    exact ⟨[], rfl, by simp, fun i hi => absurd hi (by simp)⟩
  · simp only [List.cons.injEq, Value.slice.injEq, and_true] at hcs
    obtain ⟨rfl, rfl, rfl⟩ := hcs
    simp only [if_true] at hmm
    rw [cellsNode] at hx
    by_cases h0 : len = 0
    · exact ⟨[], h0.symm, by omega, fun i hi => absurd hi (by simp)⟩
    obtain ⟨b, off, spot⟩ := a
    have hs : spot = none := by
      obtain ⟨cs', h1, _⟩ := hx 0 (by omega)
      obtain ⟨_, hlen, hc⟩ := World.cells?_some h1
      have := hc 0 (by omega)
      rw [List.getElem?_eq_getElem (by omega)] at this
      simpa [Addr.add] using World.cell?_spot this
    subst hs
    have inh : Inhabited Nd := ⟨nd0⟩
    obtain ⟨F, hF⟩ := choose_lt (α := Nd) (p := fun i d => ∃ ut un, W.cell? ⟨b, off + i * 5, none⟩ = some (.int .i64 d.kind) ∧ W.cell? ⟨b, off + i * 5 + 1, none⟩ = some (.int .i64 d.n) ∧
        W.cell? ⟨b, off + i * 5 + 2, none⟩ = some ut ∧ W.cell? ⟨b, off + i * 5 + 3, none⟩ = some un ∧ W.cell? ⟨b, off + i * 5 + 4, none⟩ = some (.int .i64 d.count) ∧ RdV W ut d.text ∧ RdVV W un d.names) (n := len) (fun i hi => by
      obtain ⟨cs', h1, h2⟩ := hx i (by omega)
      obtain ⟨_, hlen, hc⟩ := World.cells?_some h1
      obtain ⟨k, n, c, ut, un, t, ns, rfl, ht, hns⟩ := open_node h2
      have c0 := hc 0 (by omega)
      have c1 := hc 1 (by omega)
      have c2 := hc 2 (by omega)
      have c3 := hc 3 (by omega)
      have c4 := hc 4 (by omega)
      simp only [plainAt, Nat.add_zero] at c0 c1 c2 c3 c4
      exact ⟨⟨k, n, t, ns, c⟩, ut, un, c0, c1, c2, c3, c4, ht, hns⟩)
    refine ⟨(List.range len).map F, by simp, by unfold maxLen at hm; omega, fun i hi => ?_⟩
    simp only [List.length_map, List.length_range] at hi
    have e : ((List.range len).map F).getD i nd0 = F i := by simp [List.getD_eq_getElem?_getD, hi]
    rw [e]
    obtain ⟨ut, un, r⟩ := hF i hi
    exact ⟨b, off, ut, un, rfl, r⟩
end
end Go.Proofs.YtccnjmnafkfjdaaGreat.nod
