import Derived.Test.YteagakplhfiodaaDoorBytesMore
import Derived.Deep.Slices
import Derived.OpenShut
namespace Go.Proofs.YteagakplhfiodaaDoor.pg
open Go.RowKit Go.Proofs.YteagakplhfiodaaDoor.bts Go.ChangeShapes Go.Deep

/-- An instruction, a capture, a constant, a function, a program. -/
structure In where
  op : Int
  a : Int
  b : Int
structure Cp where
  up : Bool
  index : Int
structure Cn where
  isText : Bool
  n : Int
  text : List Int
structure Pr where
  params : Int
  slots : Int
  caps : List Cp
  code : List In
structure Pg where
  consts : List Cn
  protos : List Pr

def in0 : In := ⟨0, 0, 0⟩
def cp0 : Cp := ⟨false, 0⟩
def cn0 : Cn := ⟨false, 0, []⟩
def pr0 : Pr := ⟨0, 0, [], []⟩

/-- The value is a slice that reads as the list of bytes. -/
def RdV (w : World) (v : Value) (zs : List Int) : Prop := ∃ ao cap, v = .slice ao zs.length cap ∧ zs.length ≤ 9223372036854775807 ∧ Rd w ao zs ∧ Bts zs
/-- The slice at this address reads as the list. -/
def RdI (w : World) (ao : Option Addr) (l : List In) : Prop :=
  ∀ i, i < l.length → ∃ b off, ao = some ⟨b, off, none⟩ ∧ w.cell? ⟨b, off + i * 3, none⟩ = some (.int .i64 (l.getD i in0).op) ∧ w.cell? ⟨b, off + i * 3 + 1, none⟩ = some (.int .i64 (l.getD i in0).a) ∧ w.cell? ⟨b, off + i * 3 + 2, none⟩ = some (.int .i64 (l.getD i in0).b)
def RdC (w : World) (ao : Option Addr) (l : List Cp) : Prop :=
  ∀ i, i < l.length → ∃ b off, ao = some ⟨b, off, none⟩ ∧ w.cell? ⟨b, off + i * 2, none⟩ = some (.bool (l.getD i cp0).up) ∧ w.cell? ⟨b, off + i * 2 + 1, none⟩ = some (.int .i64 (l.getD i cp0).index)
/-- The value is such a slice. -/
def RdIV (w : World) (v : Value) (l : List In) : Prop := ∃ ao cap, v = .slice ao l.length cap ∧ l.length ≤ 9223372036854775807 ∧ RdI w ao l
def RdCV (w : World) (v : Value) (l : List Cp) : Prop := ∃ ao cap, v = .slice ao l.length cap ∧ l.length ≤ 9223372036854775807 ∧ RdC w ao l
def RdK (w : World) (ao : Option Addr) (l : List Cn) : Prop :=
  ∀ i, i < l.length → ∃ b off ut, ao = some ⟨b, off, none⟩ ∧ w.cell? ⟨b, off + i * 3, none⟩ = some (.bool (l.getD i cn0).isText) ∧ w.cell? ⟨b, off + i * 3 + 1, none⟩ = some (.int .i64 (l.getD i cn0).n) ∧ w.cell? ⟨b, off + i * 3 + 2, none⟩ = some ut ∧ RdV w ut (l.getD i cn0).text
def RdP (w : World) (ao : Option Addr) (l : List Pr) : Prop :=
  ∀ i, i < l.length → ∃ b off uc ud, ao = some ⟨b, off, none⟩ ∧ w.cell? ⟨b, off + i * 4, none⟩ = some (.int .i64 (l.getD i pr0).params) ∧ w.cell? ⟨b, off + i * 4 + 1, none⟩ = some (.int .i64 (l.getD i pr0).slots) ∧
    w.cell? ⟨b, off + i * 4 + 2, none⟩ = some uc ∧ w.cell? ⟨b, off + i * 4 + 3, none⟩ = some ud ∧ RdCV w uc (l.getD i pr0).caps ∧ RdIV w ud (l.getD i pr0).code
def RdKV (w : World) (v : Value) (l : List Cn) : Prop := ∃ ao cap, v = .slice ao l.length cap ∧ l.length ≤ 9223372036854775807 ∧ RdK w ao l
def RdPV (w : World) (v : Value) (l : List Pr) : Prop := ∃ ao cap, v = .slice ao l.length cap ∧ l.length ≤ 9223372036854775807 ∧ RdP w ao l

theorem RdV.below {w w' : World} {v : Value} {zs : List Int} (h : RdV w v zs) (hb : Below w.heap.size w w') : RdV w' v zs := by
  obtain ⟨ao, cap, e, hm, hr, hz⟩ := h
  exact ⟨ao, cap, e, hm, hr.below hb, hz⟩
theorem cellB {w w' : World} {b o : Nat} {v : Value} (h : w.cell? ⟨b, o, none⟩ = some v) (hb : Below w.heap.size w w') : w'.cell? ⟨b, o, none⟩ = some v :=
  (hb.cell (p := ⟨b, o, none⟩) (World.block_lt_of_cell? _ _ h)).trans h
theorem RdI.below {w w' : World} {ao : Option Addr} {l : List In} (h : RdI w ao l) (hb : Below w.heap.size w w') : RdI w' ao l := by
  intro i hi
  obtain ⟨b, off, e, c0, c1, c2⟩ := h i hi
  exact ⟨b, off, e, cellB c0 hb, cellB c1 hb, cellB c2 hb⟩
theorem RdC.below {w w' : World} {ao : Option Addr} {l : List Cp} (h : RdC w ao l) (hb : Below w.heap.size w w') : RdC w' ao l := by
  intro i hi
  obtain ⟨b, off, e, c0, c1⟩ := h i hi
  exact ⟨b, off, e, cellB c0 hb, cellB c1 hb⟩
theorem RdIV.below {w w' : World} {v : Value} {l : List In} (h : RdIV w v l) (hb : Below w.heap.size w w') : RdIV w' v l := by
  obtain ⟨ao, cap, e, hm, h⟩ := h
  exact ⟨ao, cap, e, hm, h.below hb⟩
theorem RdCV.below {w w' : World} {v : Value} {l : List Cp} (h : RdCV w v l) (hb : Below w.heap.size w w') : RdCV w' v l := by
  obtain ⟨ao, cap, e, hm, h⟩ := h
  exact ⟨ao, cap, e, hm, h.below hb⟩
theorem RdK.below {w w' : World} {ao : Option Addr} {l : List Cn} (h : RdK w ao l) (hb : Below w.heap.size w w') : RdK w' ao l := by
  intro i hi
  obtain ⟨b, off, ut, e, c0, c1, c2, ht⟩ := h i hi
  exact ⟨b, off, ut, e, cellB c0 hb, cellB c1 hb, cellB c2 hb, ht.below hb⟩
theorem RdP.below {w w' : World} {ao : Option Addr} {l : List Pr} (h : RdP w ao l) (hb : Below w.heap.size w w') : RdP w' ao l := by
  intro i hi
  obtain ⟨b, off, uc, ud, e, c0, c1, c2, c3, hc, hd⟩ := h i hi
  exact ⟨b, off, uc, ud, e, cellB c0 hb, cellB c1 hb, cellB c2 hb, cellB c3 hb, hc.below hb, hd.below hb⟩
theorem RdKV.below {w w' : World} {v : Value} {l : List Cn} (h : RdKV w v l) (hb : Below w.heap.size w w') : RdKV w' v l := by
  obtain ⟨ao, cap, e, hm, h⟩ := h
  exact ⟨ao, cap, e, hm, h.below hb⟩
theorem RdPV.below {w w' : World} {v : Value} {l : List Pr} (h : RdPV w v l) (hb : Below w.heap.size w w') : RdPV w' v l := by
  obtain ⟨ao, cap, e, hm, h⟩ := h
  exact ⟨ao, cap, e, hm, h.below hb⟩

theorem cellsBy : Tryd.prog.cellsOf 5 = 1 := by kernel_rfl
theorem cellsBys : Tryd.prog.cellsOf 22 = 1 := by kernel_rfl
theorem cellsInt : Tryd.prog.cellsOf 3 = 1 := by kernel_rfl
theorem cellsBool : Tryd.prog.cellsOf 4 = 1 := by kernel_rfl

theorem plainAt {b off : Nat} {i : Nat} : (⟨b, off, none⟩ : Addr).add i = ⟨b, off + i, none⟩ := by
  unfold Addr.add; split
  · rename_i h; rw [h, Nat.add_zero]
  · rfl

section
variable {H : Type} {enc : TypeId × Value → H} {W : World} {held : Bool}

theorem open_bytes {fuel : Nat} {v : Value} {x : DataW H × List MemPlace} (h : DataW.trod enc Tryd.prog W 0 (fun _ => true) held fuel 22 [v] = some x) : ∃ zs, RdV W v zs := by
  rcases open_ints Tryd.underlying22 Tryd.underlying5 cellsBy h with ⟨hcs, _⟩ | ⟨a, l, c, zs, hcs, _, hl, hm, hz, _, hcell, hwz⟩
  · simp only [List.cons.injEq, and_true] at hcs
    subst hcs
    exact ⟨[], none, 0, rfl, by simp, fun i hi => absurd hi (by simp), fun i => by simp⟩
  · simp only [List.cons.injEq, and_true] at hcs
    subst hcs
    have hR : IsRow .u8 W (some a) l c zs := .inr ⟨_, rfl, hl, hm, by simpa using hz, hcell, hwz⟩
    obtain ⟨ys, hy, hr, hb⟩ := isRow_rd hR
    exact ⟨ys, some a, c, by rw [hy], by unfold maxLen at hm; omega, hr, hb⟩

theorem open_bool1 {fuel : Nat} {v : Value} {x : DataW H × List MemPlace} (h : DataW.trod enc Tryd.prog W 0 (fun _ => true) held fuel 4 [v] = some x) : ∃ b, v = .bool b := by
  obtain ⟨b, e, _⟩ := DataW.trod_bool Tryd.underlying4 h
  simp only [List.cons.injEq, and_true] at e
  exact ⟨b, e⟩
theorem open_int1 {fuel : Nat} {v : Value} {x : DataW H × List MemPlace} (h : DataW.trod enc Tryd.prog W 0 (fun _ => true) held fuel 3 [v] = some x) : ∃ z, v = .int .i64 z := by
  obtain ⟨z, e, _, _⟩ := DataW.trod_int Tryd.underlying3 h
  simp only [List.cons.injEq, and_true] at e
  exact ⟨z, e⟩

theorem field {m : Nat} {T : TypeId} {cs : List Value} {o : Nat} {v : Value} {y : DataW H × List MemPlace} (h : DataW.trod enc Tryd.prog W 0 (fun _ => true) held m T ((cs.drop o).take (Tryd.prog.cellsOf T)) = some y) (hc : Tryd.prog.cellsOf T = 1) (e : (cs.drop o).take 1 = [v]) : DataW.trod enc Tryd.prog W 0 (fun _ => true) held m T [v] = some y := by
  rw [hc, e] at h; exact h

/-- The cells of a slice of elements, each opened. -/
theorem open_row {α : Type} [Inhabited α] {T E : TypeId} {c : Nat} (p : α → List Value → Prop) {fuel : Nat} {v : Value} {x : DataW H × List MemPlace} (hu : Tryd.prog.underlying T = some (.slice E)) (hc : Tryd.prog.cellsOf E = c) (hc0 : 0 < c) (_ : ∀ d cs, p d cs → cs.length = c)
    (elem : ∀ {fuel : Nat} {cs : List Value} {x : DataW H × List MemPlace}, DataW.trod enc Tryd.prog W 0 (fun _ => true) held fuel E cs = some x → ∃ d, p d cs)
    (h : DataW.trod enc Tryd.prog W 0 (fun _ => true) held fuel T [v] = some x) :
    ∃ (l : List α) (ao : Option Addr) (cap : Nat), v = .slice ao l.length cap ∧ l.length ≤ 9223372036854775807 ∧ ∀ i, i < l.length → ∃ b off cs, ao = some ⟨b, off, none⟩ ∧ p (l.getD i default) cs ∧ ∀ j, j < c → W.cell? ⟨b, off + i * c + j, none⟩ = cs[j]? := by
  rcases open_slice hu h with ⟨hcs, _⟩ | ⟨a, len, cap, m, n, D, Pl, hcs, _, hl, hm, hmm, _, hx⟩
  · simp only [List.cons.injEq, and_true] at hcs
    subst hcs
    exact ⟨[], none, 0, rfl, by simp, fun i hi => absurd hi (by simp)⟩
  · simp only [List.cons.injEq, and_true] at hcs
    subst hcs
    simp only [if_true] at hmm
    rw [hc] at hx
    by_cases h0 : len = 0
    · subst h0
      exact ⟨[], some a, cap, rfl, by simp, fun i hi => absurd hi (by simp)⟩
    obtain ⟨b, off, spot⟩ := a
    have hs : spot = none := by
      obtain ⟨cs', h1, _⟩ := hx 0 (by omega)
      obtain ⟨_, hlen, hcc⟩ := World.cells?_some h1
      have := hcc 0 (by omega)
      rw [List.getElem?_eq_getElem (by omega)] at this
      simpa [Addr.add] using World.cell?_spot this
    subst hs
    obtain ⟨F, hF⟩ := choose_lt (α := α) (p := fun i d => ∃ cs, p d cs ∧ ∀ j, j < c → W.cell? ⟨b, off + i * c + j, none⟩ = cs[j]?) (n := len) (fun i hi => by
      obtain ⟨cs', h1, h2⟩ := hx i (by omega)
      obtain ⟨_, hlen, hcc⟩ := World.cells?_some h1
      obtain ⟨d, hd⟩ := elem h2
      refine ⟨d, cs', hd, fun j hj => ?_⟩
      have := hcc j (by omega)
      simpa only [plainAt] using this)
    refine ⟨(List.range len).map F, some ⟨b, off, none⟩, cap, by simp, by unfold maxLen at hm; simp; omega, fun i hi => ?_⟩
    simp only [List.length_map, List.length_range] at hi
    have e : ((List.range len).map F).getD i default = F i := by simp [List.getD_eq_getElem?_getD, hi]
    rw [e]
    obtain ⟨cs, h1, h2⟩ := hF i hi
    exact ⟨b, off, cs, rfl, h1, h2⟩

end
end Go.Proofs.YteagakplhfiodaaDoor.pg
