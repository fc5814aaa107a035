import Derived.Test.YteagakplhfiodaaDoorPgSz
import Derived.Handy
namespace Go.Proofs.YteagakplhfiodaaDoor.pg
open Go.RowKit Go.Proofs.YteagakplhfiodaaDoor.bts

/-- The value is a slice of bytes in memory from block B on that the call owns. -/
def OwS (w : World) (B : Nat) (v : Value) (zs : List Int) : Prop := ∃ g, v = .slice (some ⟨g, 0, none⟩) zs.length zs.length ∧ w.ownsRow B 5 1 (.slice (some ⟨g, 0, none⟩) zs.length zs.length) zs.length (bcells zs)
def InAt (us : List Value) (j : Nat) (d : In) : Prop := us[j * 3]? = some (.int .i64 d.op) ∧ us[j * 3 + 1]? = some (.int .i64 d.a) ∧ us[j * 3 + 2]? = some (.int .i64 d.b)
def CpAt (us : List Value) (j : Nat) (d : Cp) : Prop := us[j * 2]? = some (.bool d.up) ∧ us[j * 2 + 1]? = some (.int .i64 d.index)
/-- The value is a slice of instructions, of captures. -/
def OwI (w : World) (B : Nat) (v : Value) (l : List In) : Prop :=
  ∃ (g : Nat) (us : List Value), v = .slice (some ⟨g, 0, none⟩) l.length l.length ∧ w.ownsRow B 50 3 (.slice (some ⟨g, 0, none⟩) l.length l.length) l.length us ∧ ∀ j, j < l.length → InAt us j (l.getD j in0)
def OwC (w : World) (B : Nat) (v : Value) (l : List Cp) : Prop :=
  ∃ (g : Nat) (us : List Value), v = .slice (some ⟨g, 0, none⟩) l.length l.length ∧ w.ownsRow B 48 2 (.slice (some ⟨g, 0, none⟩) l.length l.length) l.length us ∧ ∀ j, j < l.length → CpAt us j (l.getD j cp0)
def CnAt (w : World) (B : Nat) (us : List Value) (j : Nat) (d : Cn) : Prop :=
  ∃ ut, us[j * 3]? = some (.bool d.isText) ∧ us[j * 3 + 1]? = some (.int .i64 d.n) ∧ us[j * 3 + 2]? = some ut ∧ OwS w B ut d.text
def PrAt (w : World) (B : Nat) (us : List Value) (j : Nat) (d : Pr) : Prop :=
  ∃ uc ud, us[j * 4]? = some (.int .i64 d.params) ∧ us[j * 4 + 1]? = some (.int .i64 d.slots) ∧ us[j * 4 + 2]? = some uc ∧ us[j * 4 + 3]? = some ud ∧ OwC w B uc d.caps ∧ OwI w B ud d.code
/-- The value is a slice of constants, of functions. -/
def OwK (w : World) (B : Nat) (v : Value) (l : List Cn) : Prop :=
  ∃ (g : Nat) (us : List Value), v = .slice (some ⟨g, 0, none⟩) l.length l.length ∧ w.ownsRow B 40 3 (.slice (some ⟨g, 0, none⟩) l.length l.length) l.length us ∧ ∀ j, j < l.length → CnAt w (g + 1) us j (l.getD j cn0)
def OwP (w : World) (B : Nat) (v : Value) (l : List Pr) : Prop :=
  ∃ (g : Nat) (us : List Value), v = .slice (some ⟨g, 0, none⟩) l.length l.length ∧ w.ownsRow B 46 4 (.slice (some ⟨g, 0, none⟩) l.length l.length) l.length us ∧ ∀ j, j < l.length → PrAt w (g + 1) us j (l.getD j pr0)

theorem own_weaken {w : World} {B B' n E c : Nat} {v : Value} {us : List Value} (h : w.ownsRow B E c v n us) (hB : B' ≤ B) : w.ownsRow B' E c v n us := by
  obtain ⟨h1, h2⟩ := h
  refine ⟨h1, ?_⟩
  rcases h2 with h | ⟨g', c, cur, e', hb, r⟩
  · exact .inl h
  · exact .inr ⟨g', c, cur, e', by omega, r⟩

theorem OwS.below {w w' : World} {B X : Nat} {v : Value} {l : List Int} (h : OwS w B v l) (hb : Below X w w') (hX : w.heap.size ≤ X) : OwS w' B v l := by
  obtain ⟨g, e, ho⟩ := h
  exact ⟨g, e, own_below ho hb (Nat.lt_of_lt_of_le (ho.lt g rfl).2 hX)⟩
theorem OwS.store {w : World} {B b o : Nat} {v u : Value} {l : List Int} (h : OwS w B v l) (hb : b < B) : OwS (w.setCell ⟨b, o, none⟩ u) B v l := by
  obtain ⟨g, e, ho⟩ := h
  exact ⟨g, e, ownsRow_setCell_below ho hb u⟩
theorem OwS.weaken {w : World} {B B' : Nat} {v : Value} {l : List Int} (h : OwS w B v l) (hB : B' ≤ B) : OwS w B' v l := by
  obtain ⟨g, e, ho⟩ := h
  exact ⟨g, e, own_weaken ho hB⟩

theorem OwI.below {w w' : World} {B X : Nat} {v : Value} {l : List In} (h : OwI w B v l) (hb : Below X w w') (hX : w.heap.size ≤ X) : OwI w' B v l := by
  obtain ⟨g, us, e, ho, hx⟩ := h
  exact ⟨g, us, e, own_below ho hb (Nat.lt_of_lt_of_le (ho.lt g rfl).2 hX), hx⟩
theorem OwI.store {w : World} {B b o : Nat} {v u : Value} {l : List In} (h : OwI w B v l) (hb : b < B) : OwI (w.setCell ⟨b, o, none⟩ u) B v l := by
  obtain ⟨g, us, e, ho, hx⟩ := h
  exact ⟨g, us, e, ownsRow_setCell_below ho hb u, hx⟩
theorem OwI.weaken {w : World} {B B' : Nat} {v : Value} {l : List In} (h : OwI w B v l) (hB : B' ≤ B) : OwI w B' v l := by
  obtain ⟨g, us, e, ho, hx⟩ := h
  exact ⟨g, us, e, own_weaken ho hB, hx⟩

theorem OwC.below {w w' : World} {B X : Nat} {v : Value} {l : List Cp} (h : OwC w B v l) (hb : Below X w w') (hX : w.heap.size ≤ X) : OwC w' B v l := by
  obtain ⟨g, us, e, ho, hx⟩ := h
  exact ⟨g, us, e, own_below ho hb (Nat.lt_of_lt_of_le (ho.lt g rfl).2 hX), hx⟩
theorem OwC.store {w : World} {B b o : Nat} {v u : Value} {l : List Cp} (h : OwC w B v l) (hb : b < B) : OwC (w.setCell ⟨b, o, none⟩ u) B v l := by
  obtain ⟨g, us, e, ho, hx⟩ := h
  exact ⟨g, us, e, ownsRow_setCell_below ho hb u, hx⟩
theorem OwC.weaken {w : World} {B B' : Nat} {v : Value} {l : List Cp} (h : OwC w B v l) (hB : B' ≤ B) : OwC w B' v l := by
  obtain ⟨g, us, e, ho, hx⟩ := h
  exact ⟨g, us, e, own_weaken ho hB, hx⟩

theorem OwS.rd {w : World} {B : Nat} {v : Value} {zs : List Int} (h : OwS w B v zs) (hz : Bts zs) (hm : zs.length ≤ 9223372036854775807) : RdV w v zs := by
  obtain ⟨g, e, ho⟩ := h
  exact ⟨_, _, e, hm, Rd.own ho, hz⟩
theorem OwI.rd {w : World} {B : Nat} {v : Value} {l : List In} (h : OwI w B v l) (hm : l.length ≤ 9223372036854775807) : RdIV w v l := by
  obtain ⟨g, us, e, ho, hx⟩ := h
  refine ⟨_, _, e, hm, fun i hi => ?_⟩
  obtain ⟨h0, h1, h2⟩ := hx i hi
  refine ⟨g, 0, rfl, ?_, ?_, ?_⟩
  · rw [Nat.zero_add, ho.cellAt _ (by omega), h0]
  · rw [Nat.zero_add, ho.cellAt _ (by omega), h1]
  · rw [Nat.zero_add, ho.cellAt _ (by omega), h2]
theorem OwC.rd {w : World} {B : Nat} {v : Value} {l : List Cp} (h : OwC w B v l) (hm : l.length ≤ 9223372036854775807) : RdCV w v l := by
  obtain ⟨g, us, e, ho, hx⟩ := h
  refine ⟨_, _, e, hm, fun i hi => ?_⟩
  obtain ⟨h0, h1⟩ := hx i hi
  refine ⟨g, 0, rfl, ?_, ?_⟩
  · rw [Nat.zero_add, ho.cellAt _ (by omega), h0]
  · rw [Nat.zero_add, ho.cellAt _ (by omega), h1]

theorem CnAt.below {w w' : World} {B X j : Nat} {us : List Value} {d : Cn} (h : CnAt w B us j d) (hb : Below X w w') (hX : w.heap.size ≤ X) : CnAt w' B us j d := by
  obtain ⟨ut, h0, h1, h2, o0⟩ := h
  exact ⟨ut, h0, h1, h2, o0.below hb hX⟩
theorem CnAt.store {w : World} {B b o j : Nat} {u : Value} {us : List Value} {d : Cn} (h : CnAt w B us j d) (hb : b < B) : CnAt (w.setCell ⟨b, o, none⟩ u) B us j d := by
  obtain ⟨ut, h0, h1, h2, o0⟩ := h
  exact ⟨ut, h0, h1, h2, o0.store hb⟩
theorem CnAt.other {w : World} {B j k i : Nat} {u : Value} {us : List Value} {d : Cn} (h : CnAt w B us j d) (hk : ¬ k = j) (hi : i < 3) : CnAt w B (us.set (k * 3 + i) u) j d := by
  obtain ⟨ut, h0, h1, h2, o0⟩ := h
  refine ⟨ut, ?_, ?_, ?_, o0⟩
  all_goals rw [List.getElem?_set_ne (by omega)]; assumption

theorem PrAt.below {w w' : World} {B X j : Nat} {us : List Value} {d : Pr} (h : PrAt w B us j d) (hb : Below X w w') (hX : w.heap.size ≤ X) : PrAt w' B us j d := by
  obtain ⟨uc, ud, h0, h1, h2, h3, o0, o1⟩ := h
  exact ⟨uc, ud, h0, h1, h2, h3, o0.below hb hX, o1.below hb hX⟩
theorem PrAt.store {w : World} {B b o j : Nat} {u : Value} {us : List Value} {d : Pr} (h : PrAt w B us j d) (hb : b < B) : PrAt (w.setCell ⟨b, o, none⟩ u) B us j d := by
  obtain ⟨uc, ud, h0, h1, h2, h3, o0, o1⟩ := h
  exact ⟨uc, ud, h0, h1, h2, h3, o0.store hb, o1.store hb⟩
theorem PrAt.other {w : World} {B j k i : Nat} {u : Value} {us : List Value} {d : Pr} (h : PrAt w B us j d) (hk : ¬ k = j) (hi : i < 4) : PrAt w B (us.set (k * 4 + i) u) j d := by
  obtain ⟨uc, ud, h0, h1, h2, h3, o0, o1⟩ := h
  refine ⟨uc, ud, ?_, ?_, ?_, ?_, o0, o1⟩
  all_goals rw [List.getElem?_set_ne (by omega)]; assumption

theorem OwK.below {w w' : World} {B X : Nat} {v : Value} {l : List Cn} (h : OwK w B v l) (hb : Below X w w') (hX : w.heap.size ≤ X) : OwK w' B v l := by
  obtain ⟨g, us, e, ho, h⟩ := h
  exact ⟨g, us, e, own_below ho hb (Nat.lt_of_lt_of_le (ho.lt g rfl).2 hX), fun i hi => (h i hi).below hb hX⟩
theorem OwK.store {w : World} {B b o : Nat} {v u : Value} {l : List Cn} (h : OwK w B v l) (hb : b < B) : OwK (w.setCell ⟨b, o, none⟩ u) B v l := by
  obtain ⟨g, us, e, ho, h⟩ := h
  have hg := (ho.lt g rfl).1
  exact ⟨g, us, e, ownsRow_setCell_below ho hb u, fun i hi => (h i hi).store (by omega)⟩
theorem OwK.weaken {w : World} {B B' : Nat} {v : Value} {l : List Cn} (h : OwK w B v l) (hB : B' ≤ B) : OwK w B' v l := by
  obtain ⟨g, us, e, ho, h⟩ := h
  exact ⟨g, us, e, own_weaken ho hB, h⟩

theorem OwP.below {w w' : World} {B X : Nat} {v : Value} {l : List Pr} (h : OwP w B v l) (hb : Below X w w') (hX : w.heap.size ≤ X) : OwP w' B v l := by
  obtain ⟨g, us, e, ho, h⟩ := h
  exact ⟨g, us, e, own_below ho hb (Nat.lt_of_lt_of_le (ho.lt g rfl).2 hX), fun i hi => (h i hi).below hb hX⟩
theorem OwP.store {w : World} {B b o : Nat} {v u : Value} {l : List Pr} (h : OwP w B v l) (hb : b < B) : OwP (w.setCell ⟨b, o, none⟩ u) B v l := by
  obtain ⟨g, us, e, ho, h⟩ := h
  have hg := (ho.lt g rfl).1
  exact ⟨g, us, e, ownsRow_setCell_below ho hb u, fun i hi => (h i hi).store (by omega)⟩
theorem OwP.weaken {w : World} {B B' : Nat} {v : Value} {l : List Pr} (h : OwP w B v l) (hB : B' ≤ B) : OwP w B' v l := by
  obtain ⟨g, us, e, ho, h⟩ := h
  exact ⟨g, us, e, own_weaken ho hB, h⟩

/-- The texts are of bytes; all lists are short. -/
def KOk (l : List Cn) : Prop := l.length ≤ 9223372036854775807 ∧ ∀ i, i < l.length → Bts (l.getD i cn0).text ∧ (l.getD i cn0).text.length ≤ 9223372036854775807
def POk (l : List Pr) : Prop := l.length ≤ 9223372036854775807 ∧ ∀ i, i < l.length → (l.getD i pr0).caps.length ≤ 9223372036854775807 ∧ (l.getD i pr0).code.length ≤ 9223372036854775807
theorem RdKV.ok {w : World} {v : Value} {l : List Cn} (h : RdKV w v l) : KOk l := by
  obtain ⟨_, _, _, h1, h⟩ := h
  refine ⟨h1, fun i hi => ?_⟩
  obtain ⟨_, _, _, _, _, _, _, _, _, _, h2, _, h3⟩ := h i hi
  exact ⟨h3, h2⟩
theorem RdPV.ok {w : World} {v : Value} {l : List Pr} (h : RdPV w v l) : POk l := by
  obtain ⟨_, _, _, h1, h⟩ := h
  refine ⟨h1, fun i hi => ?_⟩
  obtain ⟨_, _, _, _, _, _, _, _, _, ⟨_, _, _, h2, _⟩, _, _, _, h3, _⟩ := h i hi
  exact ⟨h2, h3⟩
theorem OwK.rd {w : World} {B : Nat} {v : Value} {l : List Cn} (h : OwK w B v l) (ok : KOk l) : RdKV w v l := by
  obtain ⟨g, us, e, ho, hx⟩ := h
  refine ⟨_, _, e, ok.1, fun i hi => ?_⟩
  obtain ⟨ut, h0, h1, h2, ht⟩ := hx i hi
  refine ⟨g, 0, ut, rfl, ?_, ?_, ?_, ht.rd (ok.2 i hi).1 (ok.2 i hi).2⟩
  · rw [Nat.zero_add, ho.cellAt _ (by omega), h0]
  · rw [Nat.zero_add, ho.cellAt _ (by omega), h1]
  · rw [Nat.zero_add, ho.cellAt _ (by omega), h2]
theorem OwP.rd {w : World} {B : Nat} {v : Value} {l : List Pr} (h : OwP w B v l) (ok : POk l) : RdPV w v l := by
  obtain ⟨g, us, e, ho, hx⟩ := h
  refine ⟨_, _, e, ok.1, fun i hi => ?_⟩
  obtain ⟨uc, ud, h0, h1, h2, h3, hc, hd⟩ := hx i hi
  refine ⟨g, 0, uc, ud, rfl, ?_, ?_, ?_, ?_, hc.rd (ok.2 i hi).1, hd.rd (ok.2 i hi).2⟩
  · rw [Nat.zero_add, ho.cellAt _ (by omega), h0]
  · rw [Nat.zero_add, ho.cellAt _ (by omega), h1]
  · rw [Nat.zero_add, ho.cellAt _ (by omega), h2]
  · rw [Nat.zero_add, ho.cellAt _ (by omega), h3]

theorem info_ins : (Tryd.prog.info? 50).map (fun i => (i.zero, i.size, i.bytes)) = some (some (.agg #[.int .i64 0, .int .i64 0, .int .i64 0]), 3, 24) := by kernel_rfl
theorem info_cap : (Tryd.prog.info? 48).map (fun i => (i.zero, i.size, i.bytes)) = some (some (.agg #[.bool false, .int .i64 0]), 2, 16) := by kernel_rfl
theorem info_const : (Tryd.prog.info? 40).map (fun i => (i.zero, i.size, i.bytes)) = some (some (.agg #[.bool false, .int .i64 0, .slice none 0 0]), 3, 40) := by kernel_rfl
theorem info_proto : (Tryd.prog.info? 46).map (fun i => (i.zero, i.size, i.bytes)) = some (some (.agg #[.int .i64 0, .int .i64 0, .slice none 0 0, .slice none 0 0]), 4, 64) := by kernel_rfl

end Go.Proofs.YteagakplhfiodaaDoor.pg
