import Derived.Test.YteagakplhfiodaaDoorThClone
import Derived.Test.YteagakplhfiodaaDoorSvSpecA
namespace Go.Proofs.YteagakplhfiodaaDoor.th
open Go.RowKit Go.Proofs.YteagakplhfiodaaDoor.bts Go.Proofs.YteagakplhfiodaaDoor.pg Go.Proofs.YteagakplhfiodaaDoor.chk Go.Proofs.YteagakplhfiodaaDoor.sv

/-- No two of these lie in one block. -/
def Apart (n : Nat) (u : Nat → Value) : Prop := ∀ i j, i < n → j < n → i ≠ j → ∀ b, (u i).ownBlock = some b → (u j).ownBlock ≠ some b
def Clear (n : Nat) (v : Value) (u : Nat → Value) : Prop := ∀ j, j < n → ∀ b, v.ownBlock = some b → (u j).ownBlock ≠ some b
/-- The value is a slice of that length. -/
def IsS (v : Value) (n : Nat) : Prop := ∃ a c, v = .slice a n c
/-- A row of instructions, of captures that the call owns. -/
def RwI (w : World) (B : Nat) (v : Value) (l : List In) : Prop := IsS v l.length ∧ ∃ us, w.ownsRow B 50 3 v l.length us ∧ ∀ j, j < l.length → InAt us j (l.getD j in0)
def RwC (w : World) (B : Nat) (v : Value) (l : List Cp) : Prop := IsS v l.length ∧ ∃ us, w.ownsRow B 48 2 v l.length us ∧ ∀ j, j < l.length → CpAt us j (l.getD j cp0)
def RwS (w : World) (B : Nat) (v : Value) (zs : List Int) : Prop := IsS v zs.length ∧ w.ownsRow B 5 1 v zs.length (bcells zs)

/-- Constants in memory of their own, the first n of them. -/
structure BK (w : World) (B : Nat) (v : Value) (n : Nat) (d : Nat → Cn) (ut : Nat → Value) : Prop where
  row : ∃ us, w.ownsRow B 40 3 v n us ∧ ∀ j, j < n → us[j * 3]? = some (.bool (d j).isText) ∧ us[j * 3 + 1]? = some (.int .i64 (d j).n) ∧ us[j * 3 + 2]? = some (ut j)
  texts : ∀ j, j < n → RwS w B (ut j) (d j).text
  apart : Apart n ut
  spine : Clear n v ut
/-- Functions in memory of their own. -/
structure BP (w : World) (B : Nat) (v : Value) (n : Nat) (d : Nat → Pr) (uc ud : Nat → Value) : Prop where
  row : ∃ us, w.ownsRow B 46 4 v n us ∧ ∀ j, j < n → us[j * 4]? = some (.int .i64 (d j).params) ∧ us[j * 4 + 1]? = some (.int .i64 (d j).slots) ∧ us[j * 4 + 2]? = some (uc j) ∧ us[j * 4 + 3]? = some (ud j)
  caps : ∀ j, j < n → RwC w B (uc j) (d j).caps
  code : ∀ j, j < n → RwI w B (ud j) (d j).code
  apartC : Apart n uc
  apartD : Apart n ud
  cross : ∀ i j, i < n → j < n → ∀ b, (uc i).ownBlock = some b → (ud j).ownBlock ≠ some b
  spineC : Clear n v uc
  spineD : Clear n v ud

theorem own_hold {w w' : World} {B E c n : Nat} {v : Value} {us : List Value} (h : w.ownsRow B E c v n us) (hk : ∀ b, B ≤ b → b < w.heap.size → v.ownBlock = some b → w'.heap[b]? = w.heap[b]?) : w'.ownsRow B E c v n us :=
  own_apart h (fun b e => hk b (h.lt b e).1 (h.lt b e).2 e)
theorem RwI.hold {w w' : World} {B : Nat} {v : Value} {l : List In} (h : RwI w B v l) (hk : ∀ b, B ≤ b → b < w.heap.size → v.ownBlock = some b → w'.heap[b]? = w.heap[b]?) : RwI w' B v l := by
  obtain ⟨hs, us, ho, hx⟩ := h
  exact ⟨hs, us, own_hold ho hk, hx⟩
theorem RwC.hold {w w' : World} {B : Nat} {v : Value} {l : List Cp} (h : RwC w B v l) (hk : ∀ b, B ≤ b → b < w.heap.size → v.ownBlock = some b → w'.heap[b]? = w.heap[b]?) : RwC w' B v l := by
  obtain ⟨hs, us, ho, hx⟩ := h
  exact ⟨hs, us, own_hold ho hk, hx⟩
theorem RwS.hold {w w' : World} {B : Nat} {v : Value} {l : List Int} (h : RwS w B v l) (hk : ∀ b, B ≤ b → b < w.heap.size → v.ownBlock = some b → w'.heap[b]? = w.heap[b]?) : RwS w' B v l := by
  obtain ⟨hs, ho⟩ := h
  exact ⟨hs, own_hold ho hk⟩
theorem RwI.lt {w : World} {B : Nat} {v : Value} {l : List In} (h : RwI w B v l) : ∀ b, v.ownBlock = some b → B ≤ b ∧ b < w.heap.size := fun b e => by
  obtain ⟨_, _, ho, _⟩ := h
  exact ho.lt b e
theorem RwC.lt {w : World} {B : Nat} {v : Value} {l : List Cp} (h : RwC w B v l) : ∀ b, v.ownBlock = some b → B ≤ b ∧ b < w.heap.size := fun b e => by
  obtain ⟨_, _, ho, _⟩ := h
  exact ho.lt b e
theorem RwS.lt {w : World} {B : Nat} {v : Value} {l : List Int} (h : RwS w B v l) : ∀ b, v.ownBlock = some b → B ≤ b ∧ b < w.heap.size := fun b e => h.2.lt b e
theorem RwI.weaken {w : World} {B B' : Nat} {v : Value} {l : List In} (h : RwI w B v l) (hB : B' ≤ B) : RwI w B' v l := by
  obtain ⟨hs, us, ho, hx⟩ := h
  exact ⟨hs, us, own_weaken ho hB, hx⟩
theorem RwC.weaken {w : World} {B B' : Nat} {v : Value} {l : List Cp} (h : RwC w B v l) (hB : B' ≤ B) : RwC w B' v l := by
  obtain ⟨hs, us, ho, hx⟩ := h
  exact ⟨hs, us, own_weaken ho hB, hx⟩
theorem RwS.weaken {w : World} {B B' : Nat} {v : Value} {l : List Int} (h : RwS w B v l) (hB : B' ≤ B) : RwS w B' v l := ⟨h.1, own_weaken h.2 hB⟩
theorem RwI.rd {w : World} {B : Nat} {v : Value} {l : List In} (h : RwI w B v l) (hl : l.length ≤ 9223372036854775807) : RdIV w v l := by
  obtain ⟨⟨a, c, rfl⟩, us, ho, hx⟩ := h
  refine ⟨a, c, rfl, hl, fun i hi => ?_⟩
  obtain ⟨g, cap, e, _, _⟩ := ho.form (by omega)
  simp only [Value.slice.injEq] at e
  obtain ⟨rfl, -, rfl⟩ := e
  obtain ⟨h0, h1, h2⟩ := hx i hi
  exact ⟨g, 0, rfl, by rw [Nat.zero_add, ho.cellAt _ (by omega), h0], by rw [Nat.zero_add, ho.cellAt _ (by omega), h1], by rw [Nat.zero_add, ho.cellAt _ (by omega), h2]⟩
theorem RwC.rd {w : World} {B : Nat} {v : Value} {l : List Cp} (h : RwC w B v l) (hl : l.length ≤ 9223372036854775807) : RdCV w v l := by
  obtain ⟨⟨a, c, rfl⟩, us, ho, hx⟩ := h
  refine ⟨a, c, rfl, hl, fun i hi => ?_⟩
  obtain ⟨g, cap, e, _, _⟩ := ho.form (by omega)
  simp only [Value.slice.injEq] at e
  obtain ⟨rfl, -, rfl⟩ := e
  obtain ⟨h0, h1⟩ := hx i hi
  exact ⟨g, 0, rfl, by rw [Nat.zero_add, ho.cellAt _ (by omega), h0], by rw [Nat.zero_add, ho.cellAt _ (by omega), h1]⟩
theorem RwS.rd {w : World} {B : Nat} {v : Value} {l : List Int} (h : RwS w B v l) (hb : Bts l) (hl : l.length ≤ 9223372036854775807) : RdV w v l := by
  obtain ⟨⟨a, c, rfl⟩, ho⟩ := h
  exact ⟨a, c, rfl, hl, rd_own ho, hb⟩

theorem BK.lt {w : World} {B n : Nat} {v : Value} {d : Nat → Cn} {ut : Nat → Value} (h : BK w B v n d ut) : ∀ b, v.ownBlock = some b → B ≤ b ∧ b < w.heap.size := fun b e => by
  obtain ⟨_, ho, _⟩ := h.row
  exact ho.lt b e
theorem BP.lt {w : World} {B n : Nat} {v : Value} {d : Nat → Pr} {uc ud : Nat → Value} (h : BP w B v n d uc ud) : ∀ b, v.ownBlock = some b → B ≤ b ∧ b < w.heap.size := fun b e => by
  obtain ⟨_, ho, _⟩ := h.row
  exact ho.lt b e
theorem BK.hold {w w' : World} {B n : Nat} {v : Value} {d : Nat → Cn} {ut : Nat → Value} (h : BK w B v n d ut) (hk : ∀ b, B ≤ b → b < w.heap.size → w'.heap[b]? = w.heap[b]?) : BK w' B v n d ut := by
  obtain ⟨us, ho, hx⟩ := h.row
  exact ⟨⟨us, own_hold ho (fun b h1 h2 _ => hk b h1 h2), hx⟩, fun j hj => (h.texts j hj).hold (fun b h1 h2 _ => hk b h1 h2), h.apart, h.spine⟩
theorem BP.hold {w w' : World} {B n : Nat} {v : Value} {d : Nat → Pr} {uc ud : Nat → Value} (h : BP w B v n d uc ud) (hk : ∀ b, B ≤ b → b < w.heap.size → w'.heap[b]? = w.heap[b]?) : BP w' B v n d uc ud := by
  obtain ⟨us, ho, hx⟩ := h.row
  exact ⟨⟨us, own_hold ho (fun b h1 h2 _ => hk b h1 h2), hx⟩, fun j hj => (h.caps j hj).hold (fun b h1 h2 _ => hk b h1 h2), fun j hj => (h.code j hj).hold (fun b h1 h2 _ => hk b h1 h2), h.apartC, h.apartD, h.cross, h.spineC, h.spineD⟩
theorem bk_nil (w : World) (B : Nat) (d : Nat → Cn) (ut : Nat → Value) : BK w B (.slice none 0 0) 0 d ut :=
  ⟨⟨[], World.ownsRow_nil _ _ _ _, fun j hj => absurd hj (by omega)⟩, fun j hj => absurd hj (by omega), fun i j hi => absurd hi (by omega), fun j hj => absurd hj (by omega)⟩
theorem bp_nil (w : World) (B : Nat) (d : Nat → Pr) (uc ud : Nat → Value) : BP w B (.slice none 0 0) 0 d uc ud :=
  ⟨⟨[], World.ownsRow_nil _ _ _ _, fun j hj => absurd hj (by omega)⟩, fun j hj => absurd hj (by omega), fun j hj => absurd hj (by omega), fun i j hi => absurd hi (by omega), fun i j hi => absurd hi (by omega), fun i j hi => absurd hi (by omega), fun j hj => absurd hj (by omega), fun j hj => absurd hj (by omega)⟩

theorem BK.rd {w : World} {B : Nat} {a : Option Addr} {c : Nat} {l : List Cn} {ut : Nat → Value} (h : BK w B (.slice a l.length c) l.length (fun j => l.getD j cn0) ut) (ok : KOk l) : RdKV w (.slice a l.length c) l := by
  obtain ⟨us, ho, hx⟩ := h.row
  refine ⟨a, c, rfl, ok.1, fun i hi => ?_⟩
  obtain ⟨g, cap, e, _, _⟩ := ho.form (by omega)
  simp only [Value.slice.injEq] at e
  obtain ⟨rfl, -, rfl⟩ := e
  obtain ⟨h0, h1, h2⟩ := hx i hi
  exact ⟨g, 0, ut i, rfl, by rw [Nat.zero_add, ho.cellAt _ (by omega), h0], by rw [Nat.zero_add, ho.cellAt _ (by omega), h1], by rw [Nat.zero_add, ho.cellAt _ (by omega), h2], (h.texts i hi).rd (ok.2 i hi).1 (ok.2 i hi).2⟩
theorem BP.rd {w : World} {B : Nat} {a : Option Addr} {c : Nat} {l : List Pr} {uc ud : Nat → Value} (h : BP w B (.slice a l.length c) l.length (fun j => l.getD j pr0) uc ud) (ok : POk l) : RdPV w (.slice a l.length c) l := by
  obtain ⟨us, ho, hx⟩ := h.row
  refine ⟨a, c, rfl, ok.1, fun i hi => ?_⟩
  obtain ⟨g, cap, e, _, _⟩ := ho.form (by omega)
  simp only [Value.slice.injEq] at e
  obtain ⟨rfl, -, rfl⟩ := e
  obtain ⟨h0, h1, h2, h3⟩ := hx i hi
  exact ⟨g, 0, uc i, ud i, rfl, by rw [Nat.zero_add, ho.cellAt _ (by omega), h0], by rw [Nat.zero_add, ho.cellAt _ (by omega), h1], by rw [Nat.zero_add, ho.cellAt _ (by omega), h2], by rw [Nat.zero_add, ho.cellAt _ (by omega), h3], (h.caps i hi).rd (ok.2 i hi).1, (h.code i hi).rd (ok.2 i hi).2⟩

/-- One more is written behind n. -/
def ext {α : Type} (u : Nat → α) (n : Nat) (x : α) : Nat → α := fun j => if j = n then x else u j
theorem ext_at {α : Type} {u : Nat → α} {n : Nat} {x : α} : ext u n x n = x := by simp [ext]
theorem ext_ne {α : Type} {u : Nat → α} {n j : Nat} {x : α} (h : j < n) : ext u n x j = u j := by simp only [ext]; rw [if_neg (by omega)]
theorem apart_ext {n : Nat} {u : Nat → Value} {x : Value} (h : Apart n u) (hx : ∀ j, j < n → ∀ b, (u j).ownBlock = some b → x.ownBlock ≠ some b) : Apart (n + 1) (ext u n x) := by
  intro i j hi hj hne b e
  by_cases h1 : i = n
  · subst h1
    rw [ext_at] at e
    rw [ext_ne (by omega)]
    exact fun e' => hx j (by omega) b e' e
  · rw [ext_ne (by omega)] at e
    by_cases h2 : j = n
    · subst h2
      rw [ext_at]
      exact hx i (by omega) b e
    · rw [ext_ne (by omega)]
      exact h i j (by omega) (by omega) hne b e
/-- Where an append of one row may lie. -/
theorem lies_ne {w w' : World} {E c base n m cv cv' : Nat} {av av' : Option Addr} {us : List Value} (h : AppR E c w base av n cv us av' m cv' w') {b : Nat} (hb : (Value.slice av n cv).ownBlock ≠ some b) (hl : b < w.heap.size) : (Value.slice av' m cv').ownBlock ≠ some b := by
  rcases h.lies with ⟨rfl, rfl⟩ | ⟨g, rfl, hg⟩
  · exact fun e => hb (by cases av' <;> exact e)
  · intro e
    have : g = b := by simpa [Value.ownBlock] using e
    subst this
    rcases hg with hg | hg
    · exact hb hg
    · omega

theorem BK.snoc {w w' : World} {B n cv cv' : Nat} {av av' : Option Addr} {d : Nat → Cn} {ut : Nat → Value} {x : Cn} {t : Value} (h : BK w B (.slice av n cv) n d ut) (ht : RwS w B t x.text) (hn : ∀ j, j < n → ∀ b, (ut j).ownBlock = some b → t.ownBlock ≠ some b) (hv : ∀ b, (Value.slice av n cv).ownBlock = some b → t.ownBlock ≠ some b)
    (us : List Value) (hus : w.ownsRow B 40 3 (.slice av n cv) n us) (hx : ∀ j, j < n → us[j * 3]? = some (.bool (d j).isText) ∧ us[j * 3 + 1]? = some (.int .i64 (d j).n) ∧ us[j * 3 + 2]? = some (ut j))
    (hA : AppR 40 3 w B av n cv (us ++ [.bool x.isText, .int .i64 x.n, t]) av' (n + 1) cv' w') : BK w' B (.slice av' (n + 1) cv') (n + 1) (ext d n x) (ext ut n t) := by
  have hul : us.length = n * 3 := hus.1
  refine ⟨⟨_, hA.own, fun j hj => ?_⟩, fun j hj => ?_, apart_ext h.apart hn, fun j hj b e e' => ?_⟩
  · by_cases e : j = n
    · subst e
      rw [ext_at, ext_at]
      refine ⟨?_, ?_, ?_⟩
      · rw [List.getElem?_append_right (by omega), show j * 3 - us.length = 0 by omega]; rfl
      · rw [List.getElem?_append_right (by omega), show j * 3 + 1 - us.length = 1 by omega]; rfl
      · rw [List.getElem?_append_right (by omega), show j * 3 + 2 - us.length = 2 by omega]; rfl
    · rw [ext_ne (by omega), ext_ne (by omega)]
      obtain ⟨h0, h1, h2⟩ := hx j (by omega)
      refine ⟨?_, ?_, ?_⟩ <;> (rw [List.getElem?_append_left (by omega)]; assumption)
  · by_cases e : j = n
    · subst e
      rw [ext_at, ext_at]
      exact ht.hold (fun b _ h2 e => hA.grow.block b h2 (fun e' => hv b e'.symm e))
    · rw [ext_ne (by omega), ext_ne (by omega)]
      exact (h.texts j (by omega)).hold (fun b _ h2 e' => hA.grow.block b h2 (fun e'' => h.spine j (by omega) b e''.symm e'))
  · by_cases e2 : j = n
    · subst e2
      rw [ext_at] at e'
      exact lies_ne hA (fun e3 => hv b e3 e') (ht.lt b e').2 e
    · rw [ext_ne (by omega)] at e'
      exact lies_ne hA (fun e3 => h.spine j (by omega) b e3 e') ((h.texts j (by omega)).lt b e').2 e

theorem BP.snoc {w w' : World} {B n cv cv' : Nat} {av av' : Option Addr} {d : Nat → Pr} {uc ud : Nat → Value} {x : Pr} {tc td : Value} (h : BP w B (.slice av n cv) n d uc ud) (hc : RwC w B tc x.caps) (hd : RwI w B td x.code)
    (hcc : ∀ j, j < n → ∀ b, (uc j).ownBlock = some b → tc.ownBlock ≠ some b) (hdd : ∀ j, j < n → ∀ b, (ud j).ownBlock = some b → td.ownBlock ≠ some b) (hcd : ∀ j, j < n → ∀ b, (uc j).ownBlock = some b → td.ownBlock ≠ some b) (hdc : ∀ j, j < n → ∀ b, tc.ownBlock = some b → (ud j).ownBlock ≠ some b) (hx2 : ∀ b, tc.ownBlock = some b → td.ownBlock ≠ some b)
    (hvc : ∀ b, (Value.slice av n cv).ownBlock = some b → tc.ownBlock ≠ some b) (hvd : ∀ b, (Value.slice av n cv).ownBlock = some b → td.ownBlock ≠ some b)
    (us : List Value) (hus : w.ownsRow B 46 4 (.slice av n cv) n us) (hx : ∀ j, j < n → us[j * 4]? = some (.int .i64 (d j).params) ∧ us[j * 4 + 1]? = some (.int .i64 (d j).slots) ∧ us[j * 4 + 2]? = some (uc j) ∧ us[j * 4 + 3]? = some (ud j))
    (hA : AppR 46 4 w B av n cv (us ++ [.int .i64 x.params, .int .i64 x.slots, tc, td]) av' (n + 1) cv' w') : BP w' B (.slice av' (n + 1) cv') (n + 1) (ext d n x) (ext uc n tc) (ext ud n td) := by
  have hul : us.length = n * 4 := hus.1
  refine ⟨⟨_, hA.own, fun j hj => ?_⟩, fun j hj => ?_, fun j hj => ?_, apart_ext h.apartC hcc, apart_ext h.apartD hdd, fun i j hi hj b e => ?_, fun j hj b e e' => ?_, fun j hj b e e' => ?_⟩
  · by_cases e : j = n
    · subst e
      rw [ext_at, ext_at, ext_at]
      refine ⟨?_, ?_, ?_, ?_⟩
      · rw [List.getElem?_append_right (by omega), show j * 4 - us.length = 0 by omega]; rfl
      · rw [List.getElem?_append_right (by omega), show j * 4 + 1 - us.length = 1 by omega]; rfl
      · rw [List.getElem?_append_right (by omega), show j * 4 + 2 - us.length = 2 by omega]; rfl
      · rw [List.getElem?_append_right (by omega), show j * 4 + 3 - us.length = 3 by omega]; rfl
    · rw [ext_ne (by omega), ext_ne (by omega), ext_ne (by omega)]
      obtain ⟨h0, h1, h2, h3⟩ := hx j (by omega)
      refine ⟨?_, ?_, ?_, ?_⟩ <;> (rw [List.getElem?_append_left (by omega)]; assumption)
  · by_cases e : j = n
    · subst e
      rw [ext_at, ext_at]
      exact hc.hold (fun b _ h2 e => hA.grow.block b h2 (fun e' => hvc b e'.symm e))
    · rw [ext_ne (by omega), ext_ne (by omega)]
      exact (h.caps j (by omega)).hold (fun b _ h2 e' => hA.grow.block b h2 (fun e'' => h.spineC j (by omega) b e''.symm e'))
  · by_cases e : j = n
    · subst e
      rw [ext_at, ext_at]
      exact hd.hold (fun b _ h2 e => hA.grow.block b h2 (fun e' => hvd b e'.symm e))
    · rw [ext_ne (by omega), ext_ne (by omega)]
      exact (h.code j (by omega)).hold (fun b _ h2 e' => hA.grow.block b h2 (fun e'' => h.spineD j (by omega) b e''.symm e'))
  · by_cases e1 : i = n
    · subst e1
      rw [ext_at] at e
      by_cases e2 : j = i
      · subst e2; rw [ext_at]; exact hx2 b e
      · rw [ext_ne (by omega)]; exact hdc j (by omega) b e
    · rw [ext_ne (by omega)] at e
      by_cases e2 : j = n
      · subst e2; rw [ext_at]; exact hcd i (by omega) b e
      · rw [ext_ne (by omega)]; exact h.cross i j (by omega) (by omega) b e
  · by_cases e2 : j = n
    · subst e2
      rw [ext_at] at e'
      exact lies_ne hA (fun e3 => hvc b e3 e') (hc.lt b e').2 e
    · rw [ext_ne (by omega)] at e'
      exact lies_ne hA (fun e3 => h.spineC j (by omega) b e3 e') ((h.caps j (by omega)).lt b e').2 e
  · by_cases e2 : j = n
    · subst e2
      rw [ext_at] at e'
      exact lies_ne hA (fun e3 => hvd b e3 e') (hd.lt b e').2 e
    · rw [ext_ne (by omega)] at e'
      exact lies_ne hA (fun e3 => h.spineD j (by omega) b e3 e') ((h.code j (by omega)).lt b e').2 e
end Go.Proofs.YteagakplhfiodaaDoor.th
