import Derived.Test.YteagakplhfiodaaDoorThEnds
import Derived.Test.YteagakplhfiodaaDoorSvApp
import Derived.Lib.SliceRun
import Derived.Test.YteagakplhfiodaaDoorChkImplB
namespace Go.Proofs.YteagakplhfiodaaDoor.th
open Go.RowKit Go.Proofs.YteagakplhfiodaaDoor.bts Go.Proofs.YteagakplhfiodaaDoor.pg Go.Proofs.YteagakplhfiodaaDoor.chk Go.Proofs.YteagakplhfiodaaDoor.sv

/-- An instruction at a place within a block. -/
def InO (w : World) (g o : Nat) (x : In) : Prop := w.cell? ⟨g, o, none⟩ = some (.int .i64 x.op) ∧ w.cell? ⟨g, o + 1, none⟩ = some (.int .i64 x.a) ∧ w.cell? ⟨g, o + 2, none⟩ = some (.int .i64 x.b)
def tpo (g o : Nat) (x : In) : Value := if 18 ≤ x.op ∧ x.op ≤ 21 then .pointer (some ⟨g, o + 1, none⟩) else if 26 ≤ x.op then .pointer (some ⟨g, o + 2, none⟩) else .pointer none

set_option maxRecDepth 100000 in
set_option maxHeartbeats 2000000 in
theorem target_at (g o N : Nat) (x : In) (hx : XOk N x) (w : World) (hS : Shp w) (hI : InO w g o x) :
    Calls Tryd.prog 73 #[.pointer (some ⟨g, o, none⟩)] w fun e w' => e = .returned (tpo g o x) ∧ Below w.heap.size w w' := by
  obtain ⟨op, hop, eop⟩ := op_cases hx.lo hx.hi
  obtain ⟨s0, s1, s2, s3⟩ := hS op hop
  obtain ⟨c0, c1, c2⟩ := hI
  have h9 := sh9 op hop
  have ho' : (op : Int) < 28 := by omega
  obtain ⟨xo, xa, xb⟩ := x
  simp only at *
  subst eop
  unfold tpo
  simp only
  by_cases hA : 18 ≤ (op : Int) ∧ (op : Int) ≤ 21
  · rw [if_pos hA]
    have e9 : shA op = 9 := h9.1.2 (by omega)
    rw [e9] at s0
    generalize ((shB op : Nat) : Int) = sb at s1
    generalize tk op = t at s2
    generalize lv op = l at s3
    have k0 := cellOld (o := .cells #[.int .i64 9, .int .i64 sb, .int .i64 t, .int .i64 l] 115) c0
    clear h9 hA hx e9
    go_enter Tryd.func73, Tryd.ntmps73
    go_wp2
    go_returns
    exact ⟨rfl, by go_grown⟩
  rw [if_neg hA]
  have n9 : ¬ shA op = 9 := fun e => hA (by have := h9.1.1 e; omega)
  have o9 : (((shA op : Nat) : Int) == 9) = false := by simp; omega
  by_cases hB : 26 ≤ (op : Int)
  · rw [if_pos hB]
    have e9 : shB op = 9 := h9.2.2 (by omega)
    rw [e9] at s1
    generalize ((shA op : Nat) : Int) = sa at s0 o9
    generalize tk op = t at s2
    generalize lv op = l at s3
    have k0 := cellOld (o := .cells #[.int .i64 sa, .int .i64 9, .int .i64 t, .int .i64 l] 115) c0
    clear h9 hA hx e9 n9
    go_enter Tryd.func73, Tryd.ntmps73
    go_wp2
    go_returns
    exact ⟨rfl, by go_grown⟩
  rw [if_neg hB]
  have n8 : ¬ shB op = 9 := fun e => hB (by have := h9.2.1 e; omega)
  have o8 : (((shB op : Nat) : Int) == 9) = false := by simp; omega
  generalize ((shA op : Nat) : Int) = sa at s0 o9
  generalize ((shB op : Nat) : Int) = sb at s1 o8
  generalize tk op = t at s2
  generalize lv op = l at s3
  have k0 := cellOld (o := .cells #[.int .i64 sa, .int .i64 sb, .int .i64 t, .int .i64 l] 115) c0
  clear h9 hA hx n9 n8
  go_enter Tryd.func73, Tryd.ntmps73
  go_wp2
  go_returns
  exact ⟨rfl, by go_grown⟩

/-- What an append of a row leaves. -/
structure AppR (E c : Nat) (w : World) (base : Nat) (av : Option Addr) (n cv : Nat) (us : List Value) (av' : Option Addr) (m cv' : Nat) (w' : World) : Prop where
  own : w'.ownsRow base E c (.slice av' m cv') m us
  grow : w.grownBy w' (Value.slice av n cv).ownBlock
  lies : (av' = av ∧ cv' = cv) ∨ ∃ g, av' = some ⟨g, 0, none⟩ ∧ ((Value.slice av n cv).ownBlock = some g ∨ g = w.heap.size)

theorem run_append_row (w : World) (t ty E : TypeId) (i : TypeInfo) (z : Value) (c by_ : Nat) (ht : Tryd.prog.underlying t = some (.slice E)) (hi : Tryd.prog.info? E = some i) (hz : i.zero = some z) (hsize : i.size = c) (hby : i.bytes = by_) (hzs : z.cells.size = c) (hc : 0 < c)
    (base : Nat) (av : Option Addr) (n cv : Nat) (us : List Value) (hown : w.ownsRow base E c (.slice av n cv) n us)
    (ao : Option Addr) (m cx : Nat) (news : List Value) (hl : news.length = m * c) (hr : 0 < m → ∃ ad, ao = some ad ∧ ∀ j u, news[j]? = some u → w.cell? (ad.add j) = some u) (h1 : ∀ u ∈ news, u.oneCell' = true) (h63 : n + m ≤ maxLen) (hb : (n + m) * by_ ≤ 140737488355328) (hbase : base ≤ w.heap.size) :
    ∃ av' cv' w', (Builtin.append_ #[t, t] ty #[.slice av n cv, .slice ao m cx]).run Tryd.prog w = .ok (.slice av' (n + m) cv') w' ∧ AppR E c w base av n cv (us ++ news) av' (n + m) cv' w' := by
  by_cases h0 : m = 0
  · subst h0
    obtain rfl : news = [] := List.length_eq_zero_iff.1 (by omega)
    exact ⟨av, cv, w, run_append_zero w base t ty E i c ht hi _ n _ hown ao cx, by simpa using hown, World.grownBy.refl _ _, .inl ⟨rfl, rfl⟩⟩
  · obtain ⟨a, rfl, hn⟩ := hr (by omega)
    obtain ⟨g, cap, w', e1, e2, e3, e4, _⟩ := run_append_lies (P := Tryd.prog) w t ty base E i z c by_ ht hi hz hsize hby hzs hc (.slice av n cv) n us hown a m cx news hl hn h1 (by omega) h63 hb hbase _ rfl
    exact ⟨some ⟨g, 0, none⟩, cap, w', e1, e2, e3, .inr ⟨g, rfl, e4⟩⟩

theorem wpList_append_row {ops : Array Oper} {rest : List Oper} {o : Oper} {a : Act} {Q : Exit → Act → World → Prop} {w : World} (hgd : o.guard = none) (s x : Operand) (t : TypeId)
    (ho : o.op = .call { callee := .builtin .append, args := #[s, x], argTypes := #[t, t] })
    (E : TypeId) (i : TypeInfo) (z : Value) (c by_ : Nat) (ht : Tryd.prog.underlying t = some (.slice E)) (hi : Tryd.prog.info? E = some i) (hz : i.zero = some z) (hsize : i.size = c) (hby : i.bytes = by_) (hzs : z.cells.size = c) (hc : 0 < c)
    (base : Nat) (av : Option Addr) (n cv : Nat) (us : List Value) (hs : a.eval s = .slice av n cv) (hown : w.ownsRow base E c (.slice av n cv) n us)
    (ao : Option Addr) (m cx : Nat) (news : List Value) (hx : a.eval x = .slice ao m cx) (hl : news.length = m * c) (hr : 0 < m → ∃ ad, ao = some ad ∧ ∀ j u, news[j]? = some u → w.cell? (ad.add j) = some u) (h1 : ∀ u ∈ news, u.oneCell' = true) (h63 : n + m ≤ maxLen) (hb : (n + m) * by_ ≤ 140737488355328) (hbase : base ≤ w.heap.size)
    (h : ∀ av' cv' w', AppR E c w base av n cv (us ++ news) av' (n + m) cv' w' → wpList Tryd.prog ops Q rest (a.put o.dst (.slice av' (n + m) cv')) w') : wpList Tryd.prog ops Q (o :: rest) a w := by
  refine wpList_plain hgd fun K hK => ?_
  obtain ⟨av', cv', w', h2, h3⟩ := run_append_row w t o.type E i z c by_ ht hi hz hsize hby hzs hc base av n cv us hown ao m cx news hl hr h1 h63 hb hbase
  unfold Oper.wp execOp
  simp only [ho, resolve, invoke, builtin, Sem.run_bind, Sem.run_pure, Result.andThen_ok, List.map_toArray, List.map_cons, List.map_nil, hs, hx, h2]
  exact hK _ _ (h av' cv' w' h3)

theorem step_append_row {ops : Array Oper} {o : Oper} {a : Act} {K : Act → World → Prop} {Q : Exit → Act → World → Prop} {X : Prop} {w : World} (hgd : o.guard = none) (s x : Operand) (t : TypeId)
    (ho : o.op = .call { callee := .builtin .append, args := #[s, x], argTypes := #[t, t] })
    (E : TypeId) (i : TypeInfo) (z : Value) (c by_ : Nat) (ht : Tryd.prog.underlying t = some (.slice E)) (hi : Tryd.prog.info? E = some i) (hz : i.zero = some z) (hsize : i.size = c) (hby : i.bytes = by_) (hzs : z.cells.size = c) (hc : 0 < c)
    (base : Nat) (av : Option Addr) (n cv : Nat) (us : List Value) (hs : a.eval s = .slice av n cv) (hown : w.ownsRow base E c (.slice av n cv) n us)
    (ao : Option Addr) (m cx : Nat) (news : List Value) (hx : a.eval x = .slice ao m cx) (hl : news.length = m * c) (hr : 0 < m → ∃ ad, ao = some ad ∧ ∀ j u, news[j]? = some u → w.cell? (ad.add j) = some u) (h1 : ∀ u ∈ news, u.oneCell' = true) (h63 : n + m ≤ maxLen) (hb : (n + m) * by_ ≤ 140737488355328) (hbase : base ≤ w.heap.size)
    (h : ∀ av' cv' w', AppR E c w base av n cv (us ++ news) av' (n + m) cv' w' → K (a.put o.dst (.slice av' (n + m) cv')) w') :
    if Region.wanted o (yielded ops a.tmps) = true then Oper.wp Tryd.prog o a w K Q else X := by
  have hw : Region.wanted o (yielded ops a.tmps) = true := by simp [Region.wanted, hgd]
  rw [if_pos hw]
  obtain ⟨av', cv', w', h2, h3⟩ := run_append_row w t o.type E i z c by_ ht hi hz hsize hby hzs hc base av n cv us hown ao m cx news hl hr h1 h63 hb hbase
  unfold Oper.wp execOp
  simp only [ho, resolve, invoke, builtin, Sem.run_bind, Sem.run_pure, Result.andThen_ok, List.map_toArray, List.map_cons, List.map_nil, hs, hx, h2]
  exact h av' cv' w' h3

/-- The cells of a list of instructions, of captures. -/
def inRow (l : List In) : List Value := (List.range (l.length * 3)).map fun j => if j % 3 = 0 then .int .i64 (l.getD (j / 3) in0).op else if j % 3 = 1 then .int .i64 (l.getD (j / 3) in0).a else .int .i64 (l.getD (j / 3) in0).b
def cpRow (l : List Cp) : List Value := (List.range (l.length * 2)).map fun j => if j % 2 = 0 then .bool (l.getD (j / 2) cp0).up else .int .i64 (l.getD (j / 2) cp0).index
theorem inRow_len (l : List In) : (inRow l).length = l.length * 3 := by simp [inRow]
theorem cpRow_len (l : List Cp) : (cpRow l).length = l.length * 2 := by simp [cpRow]
theorem inRow_at {l : List In} {j : Nat} (h : j < l.length) : InAt (inRow l) j (l.getD j in0) := by
  refine ⟨?_, ?_, ?_⟩
  · rw [inRow, List.getElem?_map, List.getElem?_range (by omega), Option.map_some, if_pos (by omega), show j * 3 / 3 = j by omega]
  · rw [inRow, List.getElem?_map, List.getElem?_range (by omega), Option.map_some, if_neg (by omega), if_pos (by omega), show (j * 3 + 1) / 3 = j by omega]
  · rw [inRow, List.getElem?_map, List.getElem?_range (by omega), Option.map_some, if_neg (by omega), if_neg (by omega), show (j * 3 + 2) / 3 = j by omega]
theorem cpRow_at {l : List Cp} {j : Nat} (h : j < l.length) : CpAt (cpRow l) j (l.getD j cp0) := by
  refine ⟨?_, ?_⟩
  · rw [cpRow, List.getElem?_map, List.getElem?_range (by omega), Option.map_some, if_pos (by omega), show j * 2 / 2 = j by omega]
  · rw [cpRow, List.getElem?_map, List.getElem?_range (by omega), Option.map_some, if_neg (by omega), show (j * 2 + 1) / 2 = j by omega]
theorem inRow_one {l : List In} : ∀ u ∈ inRow l, u.oneCell' = true := by
  intro u hu
  unfold inRow at hu
  obtain ⟨z, _, rfl⟩ := List.mem_map.1 hu
  split
  · rfl
  · split <;> rfl
theorem cpRow_one {l : List Cp} : ∀ u ∈ cpRow l, u.oneCell' = true := by
  intro u hu
  unfold cpRow at hu
  obtain ⟨z, _, rfl⟩ := List.mem_map.1 hu
  split <;> rfl
theorem rdI_news {w : World} {ao : Option Addr} {l : List In} (h : RdI w ao l) : 0 < l.length → ∃ ad, ao = some ad ∧ ∀ j u, (inRow l)[j]? = some u → w.cell? (ad.add j) = some u := by
  intro h0
  obtain ⟨b, off, rfl, _⟩ := h 0 h0
  refine ⟨_, rfl, fun j u hu => ?_⟩
  have hj : j < l.length * 3 := by rw [← inRow_len l]; exact (List.getElem?_eq_some_iff.1 hu).1
  rw [inRow, List.getElem?_map, List.getElem?_range hj, Option.map_some] at hu
  simp only [Option.some.injEq] at hu
  obtain ⟨b', off', e, c0, c1, c2⟩ := h (j / 3) (by omega)
  simp only [Option.some.injEq, Addr.mk.injEq, and_true] at e
  obtain ⟨rfl, rfl⟩ := e
  rw [plainAt, ← hu]
  by_cases h3 : j % 3 = 0
  · rw [if_pos h3, ← c0, show off + j = off + j / 3 * 3 by omega]
  · rw [if_neg h3]
    by_cases h4 : j % 3 = 1
    · rw [if_pos h4, ← c1, show off + j = off + j / 3 * 3 + 1 by omega]
    · rw [if_neg h4, ← c2, show off + j = off + j / 3 * 3 + 2 by omega]
theorem rdC_news {w : World} {ao : Option Addr} {l : List Cp} (h : RdC w ao l) : 0 < l.length → ∃ ad, ao = some ad ∧ ∀ j u, (cpRow l)[j]? = some u → w.cell? (ad.add j) = some u := by
  intro h0
  obtain ⟨b, off, rfl, _⟩ := h 0 h0
  refine ⟨_, rfl, fun j u hu => ?_⟩
  have hj : j < l.length * 2 := by rw [← cpRow_len l]; exact (List.getElem?_eq_some_iff.1 hu).1
  rw [cpRow, List.getElem?_map, List.getElem?_range hj, Option.map_some] at hu
  simp only [Option.some.injEq] at hu
  obtain ⟨b', off', e, c0, c1⟩ := h (j / 2) (by omega)
  simp only [Option.some.injEq, Addr.mk.injEq, and_true] at e
  obtain ⟨rfl, rfl⟩ := e
  rw [plainAt, ← hu]
  by_cases h3 : j % 2 = 0
  · rw [if_pos h3, ← c0, show off + j = off + j / 2 * 2 by omega]
  · rw [if_neg h3, ← c1, show off + j = off + j / 2 * 2 + 1 by omega]

set_option maxRecDepth 100000 in
set_option maxHeartbeats 1000000 in
theorem cloneB_any (v : Value) (l : List Int) (w : World) (hr : RdV w v l) (hs : l.length ≤ 1048576) :
    Calls Tryd.prog 53 #[v] w fun e w' => ∃ av cv, e = .returned (.slice av l.length cv) ∧ w'.ownsRow w.heap.size 5 1 (.slice av l.length cv) l.length (bcells l) ∧ Below w.heap.size w w' := by
  obtain ⟨ao, cap, rfl, _, hr, _⟩ := hr
  have hnil := fun (W : World) (a : Option Addr) (m k : Nat) => Lib.run_eql_slice_nil (P := Tryd.prog) W 22 5 a m k 0 0 Tryd.underlying22
  cases ao with
  | none =>
    have h0 : l.length = 0 := by
      by_cases h : 0 < l.length
      · obtain ⟨_, _, e, _⟩ := hr 0 h; cases e
      · omega
    obtain rfl := List.length_eq_zero_iff.1 h0
    go_enter Tryd.func53, Tryd.ntmps53
    go_wp2
    go_returns
    exact ⟨none, 0, rfl, World.ownsRow_nil _ _ _ _, Below.refl _ _⟩
  | some a =>
    have hr1 : Hid (Rd (w.alloc (.cells #[] 5)) (some a) l) := hr.below ((Below.refl w.heap.size w).alloc (Nat.le_refl _) (.cells #[] 5))
    have h0 : (w.alloc (.cells #[] 5)).ownsRow w.heap.size 5 1 (.slice (some ⟨w.heap.size, 0, none⟩) 0 0) 0 (bcells []) := by
      have := World.ownsRow_lit (base := w.heap.size) (e := 5) (size := 1) w #[] 0 (Nat.le_refl _) (by unfold maxLen; omega) rfl
      exact this
    have hB := (Below.refl w.heap.size w).alloc (Nat.le_refl _) (.cells #[] 5)
    clear hr
    go_enter Tryd.func53, Tryd.ntmps53
    go_wp2_with (at_builtin; refine wpList_append_bytes rfl _ _ rfl w.heap.size (some ⟨w.heap.size, 0, none⟩) 0 0 [] rfl h0 (some a) l.length cap l rfl rfl hr1.out (by omega) (by simp) ?_; intro av' cv' w2 hA; have HA : Hid _ := hA; clear hA)
    go_returns
    refine ⟨av', cv', by first | rfl | (rw [Nat.zero_add]; rfl), ?_, hB.grown HA.out.grow (by simp) (fun k hk => (h0.lt k hk).1)⟩
    have := HA.out.own
    rw [Nat.zero_add] at this
    exact this
end Go.Proofs.YteagakplhfiodaaDoor.th
