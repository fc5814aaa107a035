import Derived.Test.YteagakplhfiodaaDoorSvLists
import Derived.Deep.AppendLies
import Derived.Laws.AppendOwnNone
namespace Go.Proofs.YteagakplhfiodaaDoor.sv
open Go.RowKit Go.Proofs.YteagakplhfiodaaDoor.bts Go.Proofs.YteagakplhfiodaaDoor.pg Go.Proofs.YteagakplhfiodaaDoor.chk

theorem run_append_zero {P : Program} (w : World) (base : Nat) (t ty e : TypeId) (i : TypeInfo) (size : Nat) (ht : P.underlying t = some (.slice e)) (hi : P.info? e = some i)
    (v : Value) (n : Nat) (xs : List Value) (hown : w.ownsRow base e size v n xs) (ao : Option Addr) (c : Nat) :
    (Builtin.append_ #[t, t] ty #[v, .slice ao 0 c]).run P w = .ok v w := by
  cases ao with
  | none =>
    rcases hown.2 with ⟨rfl, rfl⟩ | ⟨g, cap, cur, rfl, _, _, hnc, _⟩
    · simp [Builtin.append_, run_underlying ht, sizeOf, typeInfo, hi, Builtin.lenOf, Builtin.firstCells]
    · simp [Builtin.append_, run_underlying ht, sizeOf, typeInfo, hi, Builtin.lenOf, Builtin.firstCells, hnc, storeCells]
  | some a =>
    have hf := run_firstCells_some (P := P) w i.size 0 a 0 c [] (by simp) (by simp)
    rcases hown.2 with ⟨rfl, rfl⟩ | ⟨g, cap, cur, rfl, _, _, hnc, _⟩
    · simp [Builtin.append_, run_underlying ht, sizeOf, typeInfo, hi, Builtin.lenOf, hf]
    · simp [Builtin.append_, run_underlying ht, sizeOf, typeInfo, hi, Builtin.lenOf, hf, hnc, storeCells]

theorem bcells_app (a b : List Int) : bcells (a ++ b) = bcells a ++ bcells b := by simp [bcells]
theorem bcells_one {zs : List Int} : ∀ u ∈ bcells zs, u.oneCell' = true := by
  intro u hu
  unfold bcells at hu
  obtain ⟨z, _, rfl⟩ := List.mem_map.1 hu
  rfl
theorem rd_news {w : World} {a : Addr} {ys : List Int} (h : Rd w (some a) ys) : ∀ j u, (bcells ys)[j]? = some u → w.cell? (a.add j) = some u := by
  intro j u hu
  have hj : j < ys.length := by
    rw [← bcells_length ys]
    exact (List.getElem?_eq_some_iff.1 hu).1
  obtain ⟨b, off, e, hc⟩ := h j hj
  simp only [Option.some.injEq] at e
  subst e
  rw [plainAt, hc, ← hu]
  unfold bcells
  rw [List.getElem?_map, List.getElem?_eq_getElem hj]
  simp [List.getD_eq_getElem?_getD, List.getElem?_eq_getElem hj]

/-- Bytes that lie anywhere are appended to a row that the call owns. -/
theorem run_append_bytes (w : World) (ty : TypeId) (base : Nat) (av : Option Addr) (n cv : Nat) (zs : List Int) (hown : w.ownsRow base 5 1 (.slice av n cv) n (bcells zs))
    (ao : Option Addr) (m c : Nat) (ys : List Int) (hl : ys.length = m) (hr : Rd w ao ys) (hb : n + m ≤ 140737488355328) (hbase : base ≤ w.heap.size) :
    ∃ av' cv' w', (Builtin.append_ #[22, 22] ty #[.slice av n cv, .slice ao m c]).run Tryd.prog w = .ok (.slice av' (n + m) cv') w' ∧
      w'.ownsRow base 5 1 (.slice av' (n + m) cv') (n + m) (bcells (zs ++ ys)) ∧ w.grownBy w' (Value.slice av n cv).ownBlock ∧ ((av' = av ∧ cv' = cv) ∨ ∃ g, av' = some ⟨g, 0, none⟩ ∧ ((Value.slice av n cv).ownBlock = some g ∨ g = w.heap.size)) := by
  obtain ⟨i0, hi, hz0, hz1, hz2⟩ := info_parts info_u8
  by_cases h0 : m = 0
  · subst h0
    obtain rfl : ys = [] := List.length_eq_zero_iff.1 hl
    exact ⟨av, cv, w, run_append_zero w base _ ty _ i0 1 Tryd.underlying22 hi _ n _ hown ao c, by simpa using hown, World.grownBy.refl _ _, .inl ⟨rfl, rfl⟩⟩
  · obtain ⟨a, rfl⟩ : ∃ a, ao = some a := by
      obtain ⟨b, off, e, _⟩ := hr 0 (by omega)
      exact ⟨_, e⟩
    obtain ⟨g, cap, w', h1, h2, h3, h4, _⟩ := run_append_lies (P := Tryd.prog) w 22 ty base 5 i0 (.int .u8 0) 1 1 Tryd.underlying22 hi hz0 hz1 hz2 rfl (by omega) (.slice av n cv) n (bcells zs) hown a m c (bcells ys) (by rw [bcells_length]; omega) (rd_news hr) bcells_one (by omega) (by unfold maxLen; omega) (by omega) hbase _ rfl
    exact ⟨some ⟨g, 0, none⟩, cap, w', h1, by rw [bcells_app]; exact h2, h3, .inr ⟨g, rfl, h4⟩⟩

/-- What an append of bytes leaves. -/
structure App (w : World) (base : Nat) (av : Option Addr) (n cv : Nat) (zs : List Int) (av' : Option Addr) (m cv' : Nat) (w' : World) : Prop where
  own : w'.ownsRow base 5 1 (.slice av' m cv') m (bcells zs)
  grow : w.grownBy w' (Value.slice av n cv).ownBlock
  lies : (av' = av ∧ cv' = cv) ∨ ∃ g, av' = some ⟨g, 0, none⟩ ∧ ((Value.slice av n cv).ownBlock = some g ∨ g = w.heap.size)

theorem wp_append_bytes {o : Oper} {a : Act} {K : Act → World → Prop} {Q : Exit → Act → World → Prop} {w : World} (s x : Operand)
    (ho : o.op = .call { callee := .builtin .append, args := #[s, x], argTypes := #[22, 22] })
    (base : Nat) (av : Option Addr) (n cv : Nat) (zs : List Int) (hs : a.eval s = .slice av n cv) (hown : w.ownsRow base 5 1 (.slice av n cv) n (bcells zs))
    (ao : Option Addr) (m c : Nat) (ys : List Int) (hx : a.eval x = .slice ao m c) (hl : ys.length = m) (hr : Rd w ao ys) (hb : n + m ≤ 140737488355328) (hbase : base ≤ w.heap.size)
    (h : ∀ av' cv' w', App w base av n cv (zs ++ ys) av' (n + m) cv' w' → K (a.put o.dst (.slice av' (n + m) cv')) w') : o.wp Tryd.prog a w K Q := by
  obtain ⟨av', cv', w', h1, h2, h3, h4⟩ := run_append_bytes w o.type base av n cv zs hown ao m c ys hl hr hb hbase
  unfold Oper.wp execOp
  simp only [ho, resolve, invoke, builtin, Sem.run_bind, Sem.run_pure, Result.andThen_ok, List.map_toArray, List.map_cons, List.map_nil, hs, hx, h1]
  exact h av' cv' w' ⟨h2, h3, h4⟩

theorem wpList_append_bytes {ops : Array Oper} {rest : List Oper} {o : Oper} {a : Act} {Q : Exit → Act → World → Prop} {w : World} (hgd : o.guard = none) (s x : Operand)
    (ho : o.op = .call { callee := .builtin .append, args := #[s, x], argTypes := #[22, 22] })
    (base : Nat) (av : Option Addr) (n cv : Nat) (zs : List Int) (hs : a.eval s = .slice av n cv) (hown : w.ownsRow base 5 1 (.slice av n cv) n (bcells zs))
    (ao : Option Addr) (m c : Nat) (ys : List Int) (hx : a.eval x = .slice ao m c) (hl : ys.length = m) (hr : Rd w ao ys) (hb : n + m ≤ 140737488355328) (hbase : base ≤ w.heap.size)
    (h : ∀ av' cv' w', App w base av n cv (zs ++ ys) av' (n + m) cv' w' → wpList Tryd.prog ops Q rest (a.put o.dst (.slice av' (n + m) cv')) w') : wpList Tryd.prog ops Q (o :: rest) a w :=
  wpList_plain hgd fun _ hK => wp_append_bytes s x ho base av n cv zs hs hown ao m c ys hx hl hr hb hbase fun av' cv' w' h2 => hK _ _ (h av' cv' w' h2)

theorem step_append_bytes {ops : Array Oper} {o : Oper} {a : Act} {K : Act → World → Prop} {Q : Exit → Act → World → Prop} {E : Prop} {w : World} (hgd : o.guard = none) (s x : Operand)
    (ho : o.op = .call { callee := .builtin .append, args := #[s, x], argTypes := #[22, 22] })
    (base : Nat) (av : Option Addr) (n cv : Nat) (zs : List Int) (hs : a.eval s = .slice av n cv) (hown : w.ownsRow base 5 1 (.slice av n cv) n (bcells zs))
    (ao : Option Addr) (m c : Nat) (ys : List Int) (hx : a.eval x = .slice ao m c) (hl : ys.length = m) (hr : Rd w ao ys) (hb : n + m ≤ 140737488355328) (hbase : base ≤ w.heap.size)
    (h : ∀ av' cv' w', App w base av n cv (zs ++ ys) av' (n + m) cv' w' → K (a.put o.dst (.slice av' (n + m) cv')) w') :
    if Region.wanted o (yielded ops a.tmps) = true then Oper.wp Tryd.prog o a w K Q else E := by
  have hw : Region.wanted o (yielded ops a.tmps) = true := by simp [Region.wanted, hgd]
  rw [if_pos hw]
  exact wp_append_bytes s x ho base av n cv zs hs hown ao m c ys hx hl hr hb hbase h

theorem App.below {w w' : World} {base n cv m cv' : Nat} {av av' : Option Addr} {zs xs : List Int} (h : App w base av n cv zs av' m cv' w') (hown : w.ownsRow base 5 1 (.slice av n cv) n (bcells xs)) (hb : base ≤ w.heap.size) : Below base w w' :=
  (Below.refl base w).grown h.grow hb (fun k hk => (hown.lt k hk).1)
end Go.Proofs.YteagakplhfiodaaDoor.sv
