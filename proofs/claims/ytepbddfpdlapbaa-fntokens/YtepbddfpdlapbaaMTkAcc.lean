import Derived.Lib.ConvBytes
import Derived.Deep.AppendLies
import Derived.Laws.AppendOwnNone
import Derived.Handy
import Derived.Deep.RegionHeld3
import Derived.Test.YtepbddfpdlapbaaMTkRd
import Derived.Test.YtepbddfpdlapbaaMVtEnd
namespace Go.Proofs.Ytepbddfpdlapbaa.tk
open Go.RowKit Go.Proofs.Ytepbddfpdlapbaa.bts Go.Proofs.Ytepbddfpdlapbaa.nod
def veil (B : Nat → Bool) (w : World) : World := { w with heap := w.heap.mapIdx fun i o => if B i then .deferred none else o }
def lt (n : Nat) : Nat → Bool := fun b => decide (b < n)
theorem lt_ge {n b : Nat} (h : n ≤ b) : lt n b = false := by simp [lt]; omega
theorem veil_get (B : Nat → Bool) (w : World) (b : Nat) : (veil B w).heap[b]? = (w.heap[b]?).map fun o => if B b then .deferred none else o := by simp [veil]
theorem veil_cell {B : Nat → Bool} {w : World} {a : Addr} {v : Value} (h : (veil B w).cell? a = some v) : w.cell? a = some v ∧ B a.block = false := by
  unfold World.cell? at h ⊢
  rw [veil_get] at h
  cases hb : w.heap[a.block]? with
  | none => rw [hb] at h; simp at h
  | some o =>
    rw [hb] at h
    cases hlt : B a.block with
    | true => simp [hlt] at h
    | false => simp only [Option.map_some, hlt, Bool.false_eq_true, if_false] at h; exact ⟨h, rfl⟩
theorem cell_veil {B : Nat → Bool} {w : World} {a : Addr} {v : Value} (h : w.cell? a = some v) (hb : B a.block = false) : (veil B w).cell? a = some v := by
  unfold World.cell? at h ⊢
  rw [veil_get]
  cases ho : w.heap[a.block]? with
  | none => rw [ho] at h; simp at h
  | some o =>
    rw [ho] at h
    simp only [Option.map_some, hb, Bool.false_eq_true, if_false]
    exact h
structure Up (B : Nat → Bool) (w w' : World) : Prop where
  size : w.heap.size ≤ w'.heap.size
  block : ∀ b, B b = false → b < w.heap.size → w'.heap[b]? = w.heap[b]?
theorem Up.refl (B : Nat → Bool) (w : World) : Up B w w := ⟨Nat.le_refl _, fun _ _ _ => rfl⟩
theorem Up.trans {B : Nat → Bool} {a b c : World} (h : Up B a b) (k : Up B b c) : Up B a c := ⟨Nat.le_trans h.size k.size, fun x hx hl => (k.block x hx (Nat.lt_of_lt_of_le hl h.size)).trans (h.block x hx hl)⟩
theorem Up.mono {B C : Nat → Bool} {a b : World} (h : Up B a b) (hc : ∀ x, C x = false → B x = false) : Up C a b := ⟨h.size, fun x hx hl => h.block x (hc x hx) hl⟩
theorem Up.cell {B : Nat → Bool} {w w' : World} (h : Up B w w') {a : Addr} {v : Value} (hc : (veil B w).cell? a = some v) : (veil B w').cell? a = some v := by
  obtain ⟨h1, h2⟩ := veil_cell hc
  refine cell_veil ?_ h2
  unfold World.cell? at h1 ⊢
  rw [h.block a.block h2 (by have := World.block_lt_of_cell? w a (by unfold World.cell?; exact h1); exact this)]
  exact h1
theorem Rd.up {B : Nat → Bool} {w w' : World} {ao : Option Addr} {zs : List Int} (h : Rd (veil B w) ao zs) (hu : Up B w w') : Rd (veil B w') ao zs := by
  intro i hi
  obtain ⟨b, off, e, hc⟩ := h i hi
  exact ⟨b, off, e, hu.cell hc⟩
theorem RdV.up {B : Nat → Bool} {w w' : World} {v : Value} {zs : List Int} (h : RdV (veil B w) v zs) (hu : Up B w w') : RdV (veil B w') v zs := by
  obtain ⟨ao, cap, e, hm, hr, hz⟩ := h
  exact ⟨ao, cap, e, hm, Rd.up hr hu, hz⟩
theorem RdVV.up {B : Nat → Bool} {w w' : World} {v : Value} {l : List (List Int)} (h : RdVV (veil B w) v l) (hu : Up B w w') : RdVV (veil B w') v l := by
  obtain ⟨ao, cap, e, hm, h⟩ := h
  refine ⟨ao, cap, e, hm, fun i hi => ?_⟩
  obtain ⟨b, off, u, e, hc, hr⟩ := h i hi
  exact ⟨b, off, u, e, hu.cell hc, RdV.up hr hu⟩
theorem RdN.up {B : Nat → Bool} {w w' : World} {ao : Option Addr} {l : List Nd} (h : RdN (veil B w) ao l) (hu : Up B w w') : RdN (veil B w') ao l := by
  intro i hi
  obtain ⟨b, off, ut, un, e, c0, c1, c2, c3, c4, ht, hn⟩ := h i hi
  exact ⟨b, off, ut, un, e, hu.cell c0, hu.cell c1, hu.cell c2, hu.cell c3, hu.cell c4, RdV.up ht hu, RdVV.up hn hu⟩
theorem cell_less {B C : Nat → Bool} {w : World} {a : Addr} {v : Value} (h : (veil B w).cell? a = some v) (hc : ∀ x, B x = false → C x = false) : (veil C w).cell? a = some v := by
  obtain ⟨h1, h2⟩ := veil_cell h
  exact cell_veil h1 (hc _ h2)
theorem RdV.less {B C : Nat → Bool} {w : World} {v : Value} {zs : List Int} (h : RdV (veil B w) v zs) (hc : ∀ x, B x = false → C x = false) : RdV (veil C w) v zs := by
  obtain ⟨ao, cap, e, hm, hr, hz⟩ := h
  refine ⟨ao, cap, e, hm, fun i hi => ?_, hz⟩
  obtain ⟨b, off, e, h⟩ := hr i hi
  exact ⟨b, off, e, cell_less h hc⟩
theorem RdVV.less {B C : Nat → Bool} {w : World} {v : Value} {l : List (List Int)} (h : RdVV (veil B w) v l) (hc : ∀ x, B x = false → C x = false) : RdVV (veil C w) v l := by
  obtain ⟨ao, cap, e, hm, h⟩ := h
  refine ⟨ao, cap, e, hm, fun i hi => ?_⟩
  obtain ⟨b, off, u, e, h1, h2⟩ := h i hi
  exact ⟨b, off, u, e, cell_less h1 hc, RdV.less h2 hc⟩
def FN (B : Nat → Bool) (w : World) (v : Value) (l : List Nd) : Prop := ∃ ao cap, v = .slice ao l.length cap ∧ l.length ≤ cap ∧ RdN (veil B w) ao l
theorem FN.up {B : Nat → Bool} {w w' : World} {v : Value} {l : List Nd} (h : FN B w v l) (hu : Up B w w') : FN B w' v l := by
  obtain ⟨ao, cap, e, hc, hr⟩ := h
  exact ⟨ao, cap, e, hc, RdN.up hr hu⟩
theorem up_alloc (B : Nat → Bool) (w : World) (o : Obj) : Up B w (w.alloc o) := ⟨by simp, fun b _ hb => heap_alloc_old _ _ hb⟩
theorem cell_new {w : World} {cs : Array Value} {T : TypeId} {B : Nat → Bool} {j : Nat} {u : Value} (hB : B w.heap.size = false) (hj : cs[j]? = some u) : (veil B (w.alloc (.cells cs T))).cell? ⟨w.heap.size, j, none⟩ = some u := by
  refine cell_veil ?_ hB
  unfold World.cell?
  rw [heap_alloc_new]
  exact hj
theorem rdV_nil (w : World) : RdV w (.slice none 0 0) [] := ⟨none, 0, rfl, by simp, fun i hi => absurd hi (by simp), fun i => by simp⟩
theorem rdVV_nil (w : World) : RdVV w (.slice none 0 0) [] := ⟨none, 0, rfl, by simp, fun i hi => absurd hi (by simp)⟩
theorem rdVV_one {B : Nat → Bool} {w : World} {T : TypeId} {u : Value} {zs : List Int} (hB : B w.heap.size = false) (h : RdV (veil B w) u zs) : RdVV (veil B (w.alloc (.cells #[u] T))) (.slice (some ⟨w.heap.size, 0, none⟩) 1 1) [zs] := by
  refine ⟨_, 1, rfl, by simp, fun i hi => ?_⟩
  have : i = 0 := by simpa using hi
  subst this
  exact ⟨w.heap.size, 0, u, rfl, cell_new hB rfl, RdV.up h (up_alloc B w _)⟩
theorem fn_one {B : Nat → Bool} {w : World} {T : TypeId} {k n c : Int} {ut un : Value} {text : List Int} {names : List (List Int)} (hB : B w.heap.size = false) (ht : RdV (veil B w) ut text) (hn : RdVV (veil B w) un names) :
    FN B (w.alloc (.cells #[.int .i64 k, .int .i64 n, ut, un, .int .i64 c] T)) (.slice (some ⟨w.heap.size, 0, none⟩) 1 1) [⟨k, n, text, names, c⟩] := by
  refine ⟨some ⟨w.heap.size, 0, none⟩, 1, rfl, Nat.le_refl _, fun i hi => ?_⟩
  have : i = 0 := by simpa using hi
  subst this
  have U := up_alloc B w (.cells #[.int .i64 k, .int .i64 n, ut, un, .int .i64 c] T)
  exact ⟨w.heap.size, 0, ut, un, rfl, cell_new hB rfl, cell_new hB rfl, cell_new hB rfl, cell_new hB rfl, cell_new hB rfl, RdV.up ht U, RdVV.up hn U⟩
theorem FN.less {B C : Nat → Bool} {w : World} {v : Value} {l : List Nd} (h : FN B w v l) (hc : ∀ x, B x = false → C x = false) : FN C w v l := by
  obtain ⟨ao, cap, e, hl, hr⟩ := h
  refine ⟨ao, cap, e, hl, fun i hi => ?_⟩
  obtain ⟨b, off, ut, un, e, c0, c1, c2, c3, c4, ht, hn⟩ := hr i hi
  exact ⟨b, off, ut, un, e, cell_less c0 hc, cell_less c1 hc, cell_less c2 hc, cell_less c3 hc, cell_less c4 hc, RdV.less ht hc, RdVV.less hn hc⟩
def leaf (k : Int) : List Nd := [⟨k, 0, [], [], 0⟩]
set_option maxRecDepth 100000 in
theorem l3leaf_any (w : World) (k : Int) :
    Calls Try.prog 70 #[.int .i64 k] w fun e w' => ∃ v, e = .returned v ∧ FN (lt w.heap.size) w' v (leaf k) ∧ Below w.heap.size w w' := by
  go_enter Try.func70, Try.ntmps70
  go_wp2
  go_returns
  exact ⟨_, rfl, fn_one (lt_ge (Nat.le_refl _)) (rdV_nil _) (rdVV_nil _), (Below.refl _ _).alloc (Nat.le_refl _) _⟩
def intN (v : Int) : List Nd := [⟨14, v, [], [], 0⟩]
set_option maxRecDepth 100000 in
theorem l7int_any (w : World) (v : Int) :
    Calls Try.prog 46 #[.int .i64 v] w fun e w' => ∃ x, e = .returned x ∧ FN (lt w.heap.size) w' x (intN v) ∧ Below w.heap.size w w' := by
  go_enter Try.func46, Try.ntmps46
  go_wp2
  go_returns
  exact ⟨_, rfl, fn_one (lt_ge (Nat.le_refl _)) (rdV_nil _) (rdVV_nil _), (Below.refl _ _).alloc (Nat.le_refl _) _⟩
def nums (s : ByteArray) : List Int := s.data.toList.map fun b => (b.toNat : Int)
theorem nums_length (s : ByteArray) : (nums s).length = s.size := by simp [nums]
theorem nums_bts (s : ByteArray) : Bts (nums s) := by
  intro i
  unfold nums
  rw [List.getD_eq_getElem?_getD, List.getElem?_map]
  cases h : s.data.toList[i]? with
  | none => simp
  | some b => simp only [Option.map_some, Option.getD_some]; have := b.toNat_lt; omega
theorem rdV_bytes {B : Nat → Bool} (w : World) (s : ByteArray) (cap : Nat) (hs : s.size ≤ 1000) (hB : B w.heap.size = false) : RdV (veil B (Lib.bytesWorld w 5 s)) (.slice (some ⟨w.heap.size, 0, none⟩) s.size cap) (nums s) := by
  refine ⟨_, cap, by rw [nums_length], by rw [nums_length]; omega, fun i hi => ⟨w.heap.size, 0, rfl, ?_⟩, nums_bts s⟩
  rw [nums_length] at hi
  refine cell_veil ?_ hB
  have h := Lib.bytesWorld_cell w 5 s i (by simpa using hi)
  rw [Nat.zero_add, h]
  simp only [nums]
  rw [List.getD_eq_getElem?_getD, List.getD_eq_getElem?_getD, List.getElem?_map, List.getElem?_eq_getElem (by simpa using hi)]
  rfl
theorem bel_bytes (w : World) (s : ByteArray) : Below w.heap.size w (Lib.bytesWorld w 5 s) :=
  ⟨rfl, rfl, rfl, by rw [Lib.bytesWorld_size]; omega, fun j hj => Lib.bytesWorld_at_old w 5 s j hj⟩
def textN (s : ByteArray) : List Nd := [⟨15, 0, nums s, [], 0⟩]
set_option maxRecDepth 100000 in
theorem l7text_any (w : World) (s : ByteArray) (hs : s.size ≤ 1000) :
    Calls Try.prog 47 #[.string s] w fun e w' => ∃ x, e = .returned x ∧ FN (lt w.heap.size) w' x (textN s) ∧ Below w.heap.size w w' := by
  have kv := Lib.run_convert_string_bytes w 9 22 5 s Try.underlying9 Try.underlying22 Try.underlying5
  have R := rdV_bytes (B := lt w.heap.size) w s (grownCap w s.size 0 5) hs (lt_ge (Nat.le_refl _))
  have Bl := bel_bytes w s
  generalize grownCap w s.size 0 5 = cp at kv R
  generalize Lib.bytesWorld w 5 s = w1 at kv R Bl
  have F : Hid (∀ T, FN (lt w.heap.size) (w1.alloc (.cells #[.int .i64 15, .int .i64 0, .slice (some ⟨w.heap.size, 0, none⟩) s.size cp, .slice none 0 0, .int .i64 0] T)) (.slice (some ⟨w1.heap.size, 0, none⟩) 1 1) (textN s)) := fun T => fn_one (lt_ge Bl.size) R (rdVV_nil _)
  clear R
  go_enter Try.func47, Try.ntmps47
  go_wp2
  go_returns
  exact ⟨_, rfl, F.out _, Bl.alloc Bl.size _⟩
def nameN (s : ByteArray) : List Nd := [⟨16, 0, [], [nums s], 0⟩]
set_option maxRecDepth 100000 in
theorem l7name_any (w : World) (s : ByteArray) (hs : s.size ≤ 1000) :
    Calls Try.prog 67 #[.string s] w fun e w' => ∃ x, e = .returned x ∧ FN (lt w.heap.size) w' x (nameN s) ∧ Below w.heap.size w w' := by
  have kv := Lib.run_convert_string_bytes w 9 22 5 s Try.underlying9 Try.underlying22 Try.underlying5
  have R := rdV_bytes (B := lt w.heap.size) w s (grownCap w s.size 0 5) hs (lt_ge (Nat.le_refl _))
  have Bl := bel_bytes w s
  generalize grownCap w s.size 0 5 = cp at kv R
  generalize Lib.bytesWorld w 5 s = w1 at kv R Bl
  have F : Hid (∀ T U, FN (lt w.heap.size) ((w1.alloc (.cells #[.slice (some ⟨w.heap.size, 0, none⟩) s.size cp] T)).alloc (.cells #[.int .i64 16, .int .i64 0, .slice none 0 0, .slice (some ⟨w1.heap.size, 0, none⟩) 1 1, .int .i64 0] U)) (.slice (some ⟨w1.heap.size + 1, 0, none⟩) 1 1) (nameN s)) := fun T U => by
    have := fn_one (T := U) (k := 16) (n := 0) (c := 0) (B := lt w.heap.size) (w := w1.alloc (.cells #[.slice (some ⟨w.heap.size, 0, none⟩) s.size cp] T)) (lt_ge (by simp; have := Bl.size; omega)) (rdV_nil _) (rdVV_one (T := T) (lt_ge Bl.size) R)
    simpa [nameN] using this
  clear R
  go_enter Try.func67, Try.ntmps67
  go_wp2
  go_returns
  exact ⟨_, rfl, F.out _ _, (Bl.alloc Bl.size _).alloc (by simp; have := Bl.size; omega) _⟩
theorem run_append_zero {P : Program} (w : World) (base : Nat) (t ty e : TypeId) (i : TypeInfo) (size : Nat) (ht : P.underlying t = some (.slice e)) (hi : P.info? e = some i)
    (v : Value) (n : Nat) (xs : List Value) (hown : w.ownsRow base e size v n xs) (ao : Option Addr) (c : Nat) :
    (Builtin.append_ #[t, t] ty #[v, .slice ao 0 c]).run P w = .ok v w := by
  cases ao with
  | none =>
    rcases hown.2 with ⟨rfl, rfl⟩ | ⟨g, cap, cur, rfl, _, _, hnc, _⟩
    · simp [Builtin.append_, run_underlying ht, sizeOf, typeInfo, hi, Builtin.lenOf, Builtin.firstCells]
    · simp [Builtin.append_, run_underlying ht, sizeOf, typeInfo, hi, Builtin.lenOf, Builtin.firstCells, hnc, storeCells]
  | some a =>
    have hf := run_firstCells_some (P := P) w i.size 0 a 0 c [] (by simp) (by simp)
    rcases hown.2 with ⟨rfl, rfl⟩ | ⟨g, cap, cur, rfl, _, _, hnc, _⟩
    · simp [Builtin.append_, run_underlying ht, sizeOf, typeInfo, hi, Builtin.lenOf, hf]
    · simp [Builtin.append_, run_underlying ht, sizeOf, typeInfo, hi, Builtin.lenOf, hf, hnc, storeCells]
structure AppR (E c : Nat) (w : World) (base : Nat) (av : Option Addr) (n cv : Nat) (us : List Value) (av' : Option Addr) (m cv' : Nat) (w' : World) : Prop where
  own : w'.ownsRow base E c (.slice av' m cv') m us
  grow : w.grownBy w' (Value.slice av n cv).ownBlock
  lies : (av' = av ∧ cv' = cv) ∨ ∃ g, av' = some ⟨g, 0, none⟩ ∧ ((Value.slice av n cv).ownBlock = some g ∨ g = w.heap.size)
theorem run_append_row (w : World) (t ty E : TypeId) (i : TypeInfo) (z : Value) (c by_ : Nat) (ht : Try.prog.underlying t = some (.slice E)) (hi : Try.prog.info? E = some i) (hz : i.zero = some z) (hsize : i.size = c) (hby : i.bytes = by_) (hzs : z.cells.size = c) (hc : 0 < c)
    (base : Nat) (av : Option Addr) (n cv : Nat) (us : List Value) (hown : w.ownsRow base E c (.slice av n cv) n us)
    (ao : Option Addr) (m cx : Nat) (news : List Value) (hl : news.length = m * c) (hr : 0 < m → ∃ ad, ao = some ad ∧ ∀ j u, news[j]? = some u → w.cell? (ad.add j) = some u) (h1 : ∀ u ∈ news, u.oneCell' = true) (h63 : n + m ≤ maxLen) (hb : (n + m) * by_ ≤ 140737488355328) (hbase : base ≤ w.heap.size) :
    ∃ av' cv' w', (Builtin.append_ #[t, t] ty #[.slice av n cv, .slice ao m cx]).run Try.prog w = .ok (.slice av' (n + m) cv') w' ∧ AppR E c w base av n cv (us ++ news) av' (n + m) cv' w' := by
  by_cases h0 : m = 0
  · subst h0
    obtain rfl : news = [] := List.length_eq_zero_iff.1 (by omega)
    exact ⟨av, cv, w, run_append_zero w base t ty E i c ht hi _ n _ hown ao cx, by simpa using hown, World.grownBy.refl _ _, .inl ⟨rfl, rfl⟩⟩
  · obtain ⟨a, rfl, hn⟩ := hr (by omega)
    obtain ⟨g, cap, w', e1, e2, e3, e4, _⟩ := run_append_lies (P := Try.prog) w t ty base E i z c by_ ht hi hz hsize hby hzs hc (.slice av n cv) n us hown a m cx news hl hn h1 (by omega) h63 hb hbase _ rfl
    exact ⟨some ⟨g, 0, none⟩, cap, w', e1, e2, e3, .inr ⟨g, rfl, e4⟩⟩
theorem wpList_append_row {ops : Array Oper} {rest : List Oper} {o : Oper} {a : Act} {Q : Exit → Act → World → Prop} {w : World} (hgd : o.guard = none) (s x : Operand) (t : TypeId)
    (ho : o.op = .call { callee := .builtin .append, args := #[s, x], argTypes := #[t, t] })
    (E : TypeId) (i : TypeInfo) (z : Value) (c by_ : Nat) (ht : Try.prog.underlying t = some (.slice E)) (hi : Try.prog.info? E = some i) (hz : i.zero = some z) (hsize : i.size = c) (hby : i.bytes = by_) (hzs : z.cells.size = c) (hc : 0 < c)
    (base : Nat) (av : Option Addr) (n cv : Nat) (us : List Value) (hs : a.eval s = .slice av n cv) (hown : w.ownsRow base E c (.slice av n cv) n us)
    (ao : Option Addr) (m cx : Nat) (news : List Value) (hx : a.eval x = .slice ao m cx) (hl : news.length = m * c) (hr : 0 < m → ∃ ad, ao = some ad ∧ ∀ j u, news[j]? = some u → w.cell? (ad.add j) = some u) (h1 : ∀ u ∈ news, u.oneCell' = true) (h63 : n + m ≤ maxLen) (hb : (n + m) * by_ ≤ 140737488355328) (hbase : base ≤ w.heap.size)
    (h : ∀ av' cv' w', AppR E c w base av n cv (us ++ news) av' (n + m) cv' w' → wpList Try.prog ops Q rest (a.put o.dst (.slice av' (n + m) cv')) w') : wpList Try.prog ops Q (o :: rest) a w := by
  refine wpList_plain hgd fun K hK => ?_
  obtain ⟨av', cv', w', h2, h3⟩ := run_append_row w t o.type E i z c by_ ht hi hz hsize hby hzs hc base av n cv us hown ao m cx news hl hr h1 h63 hb hbase
  unfold Oper.wp execOp
  simp only [ho, resolve, invoke, builtin, Sem.run_bind, Sem.run_pure, Result.andThen_ok, List.map_toArray, List.map_cons, List.map_nil, hs, hx, h2]
  exact hK _ _ (h av' cv' w' h3)
theorem step_append_row {ops : Array Oper} {o : Oper} {a : Act} {K : Act → World → Prop} {Q : Exit → Act → World → Prop} {X : Prop} {w : World} (hgd : o.guard = none) (s x : Operand) (t : TypeId)
    (ho : o.op = .call { callee := .builtin .append, args := #[s, x], argTypes := #[t, t] })
    (E : TypeId) (i : TypeInfo) (z : Value) (c by_ : Nat) (ht : Try.prog.underlying t = some (.slice E)) (hi : Try.prog.info? E = some i) (hz : i.zero = some z) (hsize : i.size = c) (hby : i.bytes = by_) (hzs : z.cells.size = c) (hc : 0 < c)
    (base : Nat) (av : Option Addr) (n cv : Nat) (us : List Value) (hs : a.eval s = .slice av n cv) (hown : w.ownsRow base E c (.slice av n cv) n us)
    (ao : Option Addr) (m cx : Nat) (news : List Value) (hx : a.eval x = .slice ao m cx) (hl : news.length = m * c) (hr : 0 < m → ∃ ad, ao = some ad ∧ ∀ j u, news[j]? = some u → w.cell? (ad.add j) = some u) (h1 : ∀ u ∈ news, u.oneCell' = true) (h63 : n + m ≤ maxLen) (hb : (n + m) * by_ ≤ 140737488355328) (hbase : base ≤ w.heap.size)
    (h : ∀ av' cv' w', AppR E c w base av n cv (us ++ news) av' (n + m) cv' w' → K (a.put o.dst (.slice av' (n + m) cv')) w') :
    if Region.wanted o (yielded ops a.tmps) = true then Oper.wp Try.prog o a w K Q else X := by
  have hw : Region.wanted o (yielded ops a.tmps) = true := by simp [Region.wanted, hgd]
  rw [if_pos hw]
  obtain ⟨av', cv', w', h2, h3⟩ := run_append_row w t o.type E i z c by_ ht hi hz hsize hby hzs hc base av n cv us hown ao m cx news hl hr h1 h63 hb hbase
  unfold Oper.wp execOp
  simp only [ho, resolve, invoke, builtin, Sem.run_bind, Sem.run_pure, Result.andThen_ok, List.map_toArray, List.map_cons, List.map_nil, hs, hx, h2]
  exact h av' cv' w' h3
def NR (B : Nat → Bool) (w : World) (us : List Value) (l : List Nd) : Prop :=
  us.length = l.length * 5 ∧ ∀ i, i < l.length → ∃ ut un, us[i * 5]? = some (.int .i64 (l.getD i nd0).kind) ∧ us[i * 5 + 1]? = some (.int .i64 (l.getD i nd0).n) ∧ us[i * 5 + 2]? = some ut ∧ us[i * 5 + 3]? = some un ∧
    us[i * 5 + 4]? = some (.int .i64 (l.getD i nd0).count) ∧ RdV (veil B w) ut (l.getD i nd0).text ∧ RdVV (veil B w) un (l.getD i nd0).names
theorem NR.up {B : Nat → Bool} {w w' : World} {us : List Value} {l : List Nd} (h : NR B w us l) (hu : Up B w w') : NR B w' us l :=
  ⟨h.1, fun i hi => by
    obtain ⟨ut, un, c0, c1, c2, c3, c4, ht, hn⟩ := h.2 i hi
    exact ⟨ut, un, c0, c1, c2, c3, c4, RdV.up ht hu, RdVV.up hn hu⟩⟩
theorem NR.app {B : Nat → Bool} {w : World} {us vs : List Value} {l m : List Nd} (h : NR B w us l) (k : NR B w vs m) : NR B w (us ++ vs) (l ++ m) := by
  refine ⟨by rw [List.length_append, List.length_append, h.1, k.1]; omega, fun i hi => ?_⟩
  rw [List.length_append] at hi
  by_cases hl : i < l.length
  · obtain ⟨ut, un, c0, c1, c2, c3, c4, ht, hn⟩ := h.2 i hl
    have e : (l ++ m).getD i nd0 = l.getD i nd0 := by rw [List.getD_eq_getElem?_getD, List.getElem?_append_left hl, ← List.getD_eq_getElem?_getD]
    have hlen := h.1
    rw [e]
    exact ⟨ut, un, by rw [List.getElem?_append_left (by omega)]; exact c0, by rw [List.getElem?_append_left (by omega)]; exact c1, by rw [List.getElem?_append_left (by omega)]; exact c2, by rw [List.getElem?_append_left (by omega)]; exact c3, by rw [List.getElem?_append_left (by omega)]; exact c4, ht, hn⟩
  · obtain ⟨ut, un, c0, c1, c2, c3, c4, ht, hn⟩ := k.2 (i - l.length) (by omega)
    have e : (l ++ m).getD i nd0 = m.getD (i - l.length) nd0 := by rw [List.getD_eq_getElem?_getD, List.getElem?_append_right (by omega), ← List.getD_eq_getElem?_getD]
    have hlen := h.1
    have g : ∀ q, (us ++ vs)[i * 5 + q]? = vs[(i - l.length) * 5 + q]? := fun q => by rw [List.getElem?_append_right (by omega)]; congr 1; omega
    rw [e]
    exact ⟨ut, un, (g 0).trans c0, (g 1).trans c1, (g 2).trans c2, (g 3).trans c3, (g 4).trans c4, ht, hn⟩
theorem rdV_slice {w : World} {u : Value} {zs : List Int} (h : RdV w u zs) : u.oneCell' = true := by
  obtain ⟨ao, cap, rfl, _⟩ := h; rfl
theorem rdVV_slice {w : World} {u : Value} {l : List (List Int)} (h : RdVV w u l) : u.oneCell' = true := by
  obtain ⟨ao, cap, rfl, _⟩ := h; rfl
theorem NR.one {B : Nat → Bool} {w : World} {us : List Value} {l : List Nd} (h : NR B w us l) : ∀ u ∈ us, u.oneCell' = true := by
  intro u hu
  obtain ⟨j, hj, rfl⟩ := List.getElem_of_mem hu
  have hlen := h.1
  obtain ⟨ut, un, c0, c1, c2, c3, c4, ht, hn⟩ := h.2 (j / 5) (by omega)
  have hg : us[j]? = some us[j] := List.getElem?_eq_getElem hj
  have hm : j % 5 = 0 ∨ j % 5 = 1 ∨ j % 5 = 2 ∨ j % 5 = 3 ∨ j % 5 = 4 := by omega
  rcases hm with e | e | e | e | e
  · rw [show j / 5 * 5 = j by omega, hg] at c0; rw [Option.some.inj c0]; rfl
  · rw [show j / 5 * 5 + 1 = j by omega, hg] at c1; rw [Option.some.inj c1]; rfl
  · rw [show j / 5 * 5 + 2 = j by omega, hg] at c2; rw [Option.some.inj c2]; exact rdV_slice ht
  · rw [show j / 5 * 5 + 3 = j by omega, hg] at c3; rw [Option.some.inj c3]; exact rdVV_slice hn
  · rw [show j / 5 * 5 + 4 = j by omega, hg] at c4; rw [Option.some.inj c4]; rfl
theorem FN.news {B : Nat → Bool} {w : World} {ao : Option Addr} {cap : Nat} {l : List Nd} (h : RdN (veil B w) ao l) :
    ∃ news, NR B w news l ∧ (0 < l.length → ∃ ad, ao = some ad ∧ ∀ j u, news[j]? = some u → w.cell? (ad.add j) = some u) ∧ cap = cap := by
  by_cases h0 : 0 < l.length
  · obtain ⟨b, off, _, _, rfl, _⟩ := h 0 h0
    have hc : ∀ i, i < l.length → ∃ ut un, w.cell? ⟨b, off + i * 5, none⟩ = some (.int .i64 (l.getD i nd0).kind) ∧ w.cell? ⟨b, off + i * 5 + 1, none⟩ = some (.int .i64 (l.getD i nd0).n) ∧ w.cell? ⟨b, off + i * 5 + 2, none⟩ = some ut ∧ w.cell? ⟨b, off + i * 5 + 3, none⟩ = some un ∧ w.cell? ⟨b, off + i * 5 + 4, none⟩ = some (.int .i64 (l.getD i nd0).count) ∧ RdV (veil B w) ut (l.getD i nd0).text ∧ RdVV (veil B w) un (l.getD i nd0).names := fun i hi => by
      obtain ⟨b', off', ut, un, e, c0, c1, c2, c3, c4, ht, hn⟩ := h i hi
      simp only [Option.some.injEq, Addr.mk.injEq, and_true] at e
      obtain ⟨rfl, rfl⟩ := e
      exact ⟨ut, un, (veil_cell c0).1, (veil_cell c1).1, (veil_cell c2).1, (veil_cell c3).1, (veil_cell c4).1, ht, hn⟩
    refine ⟨(List.range (l.length * 5)).map fun j => (w.cell? ⟨b, off + j, none⟩).getD default, ⟨by simp, fun i hi => ?_⟩, fun _ => ⟨_, rfl, fun j u hu => ?_⟩, rfl⟩
    · obtain ⟨ut, un, c0, c1, c2, c3, c4, ht, hn⟩ := hc i hi
      have g : ∀ q u, q < 5 → w.cell? ⟨b, off + i * 5 + q, none⟩ = some u → ((List.range (l.length * 5)).map fun j => (w.cell? ⟨b, off + j, none⟩).getD default)[i * 5 + q]? = some u := fun q u hq hu => by
        rw [List.getElem?_map, List.getElem?_range (by omega)]
        simp only [Option.map_some, ← Nat.add_assoc, hu, Option.getD_some]
      exact ⟨ut, un, g 0 _ (by omega) c0, g 1 _ (by omega) c1, g 2 _ (by omega) c2, g 3 _ (by omega) c3, g 4 _ (by omega) c4, ht, hn⟩
    · rw [List.getElem?_map] at hu
      cases hj : (List.range (l.length * 5))[j]? with
      | none => rw [hj] at hu; cases hu
      | some q =>
        rw [hj] at hu
        have hlt : j < l.length * 5 := by
          rcases Nat.lt_or_ge j (l.length * 5) with h' | h'
          · exact h'
          · rw [List.getElem?_eq_none (by simpa using h')] at hj; cases hj
        rw [List.getElem?_range hlt] at hj
        obtain rfl := Option.some.inj hj
        have hs : ∃ x, w.cell? ⟨b, off + j, none⟩ = some x := by
          obtain ⟨ut, un, c0, c1, c2, c3, c4, _⟩ := hc (j / 5) (by omega)
          have hm : j % 5 = 0 ∨ j % 5 = 1 ∨ j % 5 = 2 ∨ j % 5 = 3 ∨ j % 5 = 4 := by omega
          rcases hm with e | e | e | e | e
          · rw [show off + j / 5 * 5 = off + j by omega] at c0; exact ⟨_, c0⟩
          · rw [show off + j / 5 * 5 + 1 = off + j by omega] at c1; exact ⟨_, c1⟩
          · rw [show off + j / 5 * 5 + 2 = off + j by omega] at c2; exact ⟨_, c2⟩
          · rw [show off + j / 5 * 5 + 3 = off + j by omega] at c3; exact ⟨_, c3⟩
          · rw [show off + j / 5 * 5 + 4 = off + j by omega] at c4; exact ⟨_, c4⟩
        obtain ⟨x, hx⟩ := hs
        rw [plainAt, hx]
        simp only [Option.map_some, hx, Option.getD_some] at hu
        exact hu
  · obtain rfl : l = [] := by cases l with | nil => rfl | cons a t => simp at h0
    exact ⟨[], ⟨rfl, fun i hi => absurd hi (by simp)⟩, fun h' => absurd h' (by simp), rfl⟩
def FNs (B : Nat → Bool) (w : World) (v : Value) (ks : List (List Nd)) : Prop :=
  ∃ ao cap, v = .slice ao ks.length cap ∧ ∀ i, i < ks.length → ∃ b off u, ao = some ⟨b, off, none⟩ ∧ (veil B w).cell? ⟨b, off + i, none⟩ = some u ∧ FN B w u (ks.getD i [])
theorem FNs.up {B : Nat → Bool} {w w' : World} {v : Value} {ks : List (List Nd)} (h : FNs B w v ks) (hu : Up B w w') : FNs B w' v ks := by
  obtain ⟨ao, cap, e, h⟩ := h
  refine ⟨ao, cap, e, fun i hi => ?_⟩
  obtain ⟨b, off, u, e, hc, hf⟩ := h i hi
  exact ⟨b, off, u, e, hu.cell hc, hf.up hu⟩
def node (n : Nd) (ks : List (List Nd)) : List Nd := ⟨n.kind, n.n, n.text, n.names, ks.length⟩ :: ks.flatten
theorem up_below {B : Nat → Bool} {w w' : World} (h : Below w.heap.size w w') : Up B w w' := ⟨h.size, fun b _ hb => h.block b hb⟩
theorem fn_own {B : Nat → Bool} {base T m cv : Nat} {w : World} {av : Option Addr} {us : List Value} {l : List Nd} (hB : ∀ b, base ≤ b → B b = false) (h : w.ownsRow base T 5 (.slice av m cv) m us) (hm : m = l.length) (hn : NR B w us l) : FN B w (.slice av m cv) l := by
  subst hm
  rcases h.2 with ⟨e, e0⟩ | ⟨g, cap, cur, e, hg, hh, hnc, _, hs, ht⟩
  · simp only [Value.slice.injEq] at e
    obtain ⟨rfl, hm0, rfl⟩ := e
    exact ⟨none, 0, rfl, by omega, fun i hi => absurd hi (by omega)⟩
  · simp only [Value.slice.injEq] at e
    obtain ⟨rfl, _, rfl⟩ := e
    refine ⟨_, _, rfl, hnc, fun i hi => ?_⟩
    obtain ⟨ut, un, c0, c1, c2, c3, c4, ht', hn'⟩ := hn.2 i hi
    have g5 : ∀ q u, q < 5 → us[i * 5 + q]? = some u → (veil B w).cell? ⟨g, 0 + i * 5 + q, none⟩ = some u := fun q u hq hu => by
      refine cell_veil ?_ (hB g hg)
      rw [Nat.zero_add, World.ownsRow.cellAt h (i * 5 + q) (by omega)]
      exact hu
    exact ⟨g, 0, ut, un, rfl, g5 0 _ (by omega) c0, g5 1 _ (by omega) c1, g5 2 _ (by omega) c2, g5 3 _ (by omega) c3, g5 4 _ (by omega) c4, ht', hn'⟩
theorem info_node : (Try.prog.info? 75).map (fun i => (i.zero, i.size, i.bytes)) = some (some (.agg #[.int .i64 0, .int .i64 0, .slice none 0 0, .slice none 0 0, .int .i64 0]), 5, 72) := by kernel_rfl
set_option maxRecDepth 100000 in
set_option maxHeartbeats 2000000 in
theorem l3node_any (B : Nat → Bool) (w : World) (n : Nd) (ut un vk : Value) (ks : List (List Nd)) (hB : ∀ b, w.heap.size ≤ b → B b = false) (ht : RdV (veil B w) ut n.text) (hn : RdVV (veil B w) un n.names) (hk : FNs B w vk ks) (hs : (node n ks).length ≤ 1000000) (hkl : ks.length ≤ 1000000) :
    Calls Try.prog 45 #[.agg #[.int .i64 n.kind, .int .i64 n.n, ut, un, .int .i64 n.count], vk] w fun e w' => ∃ x, e = .returned x ∧ FN B w' x (node n ks) ∧ Below w.heap.size w w' := by
  obtain ⟨ao, cap, rfl, hk⟩ := hk
  obtain ⟨i0, hi0, hz0, hz1, hz2⟩ := info_parts info_node
  obtain ⟨N, hN⟩ : ∃ N, N = ks.length := ⟨_, rfl⟩
  have hNb : N ≤ 1000000 := by omega
  have HK : Hid (∀ i, i < N → ∃ b off u, ao = some ⟨b, off, none⟩ ∧ (veil B w).cell? ⟨b, off + i, none⟩ = some u ∧ FN B w u (ks.getD i [])) := fun i hi => hk i (by omega)
  have HN : Hid (N = ks.length) := hN
  have HS : Hid ((node n ks).length ≤ 1000000) := hs
  have H0 : Hid (NR B w [.int .i64 n.kind, .int .i64 n.n, ut, un, .int .i64 (N : Int)] [⟨n.kind, n.n, n.text, n.names, ks.length⟩]) := ⟨rfl, fun i hi => by
    have : i = 0 := by simpa using hi
    subst this
    exact ⟨ut, un, rfl, rfl, rfl, rfl, by rw [hN]; rfl, ht, hn⟩⟩
  rw [← hN]
  clear hk hs ht hn hN hkl
  go_enter Try.func45, Try.ntmps45
  go_wp2
  go_loopw [5, 6] (fun v x wr => ∃ (k m cv : Nat) (av : Option Addr) (us : List Value), k ≤ N ∧ x = .int .i64 (k : Int) ∧ v = .slice av m cv ∧ m ≤ 1000000 ∧ Hid (wr.ownsRow w.heap.size 75 5 (.slice av m cv) m us) ∧ Hid (NR B w us (⟨n.kind, n.n, n.text, n.names, ks.length⟩ :: (ks.take k).flatten)) ∧ Hid (m = 1 + ((ks.take k).flatten).length) ∧ Hid (Below w.heap.size w wr)) (fun _ x _ => N - (intOf x).toNat)
  case atStart =>
    have hb : Below w.heap.size w ((w.alloc (.cells #[.int .i64 n.kind, .int .i64 n.n, ut, un, .int .i64 (N : Int)] 75)).alloc (.cells #[.int .i64 n.kind, .int .i64 n.n, ut, un, .int .i64 (N : Int)] 75)) := ((Below.refl _ _).alloc (Nat.le_refl _) _).alloc (by simp) _
    refine ⟨0, 1, 1, _, [.int .i64 n.kind, .int .i64 n.n, ut, un, .int .i64 (N : Int)], Nat.zero_le _, rfl, rfl, by omega, ?_, H0.out, by show 1 = _; simp, hb⟩
    refine ⟨rfl, .inr ⟨w.heap.size + 1, 1, #[.int .i64 n.kind, .int .i64 n.n, ut, un, .int .i64 (N : Int)], rfl, by omega, ?_, by omega, by unfold maxLen; omega, by simp, by simp⟩⟩
    have := heap_alloc_new (w.alloc (.cells #[.int .i64 n.kind, .int .i64 n.n, ut, un, .int .i64 (N : Int)] 75)) (.cells #[.int .i64 n.kind, .int .i64 n.n, ut, un, .int .i64 (N : Int)] 75)
    simpa using this
  case round =>
    obtain ⟨k, m, cv, av, us, hkN, rfl, rfl, hm, HO, HR, HM, HB⟩ := hrel
    by_cases hlt : k < N
    · obtain ⟨b, off, u, rfl, hcu, ao2, cap2, rfl, hc2, hrd⟩ := HK.out k hlt
      obtain ⟨news, hnr, hnw, _⟩ := FN.news (cap := 0) hrd
      have hkl : k < ks.length := by have := HN.out; omega
      have efl : (ks.take (k + 1)).flatten = (ks.take k).flatten ++ ks.getD k [] := by
        rw [List.take_add_one, List.flatten_append, List.getElem?_eq_getElem hkl, List.getD_eq_getElem?_getD, List.getElem?_eq_getElem hkl]
        simp
      have htot : (ks.take (k + 1)).flatten.length ≤ ks.flatten.length := by
        have : ks.flatten = (ks.take (k + 1)).flatten ++ (ks.drop (k + 1)).flatten := by rw [← List.flatten_append, List.take_append_drop]
        rw [this, List.length_append]; omega
      have hmM : m + (ks.getD k []).length ≤ 1000000 := by
        have h1 := HM.out
        have h2 := HS.out
        rw [efl, List.length_append] at htot
        simp only [node, List.length_cons] at h2
        omega
      have kc : wr.cell? ⟨b, off + k, none⟩ = some (.slice ao2 (ks.getD k []).length cap2) := cellB (veil_cell hcu).1 HB.out
      have NW : Hid (0 < (ks.getD k []).length → ∃ ad, ao2 = some ad ∧ ∀ j u, news[j]? = some u → wr.cell? (ad.add j) = some u) := fun h0 => by
        obtain ⟨ad, e, h⟩ := hnw h0
        exact ⟨ad, e, fun j u hu => (HB.out.cell (World.block_lt_of_cell? _ _ (h j u hu))).trans (h j u hu)⟩
      have HL : news.length = (ks.getD k []).length * 5 := hnr.1
      have H1 := hnr.one
      have HNX : Hid (NR B w (us ++ news) (⟨n.kind, n.n, n.text, n.names, ks.length⟩ :: (ks.take (k + 1)).flatten)) := by
        have := HR.out.app hnr
        rw [List.cons_append, ← efl] at this
        exact this
      have HMX : Hid (m + (ks.getD k []).length = 1 + (ks.take (k + 1)).flatten.length) := by
        show _ = _
        rw [efl, List.length_append, HM.out]; omega
      have hbs : w.heap.size ≤ wr.heap.size := HB.out.size
      clear hcu hc2 hrd hnr hnw efl htot HR
      generalize (ks.getD k []).length = M at hmM kc NW HL HMX
      have i1 : (k : Int) < (N : Int) := by omega
      go_wp2_with (at_builtin; refine wpList_append_row rfl _ _ _ rfl 75 i0 (.agg #[.int .i64 0, .int .i64 0, .slice none 0 0, .slice none 0 0, .int .i64 0]) 5 72 Try.underlying60 hi0 hz0 hz1 hz2 rfl (by omega) w.heap.size av m cv us rfl HO.out ao2 M cap2 news rfl HL NW.out H1 (by unfold maxLen; omega) (by omega) hbs ?_; intro av5 cv5 w5 HA)
      refine ⟨⟨k + 1, m + M, cv5, av5, us ++ news, by omega, by go_num, rfl, hmM, HA.own, HNX, HMX, HB.out.grown HA.grow HB.out.size (fun q hq => (HO.out.lt q hq).1)⟩, by simp [intOf]; omega⟩
    · have hkn : k = N := by omega
      subst hkn
      have eall : ks.take k = ks := by rw [HN.out]; exact List.take_length
      have F : Hid (FN B wr (.slice av m cv) (node n ks)) := by
        have h1 := HR.out
        have h2 := HM.out
        rw [eall] at h1 h2
        exact fn_own hB HO.out (by rw [h2]; simp [node]; omega) (h1.up (up_below HB.out))
      clear HR HM eall HS HK H0
      have i1 : ¬ ((k : Int) < (k : Int)) := by omega
      go_wp2
      go_returns
      exact ⟨_, rfl, F.out, HB.out⟩
def KR (B : Nat → Bool) (w : World) (us : List Value) (ks : List (List Nd)) : Prop :=
  us.length = ks.length ∧ ∀ i, i < ks.length → ∃ u, us[i]? = some u ∧ FN B w u (ks.getD i [])
theorem kr_nil (B : Nat → Bool) (w : World) : KR B w [] [] := ⟨rfl, fun i hi => absurd hi (by simp)⟩
theorem KR.up {B : Nat → Bool} {w w' : World} {us : List Value} {ks : List (List Nd)} (h : KR B w us ks) (hu : Up B w w') : KR B w' us ks :=
  ⟨h.1, fun i hi => by
    obtain ⟨u, e, hf⟩ := h.2 i hi
    exact ⟨u, e, hf.up hu⟩⟩
theorem kr_one {B : Nat → Bool} {w : World} {u : Value} {l : List Nd} (h : FN B w u l) : KR B w [u] [l] := ⟨rfl, fun i hi => by
  have : i = 0 := by simpa using hi
  subst this
  exact ⟨u, rfl, h⟩⟩
theorem KR.app {B : Nat → Bool} {w : World} {us vs : List Value} {l m : List (List Nd)} (h : KR B w us l) (k : KR B w vs m) : KR B w (us ++ vs) (l ++ m) := by
  refine ⟨by rw [List.length_append, List.length_append, h.1, k.1], fun i hi => ?_⟩
  rw [List.length_append] at hi
  have hlen := h.1
  by_cases hl : i < l.length
  · obtain ⟨u, e, hf⟩ := h.2 i hl
    exact ⟨u, by rw [List.getElem?_append_left (by omega)]; exact e, by rw [List.getD_eq_getElem?_getD, List.getElem?_append_left hl, ← List.getD_eq_getElem?_getD]; exact hf⟩
  · obtain ⟨u, e, hf⟩ := k.2 (i - l.length) (by omega)
    exact ⟨u, by rw [List.getElem?_append_right (by omega), hlen]; exact e, by rw [List.getD_eq_getElem?_getD, List.getElem?_append_right (by omega), ← List.getD_eq_getElem?_getD]; exact hf⟩
theorem KR.one {B : Nat → Bool} {w : World} {us : List Value} {ks : List (List Nd)} (h : KR B w us ks) : ∀ u ∈ us, u.oneCell' = true := by
  intro u hu
  obtain ⟨j, hj, rfl⟩ := List.getElem_of_mem hu
  obtain ⟨u, e, ao, cap, rfl, _⟩ := h.2 j (by have := h.1; omega)
  rw [List.getElem?_eq_getElem hj] at e
  rw [Option.some.inj e]; rfl
theorem fns_own {B : Nat → Bool} {base T m cv : Nat} {w : World} {av : Option Addr} {us : List Value} {ks : List (List Nd)} (hB : ∀ b, (Value.slice av m cv).ownBlock = some b → B b = false) (h : w.ownsRow base T 1 (.slice av m cv) m us) (hm : m = ks.length) (hn : KR B w us ks) : FNs B w (.slice av m cv) ks := by
  rcases h.2 with ⟨e, e0⟩ | ⟨g, cap, cur, e, hg, hh, hnc, _, hs, ht⟩
  · simp only [Value.slice.injEq] at e
    obtain ⟨rfl, hm0, rfl⟩ := e
    exact ⟨none, 0, by rw [hm], fun i hi => absurd hi (by omega)⟩
  · subst hm
    simp only [Value.slice.injEq] at e
    obtain ⟨rfl, _, rfl⟩ := e
    refine ⟨_, _, rfl, fun i hi => ?_⟩
    obtain ⟨u, e, hf⟩ := hn.2 i hi
    refine ⟨g, 0, u, rfl, cell_veil ?_ (hB g rfl), hf⟩
    rw [Nat.zero_add, World.ownsRow.cellAt h i (by omega)]
    exact e
theorem FNs.news {B : Nat → Bool} {w : World} {ao : Option Addr} {ks : List (List Nd)} (h : ∀ i, i < ks.length → ∃ b off u, ao = some ⟨b, off, none⟩ ∧ (veil B w).cell? ⟨b, off + i, none⟩ = some u ∧ FN B w u (ks.getD i [])) :
    ∃ news, KR B w news ks ∧ (0 < ks.length → ∃ ad, ao = some ad ∧ ∀ j u, news[j]? = some u → w.cell? (ad.add j) = some u) := by
  by_cases h0 : 0 < ks.length
  · obtain ⟨b, off, _, rfl, _⟩ := h 0 h0
    have hc : ∀ i, i < ks.length → ∃ u, w.cell? ⟨b, off + i, none⟩ = some u ∧ FN B w u (ks.getD i []) := fun i hi => by
      obtain ⟨b', off', u, e, hu, hf⟩ := h i hi
      simp only [Option.some.injEq, Addr.mk.injEq, and_true] at e
      obtain ⟨rfl, rfl⟩ := e
      exact ⟨u, (veil_cell hu).1, hf⟩
    refine ⟨(List.range ks.length).map fun j => (w.cell? ⟨b, off + j, none⟩).getD default, ⟨by simp, fun i hi => ?_⟩, fun _ => ⟨_, rfl, fun j u hu => ?_⟩⟩
    · obtain ⟨u, hu, hf⟩ := hc i hi
      exact ⟨u, by rw [List.getElem?_map, List.getElem?_range hi]; simp [hu], hf⟩
    · rcases Nat.lt_or_ge j ks.length with hj | hj
      · obtain ⟨x, hx, _⟩ := hc j hj
        rw [List.getElem?_map, List.getElem?_range hj] at hu
        simp only [Option.map_some, hx, Option.getD_some] at hu
        rw [plainAt, hx]; exact hu
      · rw [List.getElem?_eq_none (by simpa using hj)] at hu; cases hu
  · obtain rfl : ks = [] := by cases ks with | nil => rfl | cons a t => simp at h0
    exact ⟨[], kr_nil _ _, fun h' => absurd h' (by simp)⟩
theorem info_nodes : (Try.prog.info? 60).map (fun i => (i.zero, i.size, i.bytes)) = some (some (.slice none 0 0), 1, 24) := by kernel_rfl
def kn (k : Int) : Nd := ⟨k, 0, [], [], 0⟩
set_option maxRecDepth 100000 in
set_option maxHeartbeats 2000000 in
theorem l7callOf_any (B : Nat → Bool) (w : World) (uf va : Value) (f : List Nd) (ar : List (List Nd)) (hB : ∀ b, w.heap.size ≤ b → B b = false) (hf : FN B w uf f) (ha : FNs B w va ar) (hs : (node (kn 18) (f :: ar)).length ≤ 1000000) (hl : ar.length ≤ 1000) :
    Calls Try.prog 66 #[uf, va] w fun e w' => ∃ x, e = .returned x ∧ FN B w' x (node (kn 18) (f :: ar)) ∧ Below w.heap.size w w' := by
  have HF : Hid (FN B w uf f) := hf
  obtain ⟨af, cf, euf, _, _⟩ := hf
  have hf := HF.out
  obtain ⟨ao, cap, rfl, ha⟩ := ha
  obtain ⟨news, hkr, hnw⟩ := FNs.news ha
  obtain ⟨i0, hi0, hz0, hz1, hz2⟩ := info_parts info_nodes
  have b1 : Below w.heap.size w (w.alloc (.cells #[uf] 60)) := (Below.refl _ _).alloc (Nat.le_refl _) _
  have OW : Hid ((w.alloc (.cells #[uf] 60)).ownsRow w.heap.size 60 1 (.slice (some ⟨w.heap.size, 0, none⟩) 1 1) 1 [uf]) :=
    ⟨rfl, .inr ⟨w.heap.size, 1, #[uf], rfl, Nat.le_refl _, heap_alloc_new _ _, Nat.le_refl _, by unfold maxLen; omega, by simp, by simp⟩⟩
  have NW : Hid (0 < ar.length → ∃ ad, ao = some ad ∧ ∀ j u, news[j]? = some u → (w.alloc (.cells #[uf] 60)).cell? (ad.add j) = some u) := fun h0 => by
    obtain ⟨ad, e, h⟩ := hnw h0
    exact ⟨ad, e, fun j u hu => (b1.cell (World.block_lt_of_cell? _ _ (h j u hu))).trans (h j u hu)⟩
  have HL : news.length = ar.length * 1 := by rw [Nat.mul_one]; exact hkr.1
  have H1 := hkr.one
  have hsz : w.heap.size ≤ (w.alloc (.cells #[uf] 60)).heap.size := b1.size
  have HC : Hid (∀ av' cv' w', AppR 60 1 (w.alloc (.cells #[uf] 60)) w.heap.size (some ⟨w.heap.size, 0, none⟩) 1 1 ([uf] ++ news) av' (1 + ar.length) cv' w' →
      Calls Try.prog 45 #[.agg #[.int .i64 18, .int .i64 0, .slice none 0 0, .slice none 0 0, .int .i64 0], .slice av' (1 + ar.length) cv'] w' fun e w2 => ∃ x, e = .returned x ∧ FN B w2 x (node (kn 18) (f :: ar)) ∧ Below w.heap.size w w2) := fun av' cv' w' hA => by
    have bb : Below w.heap.size w w' := b1.grown hA.grow b1.size (fun q hq => (OW.out.lt q hq).1)
    have hkk : KR B w' ([uf] ++ news) (f :: ar) := ((kr_one hf).app hkr).up (up_below bb)
    have hN : FNs B w' (.slice av' (1 + ar.length) cv') (f :: ar) := fns_own (fun b hb => hB b (hA.own.lt b hb).1) hA.own (by simp; omega) hkk
    refine (l3node_any B w' (kn 18) (.slice none 0 0) (.slice none 0 0) _ (f :: ar) (fun b hb => hB b (by have := bb.size; omega)) (rdV_nil _) (rdVV_nil _) hN hs (by simp; omega)).mono ?_
    rintro e w2 ⟨x, h1, h2, h3⟩
    exact ⟨x, h1, h2, bb.trans (h3.mono bb.size)⟩
  clear hf ha hkr hnw b1 HF
  subst euf
  go_enter Try.func66, Try.ntmps66
  go_wp2_with (first | (at_builtin; refine wpList_append_row rfl _ _ _ rfl 60 i0 (.slice none 0 0) 1 24 Try.underlying72 hi0 hz0 hz1 hz2 rfl (by omega) w.heap.size (some ⟨w.heap.size, 0, none⟩) 1 1 _ rfl OW.out ao ar.length cap news rfl HL NW.out H1 (by unfold maxLen; omega) (by omega) hsz ?_; intro av5 cv5 w5 hA; have HA := HC.out _ _ _ hA; clear hA) | (go_at_call 45; refine HA.mono ?_; rintro e w6 ⟨x, rfl, hF, hBl⟩))
  go_returns
  exact ⟨_, rfl, hF, hBl⟩
theorem own_far {w w' : World} {B E c n : Nat} {v : Value} {us : List Value} (h : w.ownsRow B E c v n us) (hk : ∀ b, v.ownBlock = some b → w'.heap[b]? = w.heap[b]?) : w'.ownsRow B E c v n us := by
  obtain ⟨h1, h2⟩ := h
  refine ⟨h1, ?_⟩
  rcases h2 with h | ⟨g', cap', cur, e, hb', hh, r⟩
  · exact .inl h
  · exact .inr ⟨g', cap', cur, e, hb', (hk g' (by rw [e]; rfl)).trans hh, r⟩
structure Gs where
  i : Nat
  names : List ByteArray
  fuel : Int
  loop : Bool
  fn : Bool
def RdS (w : World) (v : Value) (l : List ByteArray) : Prop :=
  ∃ ao cap, v = .slice ao l.length cap ∧ l.length ≤ cap ∧ ∀ i, i < l.length → ∃ b off, ao = some ⟨b, off, none⟩ ∧ w.cell? ⟨b, off + i, none⟩ = some (.string (l.getD i default))
theorem RdS.up {B : Nat → Bool} {w w' : World} {v : Value} {l : List ByteArray} (h : RdS (veil B w) v l) (hu : Up B w w') : RdS (veil B w') v l := by
  obtain ⟨ao, cap, e, hc, h⟩ := h
  refine ⟨ao, cap, e, hc, fun i hi => ?_⟩
  obtain ⟨b, off, e, h⟩ := h i hi
  exact ⟨b, off, e, hu.cell h⟩
structure Fg (g r : Nat) (w w' : World) : Prop where
  below : Below r w w'
  keep : ∀ b, b < w.heap.size → b ≠ r → b ≠ g → w'.heap[b]? = w.heap[b]?
theorem Fg.refl (g r : Nat) (w : World) : Fg g r w w := ⟨Below.refl _ _, fun _ _ _ _ => rfl⟩
theorem Fg.trans {g r : Nat} {a b c : World} (h : Fg g r a b) (k : Fg g r b c) : Fg g r a c :=
  ⟨h.below.trans k.below, fun x hx h1 h2 => (k.keep x (Nat.lt_of_lt_of_le hx h.below.size) h1 h2).trans (h.keep x hx h1 h2)⟩
theorem Fg.of {g r : Nat} {a b : World} (hr : r ≤ a.heap.size) (k : Below a.heap.size a b) : Fg g r a b := ⟨k.mono hr, fun x hx _ _ => k.block x hx⟩
theorem Fg.ofq {g r : Nat} {a b : World} (k : Fq r a b) : Fg g r a b := ⟨k.below, fun x hx h1 _ => k.keep x hx h1⟩
theorem Fg.drewN {g r : Nat} {w w' : World} (h : Fg g r w w') (k : Nat) : Fg g r w (w'.drewN k) := ⟨bel_drewN h.below k, fun b hb h1 h2 => by
  have : (w'.drewN k).heap = w'.heap := World.heap_drewN _ _
  rw [this]
  exact h.keep b hb h1 h2⟩
theorem Fg.up {g r : Nat} {w w' : World} {B : Nat → Bool} (h : Fg g r w w') (hg : B g = true) (hr : B r = true) : Up B w w' :=
  ⟨h.below.size, fun b hb hl => h.keep b hl (fun e => by subst e; rw [hr] at hb; cases hb) (fun e => by subst e; rw [hg] at hb; cases hb)⟩
structure Gg (V : Nat → Bool) (w0 : World) (av : Option Addr) (cv : Nat) (bs : List Int) (w : World) (g r : Nat) (s : Gs) : Prop where
  rd : Rr w0 av cv bs w r s.i
  lt : r < g
  own : ∃ nv, Lone 71 5 w g [.pointer (some ⟨r, 0, none⟩), nv, .int .i64 s.fuel, .bool s.loop, .bool s.fn] ∧ RdS (veil V w) nv s.names
  vg : V g = true
  vr : V r = true
  few : s.names.length ≤ 100000
  short : ∀ x ∈ s.names, x.size ≤ 1000
  low : -100000 ≤ s.fuel
  high : s.fuel ≤ 100000
theorem Gg.glt {V : Nat → Bool} {w0 w : World} {av : Option Addr} {cv g r : Nat} {bs : List Int} {s : Gs} (h : Gg V w0 av cv bs w g r s) : g < w.heap.size := by
  obtain ⟨nv, hL, _⟩ := h.own
  exact heap_lt hL.back
theorem Gg.keep {V : Nat → Bool} {w0 w w' : World} {av : Option Addr} {cv g r : Nat} {bs : List Int} {s : Gs} (h : Gg V w0 av cv bs w g r s) (hb : Below w.heap.size w w') : Gg V w0 av cv bs w' g r s := by
  have hl := h.glt
  obtain ⟨nv, hL, hn⟩ := h.own
  exact ⟨h.rd.keep hb, h.lt, ⟨nv, hL.below hb hl, hn.up (up_below hb)⟩, h.vg, h.vr, h.few, h.short, h.low, h.high⟩
theorem Gg.next {V : Nat → Bool} {w0 w w' : World} {av : Option Addr} {cv g r i : Nat} {bs : List Int} {s : Gs} (h : Gg V w0 av cv bs w g r s) (hR : Rr w0 av cv bs w' r i) (hq : Fq r w w') : Gg V w0 av cv bs w' g r { s with i := i } := by
  have hl := h.glt
  have hrg := h.lt
  obtain ⟨nv, hL, hn⟩ := h.own
  have F : Fg g r w w' := .ofq hq
  refine ⟨hR, h.lt, ⟨nv, ?_, hn.up (F.up h.vg h.vr)⟩, h.vg, h.vr, h.few, h.short, h.low, h.high⟩
  refine own_far hL (fun b e => ?_)
  cases e
  exact hq.keep g hl (by omega)
theorem rdS_alloc {B : Nat → Bool} {w : World} (l : List ByteArray) (T : TypeId) (hB : B w.heap.size = false) : RdS (veil B (w.alloc (.cells (l.map Value.string).toArray T))) (.slice (some ⟨w.heap.size, 0, none⟩) l.length l.length) l := by
  refine ⟨_, l.length, rfl, Nat.le_refl _, fun i hi => ⟨w.heap.size, 0, rfl, ?_⟩⟩
  rw [Nat.zero_add]
  refine cell_new hB ?_
  rw [List.getElem?_toArray, List.getElem?_map, List.getElem?_eq_getElem hi, List.getD_eq_getElem?_getD, List.getElem?_eq_getElem hi]
  rfl
def builtinsL : List ByteArray := [{ data := #[112, 114, 105, 110, 116] }, { data := #[114, 101, 97, 100] }, { data := #[116, 111, 115, 116, 114, 105, 110, 103] }, { data := #[116, 121, 112, 101] }, { data := #[112, 99, 97, 108, 108] }, { data := #[101, 114, 114, 111, 114] }, { data := #[99, 114, 101, 97, 116, 101] }, { data := #[114, 101, 115, 117, 109, 101] }, { data := #[121, 105, 101, 108, 100] }, { data := #[115, 116, 97, 116, 117, 115] }]
set_option maxRecDepth 100000 in
theorem l4builtins_any (w : World) :
    Calls Try.prog 78 #[] w fun e w' => ∃ v, e = .returned v ∧ RdS (veil (lt w.heap.size) w') v builtinsL ∧ Below w.heap.size w w' := by
  go_enter Try.func78, Try.ntmps78
  go_wp2
  go_returns
  exact ⟨_, rfl, rdS_alloc builtinsL _ (lt_ge (Nat.le_refl _)), (Below.refl _ _).alloc (Nat.le_refl _) _⟩
theorem bl_size (j : Nat) (h : j < 10) : (builtinsL.getD j default).size ≤ 1000 := by
  have : j = 0 ∨ j = 1 ∨ j = 2 ∨ j = 3 ∨ j = 4 ∨ j = 5 ∨ j = 6 ∨ j = 7 ∨ j = 8 ∨ j = 9 := by omega
  rcases this with rfl | rfl | rfl | rfl | rfl | rfl | rfl | rfl | rfl | rfl <;> decide
def someS (bs : List Int) (s : Gs) : ByteArray :=
  let k := nx bs s.i
  if 250 < k then { data := #[110, 111, 119, 104, 101, 114, 101] } else if s.names.length = 0 ∨ 244 < k then builtinsL.getD (k.toNat % 10) default else s.names.getD (k.toNat % s.names.length) default
def stepG (bs : List Int) (s : Gs) : Gs := { s with i := nxi bs s.i }
def Drew (V : Nat → Bool) (w0 : World) (av : Option Addr) (cv : Nat) (bs : List Int) (w : World) (g r : Nat) (l : List Nd) (s' : Gs) (e : Ending) (w' : World) : Prop :=
  ∃ x, e = .returned x ∧ FN (lt w.heap.size) w' x l ∧ Gg V w0 av cv bs w' g r s' ∧ Fg g r w w'
theorem nx_bound {bs : List Int} (hb : Bts bs) (i : Nat) : 0 ≤ nx bs i ∧ nx bs i ≤ 255 := by
  unfold nx
  split
  · exact hb i
  · omega
set_option maxRecDepth 100000 in
set_option maxHeartbeats 2000000 in
theorem l7some_any (V : Nat → Bool) (w0 w : World) (av : Option Addr) (cv g r : Nat) (bs : List Int) (s : Gs) (hr : Rd w0 av bs) (hb : Bts bs) (hl : bs.length ≤ 600) (h : Gg V w0 av cv bs w g r s) :
    Calls Try.prog 68 #[.pointer (some ⟨g, 0, none⟩)] w (Drew V w0 av cv bs w g r (nameN (someS bs s)) (stepG bs s)) := by
  have HG : Hid (Gg V w0 av cv bs w g r s) := h
  obtain ⟨nv, hL, hn⟩ := h.own
  have c0 : w.cell? ⟨g, 0, none⟩ = some (.pointer (some ⟨r, 0, none⟩)) := hL.at (j := 0) (by omega)
  have NX : Hid (∀ W, Rr w0 av cv bs W r s.i → Calls Try.prog 9 #[.pointer (some ⟨r, 0, none⟩)] W fun e w' => e = .returned (.int .i64 (nx bs s.i)) ∧ Rr w0 av cv bs w' r (nxi bs s.i) ∧ Fq r W w') := fun W h => next_any w0 W av cv r s.i bs hr hb hl h
  have hz := nx_bound hb s.i
  have NM : Hid (∀ W (t : ByteArray), t.size ≤ 1000 → Calls Try.prog 67 #[.string t] W fun e w' => ∃ x, e = .returned x ∧ FN (lt W.heap.size) w' x (nameN t) ∧ Below W.heap.size W w') := fun W t ht => l7name_any W t ht
  have BI : Hid (∀ W, Calls Try.prog 78 #[] W fun e w' => ∃ b off cb, e = .returned (.slice (some ⟨b, off, none⟩) 10 cb) ∧ (∀ j, j < 10 → w'.cell? ⟨b, off + j, none⟩ = some (.string (builtinsL.getD j default))) ∧ Below W.heap.size W w') := fun W => by
    refine (l4builtins_any W).mono ?_
    rintro e w' ⟨v, rfl, ⟨ab, cb, rfl, _, h⟩, hb⟩
    obtain ⟨b, off, rfl, _⟩ := h 0 (by decide)
    refine ⟨b, off, cb, rfl, fun j hj => ?_, hb⟩
    obtain ⟨b', off', e, hc⟩ := h j hj
    simp only [Option.some.injEq, Addr.mk.injEq, and_true] at e
    obtain ⟨rfl, rfl⟩ := e
    exact (veil_cell hc).1
  have FIN : Hid (∀ (t : ByteArray) (W1 W2 W3 : World) (x : Value), someS bs s = t → Gg V w0 av cv bs W1 g r (stepG bs s) → Fg g r w W1 → Below W1.heap.size W1 W2 → FN (lt W2.heap.size) W3 x (nameN t) → Below W2.heap.size W2 W3 → Drew V w0 av cv bs w g r (nameN (someS bs s)) (stepG bs s) (.returned x) W3) := fun t W1 W2 W3 x e hG hF h1 hN h2 => by
    rw [e]
    have h12 : Below W1.heap.size W1 W3 := h1.trans (h2.mono h1.size)
    have hsz : w.heap.size ≤ W2.heap.size := Nat.le_trans hF.below.size h1.size
    exact ⟨x, rfl, hN.less (fun b hb => by simp [lt] at hb ⊢; omega), hG.keep h12, hF.trans (.of (by have := hG.glt; have := hG.lt; omega) h12)⟩
  clear hL hn h
  go_enter Try.func68, Try.ntmps68
  go_wp2_with fail
  refine (NX.out _ HG.out.rd).mono ?_
  rintro e w1 ⟨rfl, hR, hQ⟩
  have HG1 : Hid (Gg V w0 av cv bs w1 g r (stepG bs s)) := HG.out.next hR hQ
  have F1 : Hid (Fg g r w w1) := .ofq hQ
  obtain ⟨nv1, hL1, ao, cap, rfl, hcap, hns⟩ := HG1.out.own
  have d1 : w1.cell? ⟨g, 1, none⟩ = some (.slice ao s.names.length cap) := hL1.at (j := 1) (by omega)
  have HNS : Hid (∀ i, i < s.names.length → ∃ b off, ao = some ⟨b, off, none⟩ ∧ w1.cell? ⟨b, off + i, none⟩ = some (.string (s.names.getD i default))) := fun i hi => by
    obtain ⟨b, off, e, h⟩ := hns i hi
    exact ⟨b, off, e, (veil_cell h).1⟩
  have HS : Hid (∀ x ∈ s.names, x.size ≤ 1000) := HG1.out.short
  have hfew : s.names.length ≤ 100000 := HG1.out.few
  have HSO : Hid (∀ k, nx bs s.i = k → someS bs s = if 250 < k then { data := #[110, 111, 119, 104, 101, 114, 101] } else if s.names.length = 0 ∨ 244 < k then builtinsL.getD (k.toNat % 10) default else s.names.getD (k.toNat % s.names.length) default) := fun k e => by unfold someS; rw [e]
  obtain ⟨k, hk⟩ : ∃ k : Nat, nx bs s.i = (k : Int) := ⟨(nx bs s.i).toNat, by omega⟩
  have E := HSO.out _ hk
  rw [hk] at hz ⊢
  rw [Int.toNat_natCast] at E
  have HE : Hid (someS bs s = if (250 : Int) < k then { data := #[110, 111, 119, 104, 101, 114, 101] } else if s.names.length = 0 ∨ (244 : Int) < k then builtinsL.getD (k % 10) default else s.names.getD (k % s.names.length) default) := E
  clear hR hQ hL1 hns E HSO hk NX
  by_cases h250 : (250 : Int) < (k : Int)
  · have E1 : Hid (someS bs s = { data := #[110, 111, 119, 104, 101, 114, 101] }) := by have := HE.out; rw [if_pos h250] at this; exact this
    go_wp2_with (go_at_call 67; refine (NM.out _ _ (by decide)).mono ?_; rintro e w2 ⟨x, rfl, hN, hB⟩)
    go_returns
    exact FIN.out _ _ _ _ _ E1.out HG1.out F1.out (Below.refl _ _) hN hB
  · by_cases h244 : s.names.length = 0 ∨ (244 : Int) < (k : Int)
    · have E1 : Hid (someS bs s = builtinsL.getD (k % 10) default) := by have := HE.out; rw [if_neg h250, if_pos h244] at this; exact this
      have hz10 := bl_size (k % 10) (by omega)
      have hor : (s.names.length : Int) = 0 ∨ (244 : Int) < (k : Int) := by omega
      obtain ⟨t, ht⟩ : ∃ t, t = builtinsL.getD (k % 10) default := ⟨_, rfl⟩
      have E2 : Hid (builtinsL.getD (k % 10) default = t) := ht.symm
      rw [← ht] at hz10 E1
      clear HE HNS HS ht
      obtain ⟨q, hq⟩ : ∃ q, q = k % 10 := ⟨_, rfl⟩
      have e10 : ((k : Int) % 10) = (q : Int) := by omega
      have hq10 : q < 10 := by omega
      rw [← hq] at E2
      clear hq
      go_wp2_with (first
        | (go_at_call 78; refine (BI.out _).mono ?_; rintro e w2 ⟨b, off, cb, rfl, hbs, hB2⟩; have kc := hbs q hq10; rw [E2.out] at kc; clear hbs; have HB2 : Hid (Below w1.heap.size w1 w2) := hB2; clear hB2)
        | (go_at_call 67; refine (NM.out _ _ hz10).mono ?_; rintro e w3 ⟨x, rfl, hN, hB3⟩))
      · go_returns
        exact FIN.out _ _ _ _ _ E1.out HG1.out F1.out HB2.out hN hB3
      · go_returns
        exact FIN.out _ _ _ _ _ E1.out HG1.out F1.out HB2.out hN hB3
      · have hx : ((s.names.length : Int) == 0) = false ∧ (k : Int) ≤ 244 := by assumption
        exfalso
        have h1 := hx.1
        simp only [beq_eq_false_iff_ne, ne_eq] at h1
        omega
    · have hn0 : 0 < s.names.length := by omega
      have hk4 : (k : Int) ≤ 244 := by omega
      obtain ⟨N, hN⟩ : ∃ N, N = s.names.length := ⟨_, rfl⟩
      obtain ⟨q, hq⟩ : ∃ q, q = k % N := ⟨_, rfl⟩
      have hqN : q < N := by rw [hq]; exact Nat.mod_lt _ (by omega)
      have eN : ((k : Int) % (N : Int)) = (q : Int) := by rw [hq]; exact (Int.natCast_emod k N).symm
      obtain ⟨b, off, rfl, kc⟩ := HNS.out q (by omega)
      have E1 : Hid (someS bs s = s.names.getD q default) := by
        have := HE.out
        rw [if_neg h250, if_neg h244, ← hN, ← hq] at this
        exact this
      have hzq : (s.names.getD q default).size ≤ 1000 := by
        rw [List.getD_eq_getElem?_getD, List.getElem?_eq_getElem (by omega)]
        exact HS.out _ (List.getElem_mem _)
      rw [← hN] at d1 hfew
      have hNp : 0 < N := by omega
      have hN0 : ¬ ((N : Int) = 0) := by omega
      clear HE HNS HS hq hn0 hN h244
      generalize s.names.getD q default = t at E1 hzq kc
      go_wp2_with (go_at_call 67; refine (NM.out _ _ hzq).mono ?_; rintro e w3 ⟨x, rfl, hNm, hB3⟩)
      · have hx : ((N : Int) == 0) = true ∨ (244 : Int) < (k : Int) := by assumption
        exfalso
        rcases hx with h1 | h1
        · simp only [beq_iff_eq] at h1; omega
        · omega
      · have HCC : Hid (∀ W, Below w1.heap.size w1 W → W.cell? ⟨g, 1, none⟩ = some (.slice (some ⟨b, off, none⟩) N cap) ∧ W.cell? ⟨b, off + q, none⟩ = some (.string t)) := fun W hW => ⟨cellB d1 hW, cellB kc hW⟩
        have NM2 : Hid (∀ W, Below w1.heap.size w1 W → Calls Try.prog 67 #[.string t] W fun e w' => ∃ x, e = .returned x ∧ FN (lt w1.heap.size) w' x (nameN t) ∧ Below w1.heap.size w1 w') := fun W hW => (NM.out W t hzq).mono (by
          rintro e w' ⟨x, rfl, h1, h2⟩
          exact ⟨x, rfl, h1.less (fun b hb => by have := hW.size; simp [lt] at hb ⊢; omega), hW.trans (h2.mono hW.size)⟩)
        have eT : Int.tmod (k : Int) (N : Int) = (q : Int) := by rw [Int.tmod_eq_emod_of_nonneg (by omega)]; exact eN
        have i0 : (0 : Int) ≤ (q : Int) := by omega
        have i1 : (q : Int) < (N : Int) := by omega
        go_region_held3 (fun W => (W.cell? ⟨g, 1, none⟩ = some (.slice (some ⟨b, off, none⟩) N cap) ∧ W.cell? ⟨b, off + q, none⟩ = some (.string t)) ∧ Below w1.heap.size w1 W) (refine ⟨?_, ?_⟩ <;> first | (refine HCC.out _ ?_; (repeat (first | exact Below.refl _ _ | assumption | refine Below.drew ?_ | refine bel_drewN ?_ _))) | (repeat (first | exact Below.refl _ _ | assumption | refine Below.drew ?_ | refine bel_drewN ?_ _))) (first | (go_at_call 67; refine (NM2.out _ (by repeat (first | exact Below.refl _ _ | assumption | refine Below.drew ?_ | refine bel_drewN ?_ _))).mono ?_; rintro e w3 ⟨x, rfl, hNm, hB3⟩))
        go_wp2
        go_returns
        exact FIN.out _ _ _ _ _ E1.out HG1.out F1.out (Below.refl _ _) hNm hB3
def Draws (bs : List Int) (f : Nat) (ag : Nat → Array Value) (s : Gs) (l : List Nd) (s' : Gs) : Prop :=
  ∀ (V : Nat → Bool) (w0 w : World) (av : Option Addr) (cv g r : Nat), (∀ b, w.heap.size ≤ b → V b = false) → Rd w0 av bs → Gg V w0 av cv bs w g r s → Calls Try.prog f (ag g) w (Drew V w0 av cv bs w g r l s')
section
variable {V : Nat → Bool} {w0 w : World} {av : Option Addr} {cv g r : Nat} {bs : List Int} {s : Gs}
theorem Gg.c0 (h : Gg V w0 av cv bs w g r s) : w.cell? ⟨g, 0, none⟩ = some (.pointer (some ⟨r, 0, none⟩)) := by
  obtain ⟨nv, hL, _⟩ := h.own
  exact hL.at (j := 0) (by omega)
theorem Gg.c1 (h : Gg V w0 av cv bs w g r s) : ∃ nv, w.cell? ⟨g, 1, none⟩ = some nv ∧ RdS (veil V w) nv s.names := by
  obtain ⟨nv, hL, hn⟩ := h.own
  exact ⟨nv, hL.at (j := 1) (by omega), hn⟩
theorem Gg.c2 (h : Gg V w0 av cv bs w g r s) : w.cell? ⟨g, 2, none⟩ = some (.int .i64 s.fuel) := by
  obtain ⟨nv, hL, _⟩ := h.own
  exact hL.at (j := 2) (by omega)
theorem Gg.c3 (h : Gg V w0 av cv bs w g r s) : w.cell? ⟨g, 3, none⟩ = some (.bool s.loop) := by
  obtain ⟨nv, hL, _⟩ := h.own
  exact hL.at (j := 3) (by omega)
theorem Gg.c4 (h : Gg V w0 av cv bs w g r s) : w.cell? ⟨g, 4, none⟩ = some (.bool s.fn) := by
  obtain ⟨nv, hL, _⟩ := h.own
  exact hL.at (j := 4) (by omega)
theorem Gg.free (h : Gg V w0 av cv bs w g r s) (j : Nat) : w.frozen? ⟨g, j, none⟩ = false := by
  obtain ⟨nv, hL, hn⟩ := h.own
  exact hL.free j
theorem cell_veils {V V' : Nat → Bool} {w : World} {a : Addr} {v : Value} (h : (veil V w).cell? a = some v) (hc : ∀ x, x < w.heap.size → V x = false → V' x = false) : (veil V' w).cell? a = some v := by
  obtain ⟨h1, h2⟩ := veil_cell h
  exact cell_veil h1 (hc _ (World.block_lt_of_cell? _ _ h1) h2)
theorem RdS.veils {V V' : Nat → Bool} {w : World} {v : Value} {l : List ByteArray} (h : RdS (veil V w) v l) (hc : ∀ x, x < w.heap.size → V x = false → V' x = false) : RdS (veil V' w) v l := by
  obtain ⟨ao, cap, e, hl, h⟩ := h
  refine ⟨ao, cap, e, hl, fun i hi => ?_⟩
  obtain ⟨b, off, e, h⟩ := h i hi
  exact ⟨b, off, e, cell_veils h hc⟩
theorem RdV.veils {V V' : Nat → Bool} {w : World} {v : Value} {zs : List Int} (h : RdV (veil V w) v zs) (hc : ∀ x, x < w.heap.size → V x = false → V' x = false) : RdV (veil V' w) v zs := by
  obtain ⟨ao, cap, e, hm, hr, hz⟩ := h
  refine ⟨ao, cap, e, hm, fun i hi => ?_, hz⟩
  obtain ⟨b, off, e, h⟩ := hr i hi
  exact ⟨b, off, e, cell_veils h hc⟩
theorem RdVV.veils {V V' : Nat → Bool} {w : World} {v : Value} {l : List (List Int)} (h : RdVV (veil V w) v l) (hc : ∀ x, x < w.heap.size → V x = false → V' x = false) : RdVV (veil V' w) v l := by
  obtain ⟨ao, cap, e, hm, h⟩ := h
  refine ⟨ao, cap, e, hm, fun i hi => ?_⟩
  obtain ⟨b, off, u, e, h1, h2⟩ := h i hi
  exact ⟨b, off, u, e, cell_veils h1 hc, RdV.veils h2 hc⟩
theorem FN.veils {V V' : Nat → Bool} {w : World} {v : Value} {l : List Nd} (h : FN V w v l) (hc : ∀ x, x < w.heap.size → V x = false → V' x = false) : FN V' w v l := by
  obtain ⟨ao, cap, e, hl, hr⟩ := h
  refine ⟨ao, cap, e, hl, fun i hi => ?_⟩
  obtain ⟨b, off, ut, un, e, c0, c1, c2, c3, c4, ht, hn⟩ := hr i hi
  exact ⟨b, off, ut, un, e, cell_veils c0 hc, cell_veils c1 hc, cell_veils c2 hc, cell_veils c3 hc, cell_veils c4 hc, RdV.veils ht hc, RdVV.veils hn hc⟩
theorem KR.veils {V V' : Nat → Bool} {w : World} {us : List Value} {ks : List (List Nd)} (h : KR V w us ks) (hc : ∀ x, x < w.heap.size → V x = false → V' x = false) : KR V' w us ks :=
  ⟨h.1, fun i hi => by
    obtain ⟨u, e, hf⟩ := h.2 i hi
    exact ⟨u, e, hf.veils hc⟩⟩
theorem Gg.veils {V' : Nat → Bool} (h : Gg V w0 av cv bs w g r s) (hc : ∀ x, x < w.heap.size → V x = false → V' x = false) (hg : V' g = true) (hr : V' r = true) : Gg V' w0 av cv bs w g r s := by
  obtain ⟨nv, hL, hn⟩ := h.own
  exact ⟨h.rd, h.lt, ⟨nv, hL, hn.veils hc⟩, hg, hr, h.few, h.short, h.low, h.high⟩
end
def hd (w : World) (Q : Nat → Bool) : Nat → Bool := fun b => tk.lt w.heap.size b || Q b
def vq (V Q : Nat → Bool) : Nat → Bool := fun b => V b || Q b
def no : Nat → Bool := fun _ => false
structure Cur (V : Nat → Bool) (w0 : World) (av : Option Addr) (cv : Nat) (bs : List Int) (w : World) (g r : Nat) (Q : Nat → Bool) (W : World) (s : Gs) : Prop where
  rd : Rd w0 av bs
  bt : Bts bs
  le : bs.length ≤ 600
  gg : Gg (vq V Q) w0 av cv bs W g r s
  fg : Fg g r w W
  hg : g < w.heap.size
  vg : V g = true
  vr : V r = true
  hv : ∀ b, w.heap.size ≤ b → V b = false
  hq : ∀ b, Q b = true → w.heap.size ≤ b ∧ b < W.heap.size
section
variable {V Q : Nat → Bool} {w0 w W W' : World} {av : Option Addr} {cv g r : Nat} {bs : List Int} {s s' : Gs} {x : Value} {l : List Nd}
theorem Cur.start (hv : ∀ b, w.heap.size ≤ b → V b = false) (hr : Rd w0 av bs) (hb : Bts bs) (hl : bs.length ≤ 600) (hG : Gg V w0 av cv bs w g r s) : Cur V w0 av cv bs w g r no w s :=
  ⟨hr, hb, hl, hG.veils (fun b _ h => by simp [vq, no, h]) (by simp [vq, hG.vg]) (by simp [vq, hG.vr]), .refl _ _ _, hG.glt, hG.vg, hG.vr, hv, fun b h => by simp [no] at h⟩
theorem Cur.rlt (C : Cur V w0 av cv bs w g r Q W s) : r < w.heap.size := by
  have h1 := C.gg.lt
  have h2 := C.hg
  omega
theorem Cur.sz (C : Cur V w0 av cv bs w g r Q W s) : w.heap.size ≤ W.heap.size := C.fg.below.size
theorem Cur.up (C : Cur V w0 av cv bs w g r Q W s) (hF : Fg g r W W') : Up (hd w Q) W W' := hF.up (by have := C.hg; simp [hd, tk.lt, this]) (by have := C.rlt; simp [hd, tk.lt, this])
theorem Cur.fn (C : Cur V w0 av cv bs w g r Q W s) (hF : Fg g r W W') (h : FN (hd w Q) W x l) : FN (hd w Q) W' x l := h.up (C.up hF)
theorem Cur.to (C : Cur V w0 av cv bs w g r Q W s) (hF : Fg g r W W') (hG : Gg (vq V Q) w0 av cv bs W' g r s') : Cur V w0 av cv bs w g r Q W' s' :=
  ⟨C.rd, C.bt, C.le, hG, C.fg.trans hF, C.hg, C.vg, C.vr, C.hv, fun b h => ⟨(C.hq b h).1, Nat.lt_of_lt_of_le (C.hq b h).2 hF.below.size⟩⟩
theorem Cur.bel (C : Cur V w0 av cv bs w g r Q W s) (hB : Below W.heap.size W W') : Cur V w0 av cv bs w g r Q W' s ∧ Fg g r W W' := by
  have h1 := C.gg.glt
  have h2 := C.gg.lt
  have hF : Fg g r W W' := .of (by omega) hB
  exact ⟨C.to hF (C.gg.keep hB), hF⟩
theorem Cur.next (C : Cur V w0 av cv bs w g r Q W s) {k : Nat} (hk : nx bs s.i = (k : Int)) :
    Calls Try.prog 9 #[.pointer (some ⟨r, 0, none⟩)] W fun e w' => e = .returned (.int .i64 (k : Int)) ∧ Cur V w0 av cv bs w g r Q w' (stepG bs s) ∧ Fg g r W w' :=
  (next_any w0 W av cv r s.i bs C.rd C.bt C.le C.gg.rd).mono (by
    rintro e w' ⟨rfl, hR, hQ⟩
    exact ⟨by rw [hk], C.to (.ofq hQ) (C.gg.next hR hQ), .ofq hQ⟩)
theorem Cur.call (C : Cur V w0 av cv bs w g r Q W s) {f : Nat} {ag : Nat → Array Value} (hD : Draws bs f ag s l s') :
    Calls Try.prog f (ag g) W fun e w' => ∃ a' c', e = .returned (.slice a' l.length c') ∧ FN (hd w Q) w' (.slice a' l.length c') l ∧ Cur V w0 av cv bs w g r Q w' s' ∧ Fg g r W w' :=
  (hD (vq V Q) w0 W av cv g r (fun b hb => by
    have h1 := C.sz
    have h2 := C.hv b (by omega)
    have h3 : Q b = false := by
      cases h : Q b with
      | false => rfl
      | true => have := (C.hq b h).2; omega
    simp [vq, h2, h3]) C.rd C.gg).mono (by
    rintro e w' ⟨x, rfl, hN, hG, hF⟩
    obtain ⟨a', c', rfl, hN'⟩ := hN
    have hN : FN (lt W.heap.size) w' (.slice a' l.length c') l := ⟨a', c', rfl, hN'⟩
    refine ⟨a', c', rfl, hN.less (fun b hb => ?_), C.to hF hG, hF⟩
    have h1 := C.sz
    have h3 : Q b = false := by
      cases h : Q b with
      | false => rfl
      | true => have := (C.hq b h).2; simp [lt] at hb; omega
    simp [hd, h3, lt] at hb ⊢
    omega)
theorem Cur.make (C : Cur V w0 av cv bs w g r Q W s) {f : Nat} {ag : Array Value} (h : Calls Try.prog f ag W fun e w' => ∃ x, e = .returned x ∧ FN (tk.lt W.heap.size) w' x l ∧ Below W.heap.size W w') :
    Calls Try.prog f ag W fun e w' => ∃ a' c', e = .returned (.slice a' l.length c') ∧ FN (hd w Q) w' (.slice a' l.length c') l ∧ Cur V w0 av cv bs w g r Q w' s ∧ Fg g r W w' :=
  h.mono (by
    rintro e w' ⟨x, rfl, hN, hB⟩
    obtain ⟨a', c', rfl, hN'⟩ := hN
    have hN : FN (lt W.heap.size) w' (.slice a' l.length c') l := ⟨a', c', rfl, hN'⟩
    obtain ⟨h1, h2⟩ := C.bel hB
    refine ⟨a', c', rfl, hN.less (fun b hb => ?_), h1, h2⟩
    have h1 := C.sz
    have h3 : Q b = false := by
      cases h : Q b with
      | false => rfl
      | true => have := (C.hq b h).2; simp [lt] at hb; omega
    simp [hd, h3, lt] at hb ⊢
    omega)
theorem Cur.drop (C : Cur V w0 av cv bs w g r Q W s) : Cur V w0 av cv bs w g r no W s :=
  ⟨C.rd, C.bt, C.le, C.gg.veils (fun b _ h => by simp [vq] at h; simp [vq, no, h.1]) (by simp [vq, C.vg]) (by simp [vq, C.vr]), C.fg, C.hg, C.vg, C.vr, C.hv, fun b h => by simp [no] at h⟩
theorem FN.drop (h : FN (hd w Q) W x l) : FN (hd w no) W x l := h.less (fun b h => by simp [hd] at h; simp [hd, no, h.1])
theorem Cur.done (C : Cur V w0 av cv bs w g r Q W s) (h : FN (hd w Q) W x l) : Drew V w0 av cv bs w g r l s (.returned x) W :=
  ⟨x, rfl, h.less (fun b h => by simp [hd] at h; exact h.1), C.gg.veils (fun b _ h => by simp [vq] at h; exact h.1) C.vg C.vr, C.fg⟩
def Kids (w : World) (Q : Nat → Bool) (W : World) (v : Value) (ks : List (List Nd)) : Prop := ∃ us, W.ownsRow w.heap.size 60 1 v ks.length us ∧ (∀ b, v.ownBlock = some b → Q b = true) ∧ KR (hd w Q) W us ks
theorem kids_nil : Kids w Q W (.slice none 0 0) [] := ⟨[], ⟨rfl, .inl ⟨rfl, rfl⟩⟩, fun b h => by simp [Value.ownBlock] at h, kr_nil _ _⟩
theorem Cur.kids {v : Value} {ks : List (List Nd)} (C : Cur V w0 av cv bs w g r Q W s) (hF : Fg g r W W') (h : Kids w Q W v ks) : Kids w Q W' v ks := by
  obtain ⟨us, h1, h2, h3⟩ := h
  refine ⟨us, own_far h1 (fun b e => ?_), h2, h3.up (C.up hF)⟩
  have hb := h1.lt b e
  have := C.rlt
  have := C.hg
  exact hF.keep b hb.2 (by omega) (by omega)
theorem Kids.fns {v : Value} {ks : List (List Nd)} {m c : Nat} {a : Option Addr} (h : Kids w Q W v ks) (hv : v = .slice a m c) : FNs (tk.lt w.heap.size) W v ks := by
  subst hv
  obtain ⟨us, h1, h2, h3⟩ := h
  have hm : m = ks.length := by
    rcases h1.2 with ⟨e, _⟩ | ⟨_, _, _, e, _⟩
    · simp only [Value.slice.injEq] at e
      have := h1.1
      rcases h1 with ⟨_, ⟨_, e2⟩ | ⟨_, _, _, e3, _⟩⟩
      · omega
      · simp only [Value.slice.injEq] at e3; omega
    · simp only [Value.slice.injEq] at e; omega
  subst hm
  exact fns_own (fun b hb => lt_ge (h1.lt b hb).1) h1 rfl (h3.veils (fun b _ hb => by simp [hd] at hb; exact hb.1))
theorem Cur.node (C : Cur V w0 av cv bs w g r Q W s) {v ut un : Value} {ks : List (List Nd)} {n : Nd} {m c : Nat} {a : Option Addr} (hv : v = .slice a m c) (hK : Kids w Q W v ks) (ht : RdV (veil (tk.lt w.heap.size) W) ut n.text) (hn : RdVV (veil (tk.lt w.heap.size) W) un n.names) (hs : (node n ks).length ≤ 1000000) (hkl : ks.length ≤ 1000000) :
    Calls Try.prog 45 #[.agg #[.int .i64 n.kind, .int .i64 n.n, ut, un, .int .i64 n.count], v] W fun e w' => ∃ a' c', e = .returned (.slice a' (node n ks).length c') ∧ FN (hd w no) w' (.slice a' (node n ks).length c') (node n ks) ∧ Cur V w0 av cv bs w g r no w' s ∧ Fg g r W w' :=
  (l3node_any (tk.lt w.heap.size) W n ut un v ks (fun b hb => lt_ge (by have := C.sz; omega)) ht hn (hK.fns hv) hs hkl).mono (by
    rintro e w' ⟨x, rfl, h1, h2⟩
    obtain ⟨h3, h4⟩ := C.drop.bel h2
    have hN := h1.less (C := hd w no) (fun b h => by simp [hd, no, h])
    obtain ⟨a', c', rfl, hN'⟩ := hN
    exact ⟨a', c', rfl, ⟨a', c', rfl, hN'⟩, h3, h4⟩)
theorem Cur.callOf (C : Cur V w0 av cv bs w g r Q W s) {v uf : Value} {f : List Nd} {ks : List (List Nd)} {m c : Nat} {a : Option Addr} (hv : v = .slice a m c) (hf : FN (hd w Q) W uf f) (hK : Kids w Q W v ks) (hs : (tk.node (kn 18) (f :: ks)).length ≤ 1000000) (hkl : ks.length ≤ 1000) :
    Calls Try.prog 66 #[uf, v] W fun e w' => ∃ a' c', e = .returned (.slice a' (tk.node (kn 18) (f :: ks)).length c') ∧ FN (hd w no) w' (.slice a' (tk.node (kn 18) (f :: ks)).length c') (tk.node (kn 18) (f :: ks)) ∧ Cur V w0 av cv bs w g r no w' s ∧ Fg g r W w' :=
  (l7callOf_any (tk.lt w.heap.size) W uf v f ks (fun b hb => lt_ge (by have := C.sz; omega)) (hf.less (fun b h => by simp [hd] at h; exact h.1)) (hK.fns hv) hs hkl).mono (by
    rintro e w' ⟨x, rfl, h1, h2⟩
    obtain ⟨h3, h4⟩ := C.drop.bel h2
    have hN := h1.less (C := hd w no) (fun b h => by simp [hd, no, h])
    obtain ⟨a', c', rfl, hN'⟩ := hN
    exact ⟨a', c', rfl, ⟨a', c', rfl, hN'⟩, h3, h4⟩)
def Mv (V : Nat → Bool) (w : World) (Q : Nat → Bool) (W : World) (Q' : Nat → Bool) (W' : World) : Prop := (Up (hd w Q') W W' ∧ ∀ b, b < W.heap.size → hd w Q b = false → hd w Q' b = false) ∧ Up (vq V Q') W W' ∧ ∀ b, b < W.heap.size → vq V Q b = false → vq V Q' b = false
theorem Mv.fn {Q' : Nat → Bool} (h : Mv V w Q W Q' W') (hx : FN (hd w Q) W x l) : FN (hd w Q') W' x l := (hx.veils h.1.2).up h.1.1
theorem Mv.kr {Q' : Nat → Bool} {us : List Value} {ks : List (List Nd)} (h : Mv V w Q W Q' W') (hx : KR (hd w Q) W us ks) : KR (hd w Q') W' us ks := (hx.veils h.1.2).up h.1.1
theorem Mv.rdv {Q' : Nat → Bool} {u : Value} {zs : List Int} (h : Mv V w Q W Q' W') (hx : RdV (veil (hd w Q) W) u zs) : RdV (veil (hd w Q') W') u zs := RdV.up (RdV.veils hx h.1.2) h.1.1
theorem Mv.rdvv {Q' : Nat → Bool} {u : Value} {zs : List (List Int)} (h : Mv V w Q W Q' W') (hx : RdVV (veil (hd w Q) W) u zs) : RdVV (veil (hd w Q') W') u zs := RdVV.up (RdVV.veils hx h.1.2) h.1.1
def Sv (V Q : Nat → Bool) (W : World) (nv : Value) (ns : List ByteArray) : Prop := RdS (veil (vq V Q) W) nv ns
theorem Mv.sv {Q' : Nat → Bool} {nv : Value} {ns : List ByteArray} (h : Mv V w Q W Q' W') (hx : Sv V Q W nv ns) : Sv V Q' W' nv ns := (RdS.veils hx h.2.2).up h.2.1
theorem Cur.sv {nv : Value} {ns : List ByteArray} (C : Cur V w0 av cv bs w g r Q W s) (hF : Fg g r W W') (hx : Sv V Q W nv ns) : Sv V Q W' nv ns := RdS.up hx (hF.up C.gg.vg C.gg.vr)
theorem Cur.save (C : Cur V w0 av cv bs w g r Q W s) : ∃ a c, W.cell? ⟨g, 1, none⟩ = some (.slice a s.names.length c) ∧ Sv V Q W (.slice a s.names.length c) s.names := by
  obtain ⟨nv, h1, h2⟩ := C.gg.c1
  obtain ⟨a, c, rfl, h3⟩ := h2
  exact ⟨a, c, h1, a, c, rfl, h3⟩
theorem Sv.drop {nv : Value} {ns : List ByteArray} (hx : Sv V Q W nv ns) : Sv V no W nv ns := RdS.veils hx (fun b _ h => by simp [vq] at h; simp [vq, no, h.1])
def qn (Q : Nat → Bool) (v : Value) : Nat → Bool := fun b => Q b || decide (v.ownBlock = some b)
theorem Cur.grow (C : Cur V w0 av cv bs w g r Q W s) {W1 : World} {row : Option Nat} {v : Value} (hb : Below W.heap.size W W1) (hg : W1.grownBy W' row) (hrow : ∀ b, row = some b → Q b = true) (hq : ∀ b, v.ownBlock = some b → b < W'.heap.size ∧ (Q b = true ∨ W.heap.size ≤ b)) :
    Cur V w0 av cv bs w g r (qn Q v) W' s ∧ Mv V w Q W (qn Q v) W' := by
  have hsz := C.sz
  have h1 := C.hg
  have h2 := C.rlt
  have hs1 := hb.size
  have hs2 := hg.size
  have nq : ∀ b, b < W.heap.size → Q b = false → qn Q v b = false := fun b hl h => by
    simp only [qn, h, Bool.false_or, decide_eq_false_iff_not]
    intro e
    rcases (hq b e).2 with h' | h'
    · rw [h] at h'; cases h'
    · omega
  have hU : ∀ B : Nat → Bool, (∀ b, b < W.heap.size → B b = false → Q b = false) → Up B W W' := fun B hB => ⟨by omega, fun b h hl => (hg.block b (by omega) (fun e => by
    have h3 := hrow b e.symm
    rw [hB b hl h] at h3
    cases h3)).trans (hb.block b hl)⟩
  have hFW : ∀ b, b < w.heap.size → W'.heap[b]? = W.heap[b]? := fun b hl => (hU (fun b => !decide (b < w.heap.size)) (fun b _ h => by
    simp at h
    cases h' : Q b with
    | false => rfl
    | true => have := (C.hq b h').1; omega)).block b (by simp; exact hl) (by omega)
  have hBl : Below w.heap.size W W' := (hb.mono hsz).grown hg (by omega) (fun k e => (C.hq k (hrow k e)).1)
  obtain ⟨nv, hL, hn⟩ := C.gg.own
  have hG : Gg (vq V (qn Q v)) w0 av cv bs W' g r s := by
    have e1 := hFW g h1
    have e2 := hFW r h2
    have hR := C.gg.rd
    refine ⟨⟨hR.1.trans (hBl.mono (by have := hR.2.1; omega)), hR.2.1, own_far hR.2.2.1 (fun b e => by cases e; exact e2), hR.2.2.2⟩, C.gg.lt, ⟨nv, own_far hL (fun b e => by cases e; exact e1), ?_⟩, by simp [vq, C.vg], by simp [vq, C.vr], C.gg.few, C.gg.short, C.gg.low, C.gg.high⟩
    refine (hn.veils (V' := vq V (qn Q v)) (fun b hl h => ?_)).up (hU _ (fun b hl h => ?_))
    · simp only [vq, Bool.or_eq_false_iff] at h ⊢
      exact ⟨h.1, nq b hl h.2⟩
    · simp only [vq, qn, Bool.or_eq_false_iff] at h
      exact h.2.1
  refine ⟨⟨C.rd, C.bt, C.le, hG, ⟨C.fg.below.trans (hBl.mono (by omega)), fun b hl e1 e2 => (hFW b hl).trans (C.fg.keep b hl e1 e2)⟩, C.hg, C.vg, C.vr, C.hv, fun b h => ?_⟩, ⟨hU _ (fun b hl h => ?_), fun b hl h => ?_⟩, hU _ (fun b hl h => ?_), fun b hl h => ?_⟩
  · simp only [qn, Bool.or_eq_true, decide_eq_true_eq] at h
    rcases h with h | h
    · have := C.hq b h; omega
    · rcases (hq b h).2 with h' | h'
      · have := C.hq b h'; have := (hq b h).1; omega
      · have := (hq b h).1; omega
  · simp only [hd, qn, Bool.or_eq_false_iff] at h
    exact h.2.1
  · simp only [hd, Bool.or_eq_false_iff] at h ⊢
    exact ⟨h.1, nq b hl h.2⟩
  · simp only [vq, qn, Bool.or_eq_false_iff] at h
    exact h.2.1
  · simp only [vq, Bool.or_eq_false_iff] at h ⊢
    exact ⟨h.1, nq b hl h.2⟩
theorem lit_row {us : List Value} {T : TypeId} (hW : w.heap.size ≤ W.heap.size) (hm : us.length ≤ 1000) : (W.alloc (.cells us.toArray T)).ownsRow w.heap.size T 1 (.slice (some ⟨W.heap.size, 0, none⟩) us.length us.length) us.length us :=
  ⟨by omega, .inr ⟨W.heap.size, us.length, us.toArray, rfl, hW, heap_alloc_new _ _, by omega, by unfold maxLen; omega, by simp, by simp⟩⟩
theorem kr_two {B : Nat → Bool} {u v : Value} {l m : List Nd} (h : FN B W u l) (k : FN B W v m) : KR B W [u, v] [l, m] := (kr_one h).app (kr_one k)
theorem kr_three {B : Nat → Bool} {u v x : Value} {l m n : List Nd} (h : FN B W u l) (k : FN B W v m) (i : FN B W x n) : KR B W [u, v, x] [l, m, n] := (kr_one h).app (kr_two k i)
theorem Cur.lit (C : Cur V w0 av cv bs w g r Q W s) {us : List Value} {ks : List (List Nd)} {n : Nat} (h : KR (hd w Q) W us ks) (hn : n = us.length) (hm : us.length ≤ 1000) :
    ∃ Q', Cur V w0 av cv bs w g r Q' (W.alloc (.cells us.toArray 60)) s ∧ Kids w Q' (W.alloc (.cells us.toArray 60)) (.slice (some ⟨W.heap.size, 0, none⟩) n n) ks ∧ Mv V w Q W Q' (W.alloc (.cells us.toArray 60)) := by
  subst hn
  have hb : Below W.heap.size W (W.alloc (.cells us.toArray 60)) := (Below.refl _ _).alloc (Nat.le_refl _) _
  have hl := h.1
  obtain ⟨h1, h2⟩ := C.grow (v := .slice (some ⟨W.heap.size, 0, none⟩) us.length us.length) hb (World.grownBy.refl _ none) (fun b e => by cases e) (fun b e => by
    cases e
    exact ⟨by simp, .inr (Nat.le_refl _)⟩)
  refine ⟨_, h1, ⟨us, ?_, fun b e => by simp [qn, e], h2.kr h⟩, h2⟩
  have := lit_row (T := 60) C.sz hm
  rw [← hl]
  exact this
theorem Cur.append (C : Cur V w0 av cv bs w g r Q W s) {a : Option Addr} {n c : Nat} {ks ls : List (List Nd)} {xs : List Value} (hK : Kids w Q W (.slice a n c) ks) (hn : n = ks.length) (hx : KR (hd w Q) W xs ls) (hm : ks.length + ls.length ≤ 1000) (ty : TypeId) (m : Nat) (hml : m = xs.length) :
    ∃ a' c' w' Q', (Builtin.append_ #[72, 72] ty #[.slice a n c, .slice (some ⟨W.heap.size, 0, none⟩) m m]).run Try.prog (W.alloc (.cells xs.toArray 60)) = .ok (.slice a' (n + m) c') w' ∧ Kids w Q' w' (.slice a' (n + m) c') (ks ++ ls) ∧ Cur V w0 av cv bs w g r Q' w' s ∧ Mv V w Q W Q' w' := by
  subst hml
  obtain ⟨us, h1, h2, h3⟩ := hK
  obtain ⟨i0, hi0, hz0, hz1, hz2⟩ := info_parts info_nodes
  have hb : Below W.heap.size W (W.alloc (.cells xs.toArray 60)) := (Below.refl _ _).alloc (Nat.le_refl _) _
  have hsz := C.sz
  have o1 : (W.alloc (.cells xs.toArray 60)).ownsRow w.heap.size 60 1 (.slice a n c) n us := by
    subst hn
    exact own_far h1 (fun b e => hb.block b (h1.lt b e).2)
  have hxl := hx.1
  obtain ⟨a', c', w', e1, e2⟩ := run_append_row (W.alloc (.cells xs.toArray 60)) 72 ty 60 i0 (.slice none 0 0) 1 24 Try.underlying72 hi0 hz0 hz1 hz2 rfl (by omega) w.heap.size a n c us o1 (some ⟨W.heap.size, 0, none⟩) xs.length xs.length xs (by omega) (fun _ => ⟨_, rfl, fun j u hu => by
    rw [plainAt, Nat.zero_add]
    unfold World.cell?
    rw [heap_alloc_new]
    simpa using hu⟩) hx.one (by unfold maxLen; omega) (by omega) (by have := hb.size; omega)
  obtain ⟨h4, h5⟩ := C.grow (v := .slice a' (n + xs.length) c') hb e2.grow h2 (fun b e => ⟨(e2.own.lt b e).2, by
    rcases e2.lies with ⟨rfl, rfl⟩ | ⟨g', rfl, h | h⟩
    · left
      cases a' with
      | none => cases e
      | some y => exact h2 b e
    · cases e; exact .inl (h2 _ h)
    · cases e; right; rw [h]; simp⟩)
  exact ⟨a', c', w', _, e1, ⟨us ++ xs, by rw [List.length_append, ← hn, ← hxl]; exact e2.own, fun b e => by simp [qn, e], (h5.kr h3).app (h5.kr hx)⟩, h4, h5⟩
theorem wpList_append_kids {ops : Array Oper} {rest : List Oper} {o : Oper} {a : Act} {K : Exit → Act → World → Prop} (hgd : o.guard = none) (sv xv : Operand)
    (ho : o.op = .call { callee := .builtin .append, args := #[sv, xv], argTypes := #[72, 72] })
    (C : Cur V w0 av cv bs w g r Q W s) {ao : Option Addr} {n c m : Nat} {ks ls : List (List Nd)} (xs : List Value) (hs : a.eval sv = .slice ao n c) (hxe : a.eval xv = .slice (some ⟨W.heap.size, 0, none⟩) m m) (hW : W' = W.alloc (.cells xs.toArray 60))
    (hK : Kids w Q W (.slice ao n c) ks) (hn : n = ks.length) (hx : KR (hd w Q) W xs ls) (hm : ks.length + ls.length ≤ 1000) (hml : m = xs.length)
    (h : ∀ a' c' w' Q', Kids w Q' w' (.slice a' (n + m) c') (ks ++ ls) → Cur V w0 av cv bs w g r Q' w' s → Mv V w Q W Q' w' → wpList Try.prog ops K rest (a.put o.dst (.slice a' (n + m) c')) w') : wpList Try.prog ops K (o :: rest) a W' := by
  subst hW
  refine wpList_plain hgd fun K' hK' => ?_
  obtain ⟨a', c', w', Q', h2, h3, h4, h5⟩ := C.append hK hn hx hm o.type m hml
  unfold Oper.wp execOp
  simp only [ho, resolve, invoke, builtin, Sem.run_bind, Sem.run_pure, Result.andThen_ok, List.map_toArray, List.map_cons, List.map_nil, hs, hxe, h2]
  exact hK' _ _ (h a' c' w' Q' h3 h4 h5)
end
end Go.Proofs.Ytepbddfpdlapbaa.tk
