import Derived.Test.YtccnjmnafkfjdaaGreatTrVisit
namespace Go.Proofs.YtccnjmnafkfjdaaGreat.vt
open Go.RowKit Go.Shelf Go.Deep Go.Proofs.YtccnjmnafkfjdaaGreat.bts Go.Proofs.YtccnjmnafkfjdaaGreat.nod Go.Proofs.YtccnjmnafkfjdaaGreat.lex
attribute [local go_sem] Oper.semAt_some

theorem cellNew {W : World} {v : Value} {t : TypeId} (B : Nat) (hB : B = W.heap.size) : (W.alloc (.cells #[v] t)).cell? ⟨B, 0, none⟩ = some v ∧ (W.alloc (.cells #[v] t)).frozen? ⟨B, 0, none⟩ = false := by
  subst hB
  have hh := heap_alloc_new W (.cells #[v] t)
  constructor
  · unfold World.cell?; rw [hh]; rfl
  · unfold World.frozen?; rw [hh]; rfl
theorem cellAl {W : World} {a : Addr} {v : Value} (o : Obj) (h : W.cell? a = some v) : (W.alloc o).cell? a = some v := cell_kept h (World.grownBy_alloc W o none) (fun r e => by cases e)
theorem frozAl {W : World} {a : Addr} {v : Value} (o : Obj) (h : W.cell? a = some v) (hf : W.frozen? a = false) : (W.alloc o).frozen? a = false := (frozen_kept h (World.grownBy_alloc W o none) (fun r e => by cases e)).trans hf
theorem keeps_below {B : Nat} {W W' : World} (h : Below W.heap.size W W') : KeepsFrom B W W' := ⟨h.size, fun k _ _ hk _ => (h.block k (Array.getElem?_eq_some_iff.1 hk).1).trans hk⟩
theorem kpT {lo hi : Nat} : ∀ {A B C : World}, Kp lo hi A B → Kp lo hi B C → Kp lo hi A C := fun h k => h.trans k
theorem kpB {lo hi : Nat} {w : World} (hl : lo ≤ w.heap.size) : ∀ (W : World) (l : Nat) (o o' : Obj), w.heap.size ≤ l → W.heap[l]? = some o → o.isCells = false → o.isWalk = false → Kp lo hi W (W.putObj l o') := by
  intro W l o o' h1 h2 h3 h4
  refine ⟨belowK_b hl W l o o' h1 h2 h3 h4, fun k p _ hk hc => ?_⟩
  rw [World.putObj_heap_other (fun e => ?_)]
  · exact hk
  · subst e
    rw [h2] at hk
    cases hk
    rw [h3] at hc
    cases hc
theorem kpSet {lo hi : Nat} {W : World} {b : Nat} {v : Value} (h1 : lo ≤ b) (h2 : b < hi) : Kp lo hi W (W.setCell ⟨b, 0, none⟩ v) :=
  ⟨(Below.refl lo W).setCell (p := ⟨b, 0, none⟩) h1 _, fun k o hk ho _ => (Below.heap_setCell W ⟨b, 0, none⟩ v k (fun e => by have e2 : k = b := e; omega)).trans ho⟩
theorem wf_root {D : Nat} {w : World} {v : Value} {t : Tr D} (h : Rep w v t) (hw : wfT t) : -9223372036854775808 ≤ (dT t).n ∧ (dT t).n ≤ 9223372036854775807 := by
  cases D with
  | zero => exact h.elim
  | succ D => exact hw.1
/-- What isValid answers. -/
def isV {D : Nat} (T : Tr D) : Bool := decide (sizeT T ≤ 6000) && (okT T 1 false && (kindT T == 0))
theorem bad_pre {W0 : World} {D : Nat} {T : Tr D} {q xs : List (Vis W0)} (hx : xs.map Vis.key = preT T 1 false) (hq : q <+: xs) (hb : ¬ ((q.map Vis.key).all chk = true ∧ q.length ≤ 6000)) : isV T = false := by
  rw [Bool.eq_false_iff]
  intro hc
  unfold isV at hc
  simp only [Bool.and_eq_true, decide_eq_true_eq] at hc
  obtain ⟨r, rfl⟩ := hq
  rw [ok_pre, ← hx, List.map_append, List.all_append, Bool.and_eq_true] at hc
  have hl := pre_len T 1 false
  rw [← hx, List.length_map, List.length_append] at hl
  exact hb ⟨hc.2.1.1, by omega⟩

set_option maxRecDepth 100000 in
set_option maxHeartbeats 4000000 in
theorem isValid_in (n : Nat) (v : Value) {D0 : Nat} (T : Tr D0) (w : World) (hn : 3 ≤ n) (hrep : Rep w v T) (hwf : wfT T) (hsz : 1 + sizeT T ≤ 1000000000) :
    CallsIn Fence.wide n Tryz.prog 24 #[v] w fun e w' => e = .returned (.bool (isV T)) ∧ Below w.heap.size w w' := by
  have h1 : 1 ≤ n := by omega
  obtain ⟨T0, g, rfl⟩ : ∃ T g, v = .iface T (.pointer (some ⟨g, 0, none⟩)) := by obtain ⟨g, _, _, _, _, _, _, e, _⟩ := hrep.open; exact ⟨_, g, e⟩
  refine callsIn_of_wp_marks Tryz.func24 rfl trivial ?_ rfl
  simp only [Tryz.ntmps24, List.size_toArray, List.length_cons, List.length_nil, Nat.reduceAdd, Nat.reduceSub, Array.replicate_succ, Array.replicate_zero, List.push_toArray, List.append_toArray, List.nil_append, List.cons_append]
  gi_wp2_with fail
  refine ⟨trivial, (walk_in _ _ _ _).mono ?_⟩
  rintro e w' ⟨rfl, rfl⟩
  gi_wp2_with fail
  have c0 := cellNew (W := w) (v := .bool false) (t := 4) w.heap.size rfl
  have c1 := cellNew (W := w.alloc (.cells #[.bool false] 4)) (v := .int .i64 0) (t := 3) (w.heap.size + 1) (by simp)
  have c2 := cellNew (W := (w.alloc (.cells #[.bool false] 4)).alloc (.cells #[.int .i64 0] 3)) (v := .iface T0 (.pointer (some ⟨g, 0, none⟩))) (t := 39) (w.heap.size + 1 + 1) (by simp)
  have hB0 : Below w.heap.size w (((w.alloc (.cells #[.bool false] 4)).alloc (.cells #[.int .i64 0] 3)).alloc (.cells #[.iface T0 (.pointer (some ⟨g, 0, none⟩))] 39)) := (((Below.refl _ w).alloc (Nat.le_refl _) _).alloc (by simp) _).alloc (by simp; omega) _
  have r0 := cellAl (.cells #[.iface T0 (.pointer (some ⟨g, 0, none⟩))] 39) (cellAl (.cells #[.int .i64 0] 3) c0.1)
  have f0 := frozAl (.cells #[.iface T0 (.pointer (some ⟨g, 0, none⟩))] 39) (cellAl (.cells #[.int .i64 0] 3) c0.1) (frozAl (.cells #[.int .i64 0] 3) c0.1 c0.2)
  have r1 := cellAl (.cells #[.iface T0 (.pointer (some ⟨g, 0, none⟩))] 39) c1.1
  have f1 := frozAl (.cells #[.iface T0 (.pointer (some ⟨g, 0, none⟩))] 39) c1.1 c1.2
  have hzL : (((w.alloc (.cells #[.bool false] 4)).alloc (.cells #[.int .i64 0] 3)).alloc (.cells #[.iface T0 (.pointer (some ⟨g, 0, none⟩))] 39)).heap.size = w.heap.size + 3 := by simp
  generalize (((w.alloc (.cells #[.bool false] 4)).alloc (.cells #[.int .i64 0] 3)).alloc (.cells #[.iface T0 (.pointer (some ⟨g, 0, none⟩))] 39)) = WL at *
  clear c0 c1
  refine wpIn_rangeFunc_ownH rfl h1 (gf := 38) (lb := #[.pointer (some ⟨w.heap.size + 1 + 1, 0, none⟩)]) ?hg trivial (enters_of Tryz.func38 (by kernel_rfl) rfl)
    (walk_stops w w.heap.size (w.heap.size + 3) (w.heap.size + 1 + 1) (n - 1) _ T WL rfl (by omega) hrep hwf hsz (by omega) hB0 (by omega) c2.1) kpT (kpB (by omega)) (Below.refl _ _) ?hps
    (fun pre W => (((pre.map Vis.key).all chk = true ∧ pre.length ≤ 6000) ∧ W.cell? ⟨w.heap.size + 1, 0, none⟩ = some (.int .i64 pre.length) ∧ W.frozen? ⟨w.heap.size + 1, 0, none⟩ = false ∧ W.cell? ⟨w.heap.size, 0, none⟩ = some (.bool false) ∧ W.frozen? ⟨w.heap.size, 0, none⟩ = false) ∧ Below w.heap.size w W ∧ w.heap.size + 3 ≤ W.heap.size)
    (fun c pre W => (c = .ret ∧ ¬ ((pre.map Vis.key).all chk = true ∧ pre.length ≤ 6000) ∧ W.cell? ⟨w.heap.size, 0, none⟩ = some (.bool false)) ∧ Below w.heap.size w W)
    (OwnFrom.and (Own.from (fun s A B row hs hg hr => ⟨hs.1, cell_kept hs.2.1 hg hr, (frozen_kept hs.2.1 hg hr).trans hs.2.2.1, cell_kept hs.2.2.2.1 hg hr, (frozen_kept hs.2.2.2.1 hg hr).trans hs.2.2.2.2⟩) _) (OwnFrom.and (ownFrom_below (Nat.le_refl _) (by omega)) (fun s A B row hs hg _ => Nat.le_trans hs hg.size)))
    (fun c => OwnFrom.and (Own.from (fun s A B row hs hg hr => ⟨hs.1, hs.2.1, cell_kept hs.2.2 hg hr⟩) _) (ownFrom_below (Nat.le_refl _) (by omega)))
    ⟨⟨⟨rfl, by simp⟩, r1, f1, r0, f0⟩, hB0, by omega⟩
    (fun x a' W => ∃ Bx, w.heap.size + 3 ≤ Bx ∧ W.heap[Bx]? = some (.cells #[.int .i64 x.deep, .bool x.lp] 66 (0, 0)) ∧ a' = { tmps := #[.iface T0 (.pointer (some ⟨g, 0, none⟩)), undef, .pointer (some ⟨w.heap.size, 0, none⟩), .pointer (some ⟨w.heap.size + 1, 0, none⟩), .pointer (some ⟨Bx, 0, none⟩), x.v, .iface T0 (.pointer (some ⟨g, 0, none⟩)), .func (.func 38) #[] #[.pointer (some ⟨w.heap.size + 1 + 1, 0, none⟩)], .agg #[.int .i64 x.deep, .bool x.lp], x.v, undef, undef, undef, undef, undef, undef, undef, undef, undef, undef, undef, undef, undef, undef, undef, undef, undef, undef, undef, undef, undef, undef, undef, undef, undef], defers := [] })
    (fun x a' => by
      rintro _ A B row ⟨Bx, hb, hc, ha⟩ hg hr
      refine ⟨Bx, hb, (hg.block Bx (Array.getElem?_eq_some_iff.1 hc).1 (fun e => ?_)).trans hc, ha⟩
      obtain ⟨_, o, ho, hoc⟩ := hr Bx e.symm
      rw [hc] at ho
      cases ho
      cases hoc) ?assign ?body ?done ?stop
  case hg => rfl
  case hps => exact fun _ => rfl
  case assign =>
    rintro l pre x W K ⟨hI1, hB, hz⟩ hK
    obtain ⟨gx, _, _, _, _, _, _, ev, _⟩ := x.rep.open
    have hKK : Hid _ := hK
    clear hK
    unfold Vis.encs
    rw [ev]
    gi_wp2_with fail
    refine hKK.out _ _ ((KeepsOthers.alloc _ _).from _) (Kp.of ((Below.refl _ _).alloc (Nat.le_refl _) _) (by omega)) ⟨⟨hI1.1, cellAl _ hI1.2.1, frozAl _ hI1.2.1 hI1.2.2.1, cellAl _ hI1.2.2.2.1, frozAl _ hI1.2.2.2.1 hI1.2.2.2.2⟩, hB.alloc (by omega) _, by simp; omega⟩ ⟨W.heap.size, hz, heap_alloc_new _ _, by rw [ev]⟩
  case body =>
    rintro l pre x a' W hl hr ⟨⟨⟨hp, hlen⟩, hc1, hf1, hc0, hf0⟩, hB, hz⟩ ⟨Bx, hBx, hcx, rfl⟩ hlt
    obtain ⟨gx, ao, cap, at_, an, ca, cn, ev, hk0, hk1, N, _⟩ := x.rep.open
    obtain ⟨W', hW'⟩ : ∃ W', W' = W.setCell ⟨w.heap.size + 1, 0, none⟩ (.int .i64 ((pre.length : Int) + 1)) := ⟨_, rfl⟩
    have bW : Below w.heap.size w W' := by rw [hW']; exact hB.setCell (p := ⟨w.heap.size + 1, 0, none⟩) (by simp) _
    have kW : KeepsOthers W W' := by rw [hW']; exact KeepsOthers.setCell _ _ _
    have pW : Kp w.heap.size (w.heap.size + 3) W W' := by rw [hW']; exact kpSet (by omega) (by omega)
    have zW : W'.heap.size = W.heap.size := by rw [hW']; simp
    have s1 : W'.cell? ⟨w.heap.size + 1, 0, none⟩ = some (.int .i64 ((pre.length : Int) + 1)) := by rw [hW']; exact World.cell?_setCell_same' _ _ _ (by rw [hc1]; rfl)
    have s1f : W'.frozen? ⟨w.heap.size + 1, 0, none⟩ = false := by rw [hW', World.frozen?_setCell]; exact hf1
    have s0 : W'.cell? ⟨w.heap.size, 0, none⟩ = some (.bool false) := by rw [hW', World.cell?_setCell_other _ _ _ _ (by intro e; simp only [Addr.mk.injEq] at e; omega)]; exact hc0
    have s0f : W'.frozen? ⟨w.heap.size, 0, none⟩ = false := by rw [hW', World.frozen?_setCell]; exact hf0
    have xk : W'.heap[Bx]? = some (.cells #[.int .i64 x.deep, .bool x.lp] 66 (0, 0)) := by rw [hW']; exact (Below.heap_setCell W ⟨w.heap.size + 1, 0, none⟩ _ Bx (fun e => by have e2 : Bx = w.heap.size + 1 := e; omega)).trans hcx
    have xd : W'.cell? ⟨Bx, 0, none⟩ = some (.int .i64 x.deep) := by simp [World.cell?, xk]
    obtain ⟨T1, g1, f, e1, M1, HE, C1⟩ := fits_any (x.rep.kept bW) (wf_root x.rep x.wf)
    obtain ⟨d, hd⟩ : ∃ d, d = dT x.t := ⟨_, rfl⟩
    rw [← hd] at ev hk0 hk1 N
    rw [ev] at e1
    simp only [Value.iface.injEq, Value.pointer.injEq, Option.some.injEq, Addr.mk.injEq, and_true] at e1
    obtain ⟨e1, rfl⟩ := e1
    have M2 := m_row hk0 hk1 gx
    rw [← e1] at M1
    have R : Hid (∀ W2, Below w.heap.size w W2 → _) := fun W2 (hW2 : Below w.heap.size w W2) => row_any gx W2 _ _ _ _ _ _ _ _ _ (N.below hW2).c0 (N.below hW2).c1 (N.below hW2).c2 (N.below hW2).c3 (N.below hW2).c4
    have F := fun W => fld0 d.kind d.n d.count (.slice at_ d.text.length ca) (.slice an d.names.length cn) W
    have hchk : Hid (((pre ++ [x]).map Vis.key).all chk = (decide (x.deep ≤ 200) && (fitsT x.t && (!(d.kind == 8) || x.lp)))) := by
      show _ = _
      rw [List.map_append, List.all_append, hp, Bool.true_and]
      have ek : kindT x.t = d.kind := by rw [hd]; rfl
      simp only [List.map_cons, List.map_nil, List.all_cons, List.all_nil, Bool.and_true, chk, Vis.key, ek]
    have hlen2 : Hid ((pre ++ [x]).length = pre.length + 1) := by show _ = _; simp
    have HB : Hid (Below w.heap.size w W') := bW
    have HK : Hid (KeepsOthers W W') := kW
    have HP : Hid (Kp w.heap.size (w.heap.size + 3) W W') := pW
    have HZ : Hid (w.heap.size + 3 ≤ W.heap.size ∧ W'.heap.size = W.heap.size) := ⟨hz, zW⟩
    have HXK : Hid (W'.heap[Bx]? = some (.cells #[.int .i64 x.deep, .bool x.lp] 66 (0, 0))) := xk
    have HM1 := M1
    unfold MethodIs at HM1
    simp only [ev]
    clear bW kW pW zW hp hB N hcx M1 hr e1
    have xl : W'.cell? ⟨Bx, 1, none⟩ = some (.bool x.lp) := by simp [World.cell?, xk]
    have s1' := s1
    have s0' := s0
    have s0f' := s0f
    have xd' := xd
    rw [hW'] at s1' s0' s0f' xd'
    have stop : Hid (∀ w2, Below W'.heap.size W' w2 → (((pre ++ [x]).map Vis.key).all chk = false ∨ 6000 < pre.length + 1) → ownPostG WL.heap.size (Kp w.heap.size (w.heap.size + 3)) (fun pre W => (((pre.map Vis.key).all chk = true ∧ pre.length ≤ 6000) ∧ W.cell? ⟨w.heap.size + 1, 0, none⟩ = some (.int .i64 pre.length) ∧ W.frozen? ⟨w.heap.size + 1, 0, none⟩ = false ∧ W.cell? ⟨w.heap.size, 0, none⟩ = some (.bool false) ∧ W.frozen? ⟨w.heap.size, 0, none⟩ = false) ∧ Below w.heap.size w W ∧ w.heap.size + 3 ≤ W.heap.size) (fun c pre W => (c = .ret ∧ ¬ ((pre.map Vis.key).all chk = true ∧ pre.length ≤ 6000) ∧ W.cell? ⟨w.heap.size, 0, none⟩ = some (.bool false)) ∧ Below w.heap.size w W) (pre ++ [x]) W .ret { tmps := #[], defers := [] } (w2.setCell ⟨w.heap.size, 0, none⟩ (.bool false))) := by
      intro w2 h2 hbad
      have q0 : w2.cell? ⟨w.heap.size, 0, none⟩ = some (.bool false) := (h2.cell (p := ⟨w.heap.size, 0, none⟩) (World.block_lt_of_cell? _ _ s0)).trans s0
      refine ⟨((HK.out.from _).trans (keeps_below h2)).trans ((KeepsOthers.setCell _ _ _).from _), ⟨rfl, ?_, World.cell?_setCell_same' _ _ _ (by rw [q0]; rfl)⟩, (HB.out.trans (h2.mono HB.out.size)).setCell (p := ⟨w.heap.size, 0, none⟩) (by simp) _⟩
      rintro ⟨g1, g2⟩
      rcases hbad with h | h
      · rw [h] at g1; cases g1
      · rw [hlen2.out] at g2; omega
    have goes : Hid (∀ w2, Below W'.heap.size W' w2 → ((pre ++ [x]).map Vis.key).all chk = true → ¬ 6000 < pre.length + 1 → ownPostG WL.heap.size (Kp w.heap.size (w.heap.size + 3)) (fun pre W => (((pre.map Vis.key).all chk = true ∧ pre.length ≤ 6000) ∧ W.cell? ⟨w.heap.size + 1, 0, none⟩ = some (.int .i64 pre.length) ∧ W.frozen? ⟨w.heap.size + 1, 0, none⟩ = false ∧ W.cell? ⟨w.heap.size, 0, none⟩ = some (.bool false) ∧ W.frozen? ⟨w.heap.size, 0, none⟩ = false) ∧ Below w.heap.size w W ∧ w.heap.size + 3 ≤ W.heap.size) (fun c pre W => (c = .ret ∧ ¬ ((pre.map Vis.key).all chk = true ∧ pre.length ≤ 6000) ∧ W.cell? ⟨w.heap.size, 0, none⟩ = some (.bool false)) ∧ Below w.heap.size w W) (pre ++ [x]) W .normal { tmps := #[], defers := [] } w2) := by
      intro w2 h2 hok hle
      have hh1 := h2.block (w.heap.size + 1) (World.block_lt_of_cell? _ _ s1)
      have hh0 := h2.block w.heap.size (World.block_lt_of_cell? _ _ s0)
      have hzz := HZ.out
      have hs2 := h2.size
      refine ⟨(HK.out.from _).trans (keeps_below h2), HP.out.trans (Kp.of h2 (by omega)), ⟨⟨hok, by rw [hlen2.out]; omega⟩, ?_, ?_, ?_, ?_⟩, HB.out.trans (h2.mono HB.out.size), by omega⟩
      · rw [hlen2.out, World.cell?_of_block (a := ⟨w.heap.size + 1, 0, none⟩) hh1]; exact s1
      · rw [World.frozen?_of_block (a := ⟨w.heap.size + 1, 0, none⟩) hh1]; exact s1f
      · rw [World.cell?_of_block (a := ⟨w.heap.size, 0, none⟩) hh0]; exact s0
      · rw [World.frozen?_of_block (a := ⟨w.heap.size, 0, none⟩) hh0]; exact s0f
    have after : Hid (∀ w2, Below W'.heap.size W' w2 → w2.cell? ⟨w.heap.size, 0, none⟩ = some (.bool false) ∧ w2.frozen? ⟨w.heap.size, 0, none⟩ = false ∧ w2.cell? ⟨Bx, 1, none⟩ = some (.bool x.lp)) := by
      intro w2 h2
      have hh0 := h2.block w.heap.size (World.block_lt_of_cell? _ _ s0)
      refine ⟨?_, ?_, ?_⟩
      · rw [World.cell?_of_block (a := ⟨w.heap.size, 0, none⟩) hh0]; exact s0
      · rw [World.frozen?_of_block (a := ⟨w.heap.size, 0, none⟩) hh0]; exact s0f
      · exact (h2.cell (p := ⟨Bx, 1, none⟩) (World.block_lt_of_cell? _ _ xl)).trans xl
    generalize fitsT x.t = ft at C1 hchk
    generalize ty d.kind = TT at HM1 M2
    generalize d.kind = kd at *
    generalize d.n = nn at *
    generalize d.count = ct at *
    generalize d.text.length = pp at *
    generalize d.names.length = qq at *
    clear xk HXK hd ev hk0 hk1 s1 s0 s0f xd s1f xl
    by_cases hA : 6000 < pre.length + 1
    · have dA : decide ((6000 : Int) < (pre.length : Int) + 1) = true := by simp; omega
      gi_wp2_with fail
      all_goals
        refine ⟨fun _ _ => trivial, ?_⟩
        gi_wp2_with fail
        rw [← hW']
        exact stop.out W' (Below.refl _ _) (.inr hA)
    have dA : decide ((6000 : Int) < (pre.length : Int) + 1) = false := by simp; omega
    by_cases hD : 200 < x.deep
    · have dD : decide ((200 : Int) < (x.deep : Int)) = true := by simp; omega
      have hbad : Hid (((pre ++ [x]).map Vis.key).all chk = false) := by show _ = _; rw [hchk.out, decide_eq_false (show ¬ x.deep ≤ 200 by omega)]; rfl
      gi_wp2_with fail
      all_goals
        refine ⟨fun _ _ => trivial, ?_⟩
        gi_wp2_with fail
        rw [← hW']
        exact stop.out W' (Below.refl _ _) (.inl hbad.out)
    have dD : decide ((200 : Int) < (x.deep : Int)) = false := by simp; omega
    have hd2 : x.deep ≤ 200 := by omega
    gi_wp2_with fail
    rw [← hW']
    refine ⟨trivial, fun h => (by cases h), (CallsIn.inRound l (callsIn_wide.2 C1)).mono ?_⟩
    rintro e w2 ⟨rfl, hb2⟩
    have HB2 : Hid (Below W'.heap.size W' w2) := hb2
    obtain ⟨t0, t0f, tl⟩ := after.out w2 hb2
    clear hb2 C1
    cases ft with
    | false =>
      have hbad : Hid (((pre ++ [x]).map Vis.key).all chk = false) := by show _ = _; rw [hchk.out]; simp
      gi_wp2_with fail
      exact stop.out w2 HB2.out (.inl hbad.out)
    | true =>
      have R2 := R.out w2 (HB.out.trans (HB2.out.mono HB.out.size))
      gi_wp2_with fail
      refine ⟨trivial, fun h => (by cases h), (CallsIn.inRound l (callsIn_wide.2 R2)).mono ?_⟩
      rintro e w3 ⟨rfl, hb3⟩
      have HB3 : Hid (Below W'.heap.size W' w3) := HB2.out.trans (hb3.mono HB2.out.size)
      clear t0 t0f tl R2 hb3
      obtain ⟨t0, t0f, tl⟩ := after.out w3 HB3.out
      by_cases k8 : kd = 8
      · subst k8
        generalize hlp : x.lp = lpb at tl
        cases lpb with
        | false =>
          have hbad : Hid (((pre ++ [x]).map Vis.key).all chk = false) := by show _ = _; rw [hchk.out, hlp]; simp
          gi_wp2_with fail
          exact stop.out w3 HB3.out (.inl hbad.out)
        | true =>
          have hok : Hid (((pre ++ [x]).map Vis.key).all chk = true) := by show _ = _; rw [hchk.out, hlp, decide_eq_true hd2]; rfl
          gi_wp2_with fail
          exact goes.out w3 HB3.out hok.out hA
      · have o8 : (kd == 8) = false := by simp; exact k8
        have hok : Hid (((pre ++ [x]).map Vis.key).all chk = true) := by show _ = _; rw [hchk.out, o8, decide_eq_true hd2]; rfl
        gi_wp2_with fail
        exact goes.out w3 HB3.out hok.out hA
  case done =>
    rintro D ys W hD hys ⟨⟨⟨hp, hlen⟩, _, _, hc0, hf0⟩, hB, hz⟩ hK
    have hres : isV T = (kindT T == 0) := by
      unfold isV
      have hl := pre_len T 1 false
      rw [← hys, List.length_map] at hl
      rw [ok_pre, ← hys, hp, decide_eq_true (by omega), Bool.true_and, Bool.true_and]
    have C := takes_any 0 (by omega) (hrep.kept hB)
    have ht0 : takes 0 (kindT T) = (kindT T == 0) := rfl
    rw [ht0] at C
    have HR : Hid (isV T = (kindT T == 0)) := hres
    have HB : Hid (Below w.heap.size w W) := hB
    generalize (kindT T == 0) = tk at C HR
    clear hres ht0 hp hlen hys hB
    have C2 : Calls Tryz.prog 34 #[.int .i64 0, .iface T0 (.pointer (some ⟨g, 0, none⟩))] W fun e w' => e = .returned (.bool tk) ∧ Below W.heap.size W w' := C
    clear C
    gi_wp2_with fail
    refine ⟨trivial, (callsIn_wide.2 C2).mono ?_⟩
    rintro e W2 ⟨rfl, hb2⟩
    have q0 : W2.cell? ⟨w.heap.size, 0, none⟩ = some (.bool false) := (hb2.cell (p := ⟨w.heap.size, 0, none⟩) (World.block_lt_of_cell? _ _ hc0)).trans hc0
    have q0f : W2.frozen? ⟨w.heap.size, 0, none⟩ = false := by rw [World.frozen?_of_block (a := ⟨w.heap.size, 0, none⟩) (hb2.block w.heap.size (World.block_lt_of_cell? _ _ hc0))]; exact hf0
    have hK2 : W2.heap[D]? = some (.deferred (some [])) := (hb2.block D (Array.getElem?_eq_some_iff.1 hK).1).trans hK
    have HB2 : Hid (Below w.heap.size w W2) := HB.out.trans (hb2.mono HB.out.size)
    clear hb2 C2 hc0 hf0 hK
    gi_wp2_with fail
    have hK' := (KeepsOthers.setCell W2 ⟨w.heap.size, 0, none⟩ (.bool tk)).same D _ hK2 rfl
    refine ⟨by simp, .inl ⟨_, _, rfl, run_takeDeferred hK', ?_⟩⟩
    have hc5 := cell_kept (World.cell?_setCell_same' W2 ⟨w.heap.size, 0, none⟩ (.bool tk) (by rw [q0]; rfl)) (grownBy_putObj' _ D (.deferred none)) (fun r e => by cases e; exact ⟨_, hK', rfl⟩)
    refine ⟨.bool tk, ?_, by rw [HR.out], (HB2.out.setCell (p := ⟨w.heap.size, 0, none⟩) (by simp) _).trans (belowK_b (w := w) (Nat.le_refl _) _ D _ _ (by omega) hK' rfl rfl)⟩
    simp [results, Tryz.results24, go_sem, hc5]
  case stop =>
    rintro D c pre W hD ⟨xs, hx, hq⟩ ⟨⟨rfl, hbad, hc0⟩, hB⟩ hK
    have hres : isV T = false := bad_pre hx hq hbad
    gi_wp2_with fail
    refine ⟨by simp, .inl ⟨_, _, rfl, run_takeDeferred hK, ?_⟩⟩
    have hc5 := cell_kept hc0 (grownBy_putObj' _ D (.deferred none)) (fun r e => by cases e; exact ⟨_, hK, rfl⟩)
    refine ⟨.bool false, ?_, by rw [hres], hB.trans (belowK_b (w := w) (Nat.le_refl _) W D _ _ (by omega) hK rfl rfl)⟩
    simp [results, Tryz.results24, go_sem, hc5]
end Go.Proofs.YtccnjmnafkfjdaaGreat.vt
