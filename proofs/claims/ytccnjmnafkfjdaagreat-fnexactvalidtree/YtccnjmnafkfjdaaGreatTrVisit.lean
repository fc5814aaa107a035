import Derived.Test.YtccnjmnafkfjdaaGreatTrPre
import Derived.RangeFuncNested
import Derived.RangeFuncBound
import Derived.RangeFuncCalls
import Derived.RangeFuncLeaves
import Derived.Shelf.Abstract
import Derived.Shelf.RegionOpen
import Derived.OwnWalkIn
import Derived.TacticsInMore
import Derived.LoopNIn
import Derived.LoopIn
namespace Go.Proofs.YtccnjmnafkfjdaaGreat.vt
open Go.RowKit Go.Shelf Go.Deep Go.Proofs.YtccnjmnafkfjdaaGreat.bts Go.Proofs.YtccnjmnafkfjdaaGreat.nod Go.Proofs.YtccnjmnafkfjdaaGreat.lex
attribute [local go_sem] Oper.semAt_some

/-- What a round keeps: all below lo, and the cells from hi on. -/
def Kp (lo hi : Nat) (W W' : World) : Prop := Below lo W W' ∧ ∀ (k : Nat) (o : Obj), hi ≤ k → W.heap[k]? = some o → o.isCells = true → W'.heap[k]? = some o
theorem Kp.refl (lo hi : Nat) (W : World) : Kp lo hi W W := ⟨Below.refl _ _, fun _ _ _ h _ => h⟩
theorem Kp.trans {lo hi : Nat} {A B C : World} (h : Kp lo hi A B) (h2 : Kp lo hi B C) : Kp lo hi A C := ⟨h.1.trans h2.1, fun k o hk ho hc => h2.2 k o hk (h.2 k o hk ho hc) hc⟩
theorem Kp.of {lo hi : Nat} {A B : World} (h : Below A.heap.size A B) (hl : lo ≤ A.heap.size) : Kp lo hi A B := ⟨h.mono hl, fun k _ _ ho _ => (h.block k (Array.getElem?_eq_some_iff.1 ho).1).trans ho⟩
theorem Kp.two {lo hi g : Nat} {A B : World} {cs : Array Value} {t : TypeId} {fr : Nat × Nat} (h : Kp lo hi A B) (hg : hi ≤ g) (hc : A.heap[g]? = some (.cells cs t fr)) : B.heap[g]? = some (.cells cs t fr) := h.2 g _ hg hc rfl
/-- A visited node. -/
structure Vis (W0 : World) where
  deep : Nat
  lp : Bool
  v : Value
  D : Nat
  t : Tr D
  rep : Rep W0 v t
  wf : wfT t
  small : deep ≤ 1000000000
def Vis.key {W0 : World} (x : Vis W0) : Nat × Bool × Bool × Int := (x.deep, x.lp, fitsT x.t, kindT x.t)
def Vis.encs {W0 : World} (x : Vis W0) : Array Value := #[.agg #[.int .i64 x.deep, .bool x.lp], x.v]
/-- How a visit ends. -/
def VPost {W0 : World} (lo hi : Nat) (J Jx : List (Vis W0) → World → Prop) (pre xs : List (Vis W0)) (W : World) (e : Ending) (W' : World) : Prop :=
  (e = .returned (.bool true) ∧ J (pre ++ xs) W' ∧ Kp lo hi W W') ∨ (e = .returned (.bool false) ∧ ∃ q, q <+: xs ∧ Jx (pre ++ q) W')

theorem flat_pre {α : Type} (F : Nat → List α) {k n : Nat} (h : k ≤ n) : ((List.range k).map F).flatten <+: ((List.range n).map F).flatten := by
  induction n with
  | zero => rw [show k = 0 by omega]; exact List.prefix_rfl
  | succ n ih =>
    by_cases hk : k = n + 1
    · rw [hk]; exact List.prefix_rfl
    · rw [List.range_succ, List.map_append, List.flatten_append]
      exact (ih (by omega)).trans (List.prefix_append _ _)
theorem flat_le {α : Type} (F : Nat → List α) {k n : Nat} (h : k ≤ n) : ((List.range k).map F).flatten.length ≤ ((List.range n).map F).flatten.length := (flat_pre F h).length_le

set_option maxRecDepth 100000 in
set_option maxHeartbeats 4000000 in
theorem visit_in (W0 : World) (l lo hi NN : Nat) (hlo : W0.heap.size = lo) (hlh : lo ≤ hi) (J Jx : List (Vis W0) → World → Prop) (hJ : Hid (∀ pre W W', J pre W → Below W.heap.size W W' → J pre W'))
    (hY : Hid (∀ m pre x W, J pre W → pre.length < NN → YieldAt Fence.wide m Tryz.prog l (Vis.encs x) W fun e W' => (e = .returned (.bool true) ∧ J (pre ++ [x]) W' ∧ Kp lo hi W W') ∨ (e = .returned (.bool false) ∧ Jx (pre ++ [x]) W'))) :
    ∀ {D : Nat} (T : Tr D) (v : Value) (deep : Nat) (lp : Bool), Rep W0 v T → wfT T → deep + sizeT T ≤ 1000000000 → ∃ xs : List (Vis W0), xs.map Vis.key = preT T deep lp ∧
      ∀ (m : Nat) (pre : List (Vis W0)) (W : World), Below lo W0 W → hi ≤ W.heap.size → J pre W → pre.length + xs.length ≤ NN →
        CallsIn Fence.wide m Tryz.prog 39 #[v, .agg #[.int .i64 deep, .bool lp], .func (.yield l) #[] #[]] W (VPost lo hi J Jx pre xs W) := by
  intro D
  induction D with
  | zero => intro T v deep lp hrep; exact hrep.elim
  | succ D ih =>
    intro T v deep lp hrep hwf hdeep
    have hop : Rep W0 v T := hrep
    obtain ⟨g, ao, cap, ut, un, U, ev, hk0, hk1, q1, q2, q3, N, ht, hm, hsz, hc, hr⟩ := hop
    rw [size_succ] at hdeep
    have hwf2 : wfT T := hwf
    obtain ⟨_, hwk⟩ := hwf2
    obtain ⟨F, hF⟩ := choose_lt (α := List (Vis W0)) (p := fun k xs => xs.map Vis.key = preT (T.2.getD k (tr0 D)) (deep + 1) (innerT T.1.kind lp) ∧
      ∀ (m : Nat) (pre : List (Vis W0)) (W : World), Below lo W0 W → hi ≤ W.heap.size → J pre W → pre.length + xs.length ≤ NN →
        CallsIn Fence.wide m Tryz.prog 39 #[U k, .agg #[.int .i64 ((deep + 1 : Nat) : Int), .bool (innerT T.1.kind lp)], .func (.yield l) #[] #[]] W (VPost lo hi J Jx pre xs W)) (n := T.2.length) (fun k hk =>
      ih _ (U k) (deep + 1) (innerT T.1.kind lp) (hr k hk) (hwk k hk) (by have := sum_at sizeT (tr0 D) hk; omega))
    clear ih
    obtain ⟨x0, hx0⟩ : ∃ x0 : Vis W0, x0 = ⟨deep, lp, v, D + 1, T, hrep, hwf, by omega⟩ := ⟨_, rfl⟩
    have flat : ∀ k, k ≤ T.2.length → ((List.range k).map F).flatten.map Vis.key = ((T.2.take k).map (fun c => preT c (deep + 1) (innerT T.1.kind lp))).flatten := by
      intro k
      induction k with
      | zero => intro _; rfl
      | succ k ihk =>
        intro hk
        rw [List.range_succ, List.map_append, List.flatten_append, List.map_append, ihk (by omega), take_snoc (tr0 D) (by omega), List.map_append, List.flatten_append]
        simp [(hF k (by omega)).1]
    refine ⟨x0 :: ((List.range T.2.length).map F).flatten, ?_, ?_⟩
    · rw [List.map_cons, flat _ (Nat.le_refl _), List.take_length, pre_succ, hx0]; rfl
    · intro m pre W hW hhi hj hN
      rw [List.length_cons] at hN
      have hUn : Hid (∀ W, Below lo W0 W → Calls Tryz.prog 44 #[.agg #[.int .i64 deep, .bool lp], .iface (ty T.1.kind) (.pointer (some ⟨g, 0, none⟩))] W fun e w' => e = .returned (.agg #[.int .i64 ((deep + 1 : Nat) : Int), .bool (innerT T.1.kind lp)]) ∧ Below W.heap.size W w') :=
        fun W hW => by have := under_any deep lp (hrep.kept (w' := W) (by rw [hlo]; exact hW)) (by omega); rw [ev] at this; exact this
      have hKi : Hid (∀ W, Below lo W0 W → Calls Tryz.prog 61 #[.pointer (some ⟨g, 0, none⟩)] W fun e w' => e = .returned (.slice ao T.2.length cap) ∧ w' = W) :=
        fun W hW => kids_any g W ao T.2.length cap (N.below (w' := W) (by rw [hlo]; exact hW)).2.2.2.2.2
      have hUk : Hid (∀ W, Below lo W0 W → ∀ k, k < T.2.length → ∃ b off, ao = some ⟨b, off, none⟩ ∧ W.cell? ⟨b, off + k, none⟩ = some (U k)) := fun W hW k hk => by
        obtain ⟨b, off, e, h⟩ := hc k hk
        exact ⟨b, off, e, (hW.cell (p := ⟨b, off + k, none⟩) (by rw [← hlo]; exact World.block_lt_of_cell? _ _ h)).trans h⟩
      have M1 := m_children hk0 hk1 g
      have HF : Hid (∀ k, k < T.2.length → ∀ (m : Nat) (pre : List (Vis W0)) (W : World), Below lo W0 W → hi ≤ W.heap.size → J pre W → pre.length + (F k).length ≤ NN →
        CallsIn Fence.wide m Tryz.prog 39 #[U k, .agg #[.int .i64 ((deep + 1 : Nat) : Int), .bool (innerT T.1.kind lp)], .func (.yield l) #[] #[]] W (VPost lo hi J Jx pre (F k) W)) := fun k hk => (hF k hk).2
      have HX0 : Hid (Vis.encs x0 = #[.agg #[.int .i64 deep, .bool lp], .iface (ty T.1.kind) (.pointer (some ⟨g, 0, none⟩))]) := by show _ = _; rw [hx0]; show #[.agg #[.int .i64 deep, .bool lp], v] = _; rw [ev]
      have hdd : ∀ k : Nat, (Fence.wide.depth.isSome = true → 1 ≤ k) := fun k h => by cases h
      obtain ⟨Wa, hWa⟩ : ∃ Wa, Wa = W.alloc (.cells #[.int .i64 deep, .bool lp] 66) := ⟨_, rfl⟩
      have bA : Below W.heap.size W Wa := by rw [hWa]; exact (Below.refl _ _).alloc (Nat.le_refl _) _
      have kA : Wa.heap[W.heap.size]? = some (.cells #[.int .i64 deep, .bool lp] 66 (0, 0)) := by rw [hWa]; exact heap_alloc_new _ _
      have zA : Wa.heap.size = W.heap.size + 1 := by rw [hWa]; simp
      have hlw : lo ≤ W.heap.size := by omega
      have hYx := hY.out (m - 1) pre x0 Wa (hJ.out _ _ _ hj bA) (by omega)
      rw [HX0.out] at hYx
      obtain ⟨fn, tmps, assign, body, hy, hR⟩ := hYx
      rw [hWa] at hy
      have HBA : Hid (Below W.heap.size W Wa) := bA
      have HKA : Hid (Wa.heap[W.heap.size]? = some (.cells #[.int .i64 deep, .bool lp] 66 (0, 0))) := kA
      have HW0 : Hid (Below lo W0 W) := hW
      have HJ0 : Hid (J pre W) := hj
      rw [ev]
      generalize hin : innerT T.1.kind lp = lp' at *
      clear hF flat hx0 hc hr N ht hm hsz hrep hwf hwk bA kA hW hj HX0 hY ev
      generalize ty T.1.kind = TT at *
      generalize T.2.length = nk at *
      refine callsIn_of_wp Tryz.func39 rfl trivial ?_ rfl
      simp only [Tryz.ntmps39, List.size_toArray, List.length_cons, List.length_nil, Nat.reduceAdd, Nat.reduceSub, Array.replicate_succ, Array.replicate_zero, List.push_toArray, List.append_toArray, List.nil_append, List.cons_append]
      gi_wp2_with fail
      rw [← hWa]
      refine ⟨hdd _, ?_⟩
      refine hR.mono ?_
      clear hR
      rintro e W1 (⟨rfl, hJ1, hK1⟩ | ⟨rfl, hx1⟩)
      · have HK1 : Hid (Kp lo hi Wa W1) := hK1
        have k1 := hK1.two hhi HKA.out
        have HB1 : Hid (Below lo W0 W1) := (HW0.out.trans (HBA.out.mono hlw)).trans hK1.1
        have a0 : W1.cell? ⟨W.heap.size, 0, none⟩ = some (.int .i64 deep) := by simp [World.cell?, k1]
        have a1 : W1.cell? ⟨W.heap.size, 1, none⟩ = some (.bool lp) := by simp [World.cell?, k1]
        have HJ1 : Hid (J (pre ++ [x0]) W1) := hJ1
        have hz1 : W.heap.size + 1 ≤ W1.heap.size := by have := hK1.1.size; omega
        clear hK1 hJ1 k1
        gi_wp2_with fail
        refine ⟨trivial, hdd _, (callsIn_wide.2 (hUn.out W1 HB1.out)).mono ?_⟩
        rintro e W2 ⟨rfl, hb2⟩
        have HB2 : Hid (Below W1.heap.size W1 W2) := hb2
        have hz2 := hb2.size
        clear hb2
        gi_wp2_with fail
        obtain ⟨W3, hW3⟩ : ∃ W3, W3 = W2.alloc (.cells #[.int .i64 ((deep : Int) + 1), .bool lp'] 66) := ⟨_, rfl⟩
        rw [← hW3]
        have b3 : Below W2.heap.size W2 W3 := by rw [hW3]; exact (Below.refl _ _).alloc (Nat.le_refl _) _
        have k3 : W3.heap[W2.heap.size]? = some (.cells #[.int .i64 ((deep : Int) + 1), .bool lp'] 66 (0, 0)) := by rw [hW3]; exact heap_alloc_new _ _
        have z3 : W3.heap.size = W2.heap.size + 1 := by rw [hW3]; simp
        have HB3 : Hid (Below W1.heap.size W1 W3) := HB2.out.trans (b3.mono hz2)
        have HB03 : Hid (Below lo W0 W3) := HB1.out.trans (HB3.out.mono (by omega))
        have HK3 : Hid (W3.heap[W2.heap.size]? = some (.cells #[.int .i64 ((deep : Int) + 1), .bool lp'] 66 (0, 0))) := k3
        clear b3 k3 hW3
        refine ⟨trivial, hdd _, (callsIn_wide.2 (hKi.out W3 HB03.out)).mono ?_⟩
        rintro e W3' ⟨rfl, hw3⟩
        replace hw3 := hw3.symm
        subst hw3
        gi_wp2_with fail
        gi_loopw [21] (fun x wr => ∃ (k : Nat), k ≤ nk ∧ x = .int .i64 k ∧ Hid (J (pre ++ (x0 :: ((List.range k).map F).flatten)) wr) ∧ Hid (Kp lo hi W3 wr)) (fun x _ => nk - (intOf x).toNat)
        case atStart => exact ⟨0, by omega, rfl, hJ.out _ _ _ HJ1.out HB3.out, Kp.refl _ _ _⟩
        case round =>
          obtain ⟨k, hk, rfl, HJk, HKk⟩ := hrel
          have HBk : Hid (Below lo W0 wr) := HB03.out.trans HKk.out.1
          by_cases hkn : k < nk
          · obtain ⟨b, off, eo, hcu⟩ := hUk.out wr HBk.out k hkn
            subst eo
            have kk := HKk.out.two (by omega) HK3.out
            have b0 : wr.cell? ⟨W2.heap.size, 0, none⟩ = some (.int .i64 ((deep : Int) + 1)) := by simp [World.cell?, kk]
            have b1 : wr.cell? ⟨W2.heap.size, 1, none⟩ = some (.bool lp') := by simp [World.cell?, kk]
            have hle := flat_le F (show k + 1 ≤ nk by omega)
            have hex : ((List.range (k + 1)).map F).flatten = ((List.range k).map F).flatten ++ F k := by rw [List.range_succ, List.map_append, List.flatten_append]; simp
            have C := HF.out k hkn (m - 1) (pre ++ (x0 :: ((List.range k).map F).flatten)) wr HBk.out (by have := HKk.out.1.size; omega) HJk.out (by rw [hex] at hle; simp only [List.length_append, List.length_cons] at hle ⊢; omega)
            rw [show (((deep + 1 : Nat) : Int)) = (deep : Int) + 1 by omega] at C
            have i1 : (k : Int) < (nk : Int) := by omega
            clear kk
            gi_wp2_with fail
            refine ⟨trivial, hdd _, C.mono ?_⟩
            clear C
            rintro e w4 (⟨rfl, hJ4, hK4⟩ | ⟨rfl, q, hq, hx4⟩)
            · have HJ4 : Hid (J (pre ++ (x0 :: ((List.range (k + 1)).map F).flatten)) w4) := by show J _ _; rw [hex]; simpa [List.append_assoc] using hJ4
              have HK4 : Hid (Kp lo hi W3 w4) := HKk.out.trans hK4
              clear hJ4 hK4
              gi_wp2_with fail
              go_roundw
              case rel => exact ⟨k + 1, by omega, by go_num, HJ4, HK4⟩
              case measure => simp [intOf]; omega
            · have HQ : Hid (x0 :: (((List.range k).map F).flatten ++ q) <+: x0 :: ((List.range nk).map F).flatten) := by
                obtain ⟨r, hr⟩ := hq
                obtain ⟨r2, hr2⟩ := flat_pre F (show k + 1 ≤ nk by omega)
                exact ⟨r ++ r2, by rw [← hr2, hex, ← hr]; simp⟩
              have HX4 : Hid (Jx (pre ++ (x0 :: (((List.range k).map F).flatten ++ q))) w4) := by show Jx _ _; simpa [List.append_assoc] using hx4
              clear hx4 hq
              gi_wp2_with fail
              go_ret
              exact .inr ⟨rfl, _, HQ.out, HX4.out⟩
          · have hkn2 : k = nk := by omega
            subst hkn2
            gi_wp2_with fail
            go_ret
            exact .inl ⟨rfl, HJk.out, ((Kp.of HBA.out hlw).trans HK1.out).trans ((Kp.of HB3.out (by omega)).trans HKk.out)⟩
      · gi_wp2_with fail
        go_ret
        exact .inr ⟨rfl, [x0], ⟨_, rfl⟩, hx1⟩
end Go.Proofs.YtccnjmnafkfjdaaGreat.vt
namespace Go.Proofs.YtccnjmnafkfjdaaGreat.vt
open Go.RowKit Go.Shelf Go.Deep Go.Proofs.YtccnjmnafkfjdaaGreat.bts Go.Proofs.YtccnjmnafkfjdaaGreat.nod Go.Proofs.YtccnjmnafkfjdaaGreat.lex
attribute [local go_sem] Oper.semAt_some

theorem yield_any {m : Nat} (m' : Nat) {P : Program} {l : Nat} {args : Array Value} {W : World} {R : Ending → World → Prop} (h : YieldAt Fence.wide m P l args W R) : YieldAt Fence.wide m' P l args W R := by
  obtain ⟨fn, tmps, assign, body, hy, hR⟩ := h
  exact ⟨fn, tmps, assign, body, hy, hR.1, fun c cs _ => hR.2 c cs (fun d h => by cases h)⟩
theorem grown_of {W W' : World} (h : Below W.heap.size W W') : W.grownBy W' none := ⟨h.os, h.tape, h.output, h.size, fun k hk _ => h.block k hk⟩

set_option maxHeartbeats 1000000 in
theorem walk_in (n T0 g : Nat) (w : World) :
    CallsIn Fence.wide n Tryz.prog 33 #[.iface T0 (.pointer (some ⟨g, 0, none⟩))] w fun e w' => e = .returned (.func (.func 38) #[] #[.pointer (some ⟨w.heap.size, 0, none⟩)]) ∧ w' = w.alloc (.cells #[.iface T0 (.pointer (some ⟨g, 0, none⟩))] 39) := by
  refine callsIn_of_wp Tryz.func33 rfl trivial ?_ rfl
  simp only [Tryz.ntmps33, List.size_toArray, List.length_cons, List.length_nil, Nat.reduceAdd, Nat.reduceSub, Array.replicate_succ, Array.replicate_zero, List.push_toArray, List.append_toArray, List.nil_append, List.cons_append]
  gi_wp2
  go_ret
  exact ⟨rfl, rfl⟩

set_option maxRecDepth 100000 in
set_option maxHeartbeats 1000000 in
theorem walk_stops (W0 : World) (lo hi Bt n : Nat) (v : Value) {D : Nat} (T : Tr D) (w : World) (hlo : W0.heap.size = lo) (hlh : lo ≤ hi) (hrep : Rep W0 v T) (hwf : wfT T) (hsz : 1 + sizeT T ≤ 1000000000) (hBt : Bt < w.heap.size) (hw : Below lo W0 w) (hhi : hi ≤ w.heap.size) (hc : w.cell? ⟨Bt, 0, none⟩ = some v) :
    SeqStopsK Fence.wide n Tryz.prog 38 #[.pointer (some ⟨Bt, 0, none⟩)] (fun x : Vis W0 => x.encs) (Kp lo hi) (fun ys => ys.map Vis.key = preT T 1 false) (fun q => ∃ xs : List (Vis W0), xs.map Vis.key = preT T 1 false ∧ q <+: xs) (sizeT T) w := by
  intro l J Jx W hW hJ hJx hY h0
  obtain ⟨xs, hk, C⟩ := visit_in W0 l lo hi (sizeT T) hlo hlh J Jx (fun pre W W' h hb => hJ pre W W' none h (grown_of hb) (fun r e => by cases e)) (fun m pre x W h1 h2 => yield_any m (hY pre x W h1 h2)) T v 1 false hrep hwf hsz
  have hlen : xs.length = sizeT T := by rw [← pre_len T 1 false, ← hk, List.length_map]
  have C2 := C (n - 1) [] W (hw.trans (hW.mono (by have := hw.size; omega))) (by have := hW.size; omega) h0 (by rw [hlen, List.length_nil]; omega)
  have hc2 : W.cell? ⟨Bt, 0, none⟩ = some v := (hW.cell (p := ⟨Bt, 0, none⟩) hBt).trans hc
  have HX : Hid (xs.map Vis.key = preT T 1 false) := hk
  have hdd : ∀ k : Nat, (Fence.wide.depth.isSome = true → 1 ≤ k) := fun k h => by cases h
  clear C hJ hJx hY h0 hW hw hc hk hrep hwf
  show CallsIn Fence.wide n Tryz.prog 38 #[.func (.yield l) #[] #[], .pointer (some ⟨Bt, 0, none⟩)] W _
  refine callsIn_of_wp Tryz.func38 rfl trivial ?_ rfl
  simp only [Tryz.ntmps38, List.size_toArray, List.length_cons, List.length_nil, Nat.reduceAdd, Nat.reduceSub, Array.replicate_succ, Array.replicate_zero, List.push_toArray, List.append_toArray, List.nil_append, List.cons_append]
  gi_wp2_with fail
  refine ⟨trivial, hdd _, C2.mono ?_⟩
  rintro e W1 (⟨rfl, hJ1, _⟩ | ⟨rfl, q, hq, hx⟩)
  · gi_wp2_with fail
    go_end0
    exact ⟨⟨_, rfl⟩, .inl ⟨xs, HX.out, hJ1⟩⟩
  · gi_wp2_with fail
    go_end0
    exact ⟨⟨_, rfl⟩, .inr ⟨q, ⟨xs, HX.out, hq⟩, hx⟩⟩
end Go.Proofs.YtccnjmnafkfjdaaGreat.vt
