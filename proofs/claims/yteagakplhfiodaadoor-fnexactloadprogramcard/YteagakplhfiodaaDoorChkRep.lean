import Derived.Test.YteagakplhfiodaaDoorChkReach
import Derived.Lib.VarintBits
import Derived.Laws.CopyOwn
import Derived.Deep.LoopGhost
namespace Go.Proofs.YteagakplhfiodaaDoor.chk
open Go.RowKit Go.Proofs.YteagakplhfiodaaDoor.bts Go.Proofs.YteagakplhfiodaaDoor.pg

theorem ret2u {a b c d : Int} (h : a = b) (h2 : c = d) : Ending.returned (.tuple #[.int .u64 a, .int .u64 c]) = .returned (.tuple #[.int .u64 b, .int .u64 d]) := by rw [h, h2]

set_option maxRecDepth 100000 in
set_option maxHeartbeats 2000000 in
theorem mul64_one (N : Nat) (hN : N ≤ 1048576) (w : World) :
    Calls Tryd.prog 77 #[.int .u64 1, .int .u64 N] w fun e w' => e = .returned (.tuple #[.int .u64 0, .int .u64 N]) ∧ Below w.heap.size w w' := by
  go_enter Tryd.func77, Tryd.ntmps77
  go_wp2
  first
    | go_returns
    | (go_quiet (fail)
       go_wp2
       go_returns)
  refine ⟨ret2u ?_ ?_, by first | exact Below.refl _ _ | exact bel_drewN (Below.refl _ _) _⟩
  · have e1 : bits BinOp.and IntKind.u64 1 4294967295 = 1 := by decide +kernel
    have e2 : bits BinOp.and IntKind.u64 (N : Int) 4294967295 = (N : Int) := by
      have := bits_mask .u64 64 (by decide) wraps_u64 32 (by decide) (N : Int) (by omega) (by omega)
      have e : bits BinOp.and IntKind.u64 (N : Int) 4294967295 = (N : Int) % 4294967296 := this
      rw [e]; omega
    have e3 : IntKind.u64.wrap (1 * (N : Int)) = (N : Int) := by simp only [IntKind.wrap_u64]; omega
    have e4 : (N : Int) / 4294967296 = 0 := by omega
    simp only [e1, e2, e3, e4]
    decide +kernel
  · rfl

set_option maxRecDepth 100000 in
set_option maxHeartbeats 2000000 in
theorem mul_one' (N : Nat) (hN : N ≤ 1048576) (w : World) :
    Calls Tryd.prog 69 #[.int .u64 1, .int .u64 N] w fun e w' => e = .returned (.tuple #[.int .u64 0, .int .u64 N]) ∧ Below w.heap.size w w' := by
  have C := mul64_one N hN w
  have hN0 : (0 : Int) ≤ (N : Int) ∧ (N : Int) ≤ 1048576 := by omega
  go_enter Tryd.func69, Tryd.ntmps69
  go_wp2_with fail
  refine C.mono ?_
  rintro e w1 ⟨rfl, hb1⟩
  have HB : Hid (Below w.heap.size w w1) := hb1
  clear hb1 C
  go_wp2_with fail
  go_returns
  exact ⟨ret2u (by first | rfl | omega | (simp; omega)) (by first | rfl | omega | (simp; omega)), HB.out⟩

theorem own_cells {w : World} {B E g n : Nat} {xs : List Value} (h : w.ownsRow B E 1 (.slice (some ⟨g, 0, none⟩) n n) n xs) : w.heap[g]? = some (.cells xs.toArray E (0, 0)) ∧ xs.length = n ∧ B ≤ g := by
  have hl := h.1
  rcases h.2 with ⟨h, _⟩ | ⟨g', cap, cur, e', hb, hh, _, _, hs, ht⟩
  · simp at h
  · simp only [Value.slice.injEq, Option.some.injEq, Addr.mk.injEq, and_true, true_and] at e'
    obtain ⟨rfl, rfl⟩ := e'
    have hc : cur = xs.toArray := by
      apply Array.toList_inj.mp
      rw [List.take_of_length_le (by rw [Array.length_toList]; omega)] at ht
      simpa using ht
    exact ⟨by rw [hh, hc], by omega, hb⟩
theorem cells_own {w : World} {B E g n : Nat} {xs : List Value} (h : w.heap[g]? = some (.cells xs.toArray E (0, 0))) (hl : xs.length = n) (hn : n ≤ maxLen) (hB : B ≤ g) : w.ownsRow B E 1 (.slice (some ⟨g, 0, none⟩) n n) n xs := by
  subst hl
  exact ⟨by omega, .inr ⟨g, _, _, rfl, hB, h, Nat.le_refl _, hn, by simp, by simp⟩⟩
theorem cells_cell {w : World} {g E j : Nat} {xs : List Value} (h : w.heap[g]? = some (.cells xs.toArray E (0, 0))) : w.cell? ⟨g, j, none⟩ = xs[j]? := by
  simp only [World.cell?, h]
  simp
theorem copy_src {w : World} {b j : Nat} {u v : Value} (h : w.cell? ⟨b, 0, none⟩ = some u) (hv : [u][j]? = some v) : w.cell? ((⟨b, 0, none⟩ : Addr).add j) = some v := by
  cases j with
  | zero => simp only [List.getElem?_cons_zero, Option.some.injEq] at hv; subst hv; rw [plainAt]; exact h
  | succ j => simp at hv
theorem ic_of2 {us : List Value} {n : Nat} (hl : us.length = n) (h : ∀ j, j < n → us[j]? = some (.int .i64 (-1))) : us = ic (List.replicate n (-1)) := by
  apply List.ext_getElem?
  intro j
  by_cases hj : j < n
  · rw [h j hj]; simp [ic, hj]
  · rw [List.getElem?_eq_none (by omega), List.getElem?_eq_none (by simp [ic]; omega)]
theorem splice_at {L cs : List Value} {off j : Nat} {v : Value} (hf : off + cs.length ≤ L.length) (hL : j < off → L[j]? = some v) (hc : ∀ u ∈ cs, u = v) (hj : j < off + cs.length) : (splice L off cs)[j]? = some v := by
  unfold splice
  by_cases h : j < off
  · rw [List.getElem?_append_left (by simp; omega), List.getElem?_take_of_lt h]; exact hL h
  · rw [List.getElem?_append_right (by simp; omega), List.getElem?_append_left (by simp; omega)]
    have hl : j - (L.take off).length < cs.length := by simp; omega
    rw [List.getElem?_eq_getElem hl, hc _ (List.getElem_mem hl)]

set_option maxRecDepth 100000 in
set_option maxHeartbeats 2000000 in
theorem repeat_any (b N : Nat) (hN : N ≤ 1048576) (h0 : 0 < N) (w : World) (hc : w.cell? ⟨b, 0, none⟩ = some (.int .i64 (-1))) :
    Calls Tryd.prog 63 #[.slice (some ⟨b, 0, none⟩) 1 1, .int .i64 N] w fun e w' => ∃ gB, w.heap.size ≤ gB ∧ e = .returned (.slice (some ⟨gB, 0, none⟩) N N) ∧ w'.ownsRow w.heap.size 3 1 (.slice (some ⟨gB, 0, none⟩) N N) N (ic (List.replicate N (-1))) ∧ Below w.heap.size w w' := by
  obtain ⟨i0, hi, hz0, hz1, hz2⟩ := info_parts info_int
  have C := mul_one' N hN w
  have hmx : N ≤ maxLen := by unfold maxLen; omega
  have hN0 : (0 : Int) ≤ (N : Int) := by omega
  have hN1 : (N : Int) ≤ 1048576 := by omega
  go_enter Tryd.func63, Tryd.ntmps63
  go_wp2_with fail
  refine C.mono ?_
  rintro e w1 ⟨rfl, hb1⟩
  clear C
  have HB1 : Hid (Below w.heap.size w w1) := hb1
  have hc1 := cellB hc hb1
  clear hb1 hc
  have hsz1 : (Tryd.prog.info? 3).map (·.size) = some 1 := by kernel_rfl
  have hmin : [Value.int .i64 (-1)].length = Nat.min 1 N := by show 1 = min 1 N; omega
  have hone : ∀ v ∈ [Value.int .i64 (-1)], v.oneCell' = true := by intro v hv; simp at hv; subst hv; rfl
  go_wp2_with (first | (at_make; refine wpList_make_full _ rfl _ _ 79 rfl w1.heap.size 3 i0 (.int .i64 0) 1 Tryd.underlying79 hi hz0 hz1 .i64 .i64 _ _ N rfl rfl rfl rfl (by rw [hz2]; omega) hmx (Nat.le_refl _) ?_; intro w2 hown hgrow; have HR := own_cells hown; obtain ⟨cur, hcur, hcl⟩ : ∃ cur : List Value, w2.heap[w1.heap.size]? = some (.cells cur.toArray 3 (0, 0)) ∧ cur.length = N := ⟨_, HR.1, HR.2.1⟩; clear HR hown; have hb2 : Below w1.heap.size w1 w2 := (Below.refl _ _).grown hgrow (Nat.le_refl _) (by intro k hk; cases hk); have hc2 := cellB hc1 hb2; have hfit : 0 + [Value.int .i64 (-1)].length ≤ cur.length := by (simp only [List.length_singleton]; omega)) | (refine wpList_copy_splice rfl _ _ _ _ rfl 3 Tryd.underlying79 hsz1 (some ⟨w1.heap.size, 0, none⟩) (some ⟨b, 0, none⟩) N N 1 1 rfl rfl w1.heap.size 0 cur 3 hcur [.int .i64 (-1)] hmin (fun _ => ⟨rfl, _, rfl, fun j v hv => copy_src hc2 hv⟩) hfit hone w1.heap.size w1 hb2 (Nat.le_refl _) ?_; intro w3 HH3 hb3))
  have HB3 : Hid (Below w.heap.size w w3) := HB1.out.trans (hb3.mono HB1.out.size)
  obtain ⟨g, hg⟩ : ∃ g, g = w1.heap.size := ⟨_, rfl⟩
  have HG : Hid (w.heap.size ≤ g) := by rw [hg]; exact HB1.out.size
  have H3 : Hid (w3.heap[g]? = some (.cells (splice cur 0 [.int .i64 (-1)]).toArray 3 (0, 0)) ∧ (splice cur 0 [.int .i64 (-1)]).length = N ∧ ∀ j, j < 1 → (splice cur 0 [.int .i64 (-1)])[j]? = some (.int .i64 (-1))) := by
    refine ⟨by rw [hg]; exact HH3.out, by rw [length_splice _ _ _ (by simp; omega)]; exact hcl, fun j hj => splice_at (by simp; omega) (fun h => absurd h (by omega)) (by simp) (by simp; omega)⟩
  rw [← hg]
  generalize splice cur 0 [.int .i64 (-1)] = L1 at H3
  clear HH3 hb3 hb2 hc2 hcur hgrow hc1 hg HB1
  go_loopg [8] (N - 1) (fun gk x wr => ∃ (k : Nat) (L : List Value), 1 ≤ k ∧ k ≤ N ∧ N - k = gk ∧ x = .int .i64 k ∧ Hid (wr.heap[g]? = some (.cells L.toArray 3 (0, 0)) ∧ L.length = N ∧ ∀ j, j < k → L[j]? = some (.int .i64 (-1))) ∧ Below w.heap.size w wr)
  case atStart => exact ⟨1, L1, Nat.le_refl _, h0, rfl, by rw [show Nat.min 1 N = 1 from by show min 1 N = 1; omega], H3.out, HB3.out⟩
  case round =>
    clear H3 HB3
    obtain ⟨k, L, hk1, hkN, hgk, rfl, HL, hb⟩ := hrel
    by_cases hlt : k < N
    · obtain ⟨q, hq⟩ : ∃ q, q = Nat.min k gk := ⟨_, rfl⟩
      have hq1 : q = min k gk := hq
      have hqb : 0 < q ∧ q ≤ gk ∧ q ≤ k := by omega
      have hkN' : (k : Int) < (N : Int) := by omega
      have hLg : wr.drew.heap[g]? = some (.cells L.toArray 3 (0, 0)) := HL.out.1
      have hlen : (List.replicate q (Value.int .i64 (-1))).length = Nat.min k gk := by rw [List.length_replicate]; exact hq
      have hfit : k + (List.replicate q (Value.int .i64 (-1))).length ≤ L.length := by rw [List.length_replicate, HL.out.2.1]; omega
      have hone2 : ∀ v ∈ List.replicate q (Value.int .i64 (-1)), v.oneCell' = true := by intro v hv; rw [(List.mem_replicate.1 hv).2]; rfl
      have hpos : 0 < (List.replicate q (Value.int .i64 (-1))).length → (if N = k then some ⟨g, 0, none⟩ else some ⟨g, k, none⟩ : Option Addr) = some ⟨g, k, none⟩ ∧ ∃ ad, (some ⟨g, 0, none⟩ : Option Addr) = some ad ∧ ∀ j v, (List.replicate q (Value.int .i64 (-1)))[j]? = some v → wr.drew.cell? (ad.add j) = some v := by
        refine fun _ => ⟨if_neg (by omega), _, rfl, fun j v hv => ?_⟩
        rw [plainAt, Nat.zero_add, cells_cell hLg]
        have hj : j < q := by
          by_cases h : j < q
          · exact h
          · rw [List.getElem?_eq_none (by simp; omega)] at hv; cases hv
        rw [HL.out.2.2 j (by omega)]
        simp [hj] at hv
        rw [hv]
      have hbd : Below w.heap.size w wr.drew := hb.drew
      have hgB := HG.out
      have HNEXT : Hid (∀ w3 : World, w3.heap[g]? = some (.cells (splice L k (List.replicate q (Value.int .i64 (-1)))).toArray 3 (0, 0)) → w3.heap[g]? = some (.cells (splice L k (List.replicate q (Value.int .i64 (-1)))).toArray 3 (0, 0)) ∧ (splice L k (List.replicate q (Value.int .i64 (-1)))).length = N ∧ ∀ j, j < k + q → (splice L k (List.replicate q (Value.int .i64 (-1))))[j]? = some (.int .i64 (-1))) := fun w3 h => ⟨h, by rw [length_splice _ _ _ hfit]; exact HL.out.2.1, fun j hj => splice_at hfit (fun hjk => HL.out.2.2 j hjk) (fun u hu => (List.mem_replicate.1 hu).2) (by rw [List.length_replicate]; exact hj)⟩
      have HQ : Hid (k.min gk = q) := hq.symm
      have HWR : Hid (IntKind.i64.wrap ((k : Int) + (q : Int)) = ((k + q : Nat) : Int)) := by show _ = _; simp only [IntKind.wrap_i64]; omega
      have HKQ : Hid (k + q ≤ N ∧ N - (k + q) < gk) := ⟨by omega, by omega⟩
      clear HL hq hq1
      go_wp2_with fail
      go_region_held3 (fun W => Below w.heap.size w W) (repeat (first | exact Below.refl _ _ | assumption | refine Below.drew ?_ | refine bel_drewN ?_ _))
        ((refine step_copy_splice rfl _ _ _ _ rfl 3 Tryd.underlying79 hsz1 (if N = k then some ⟨g, 0, none⟩ else some ⟨g, k, none⟩) (some ⟨g, 0, none⟩) gk gk k N rfl rfl g k L 3 hLg (List.replicate q (Value.int .i64 (-1))) hlen hpos hfit hone2 w.heap.size w hbd hgB ?_; intro w3 HH3 hb3))
      go_wp2_with fail
      go_roundg (N - (k + q))
      case measure => exact HKQ.out.2
      case rel => exact ⟨k + q, _, by omega, HKQ.out.1, rfl, by rw [HQ.out, HWR.out], HNEXT.out w3 HH3.out, by assumption⟩
    · have hkn : k = N := by omega
      subst hkn
      have HE : Hid (wr.ownsRow w.heap.size 3 1 (.slice (some ⟨g, 0, none⟩) k k) k (ic (List.replicate k (-1)))) := by
        have e := ic_of2 HL.out.2.1 HL.out.2.2
        have h := HL.out.1
        rw [e] at h
        exact cells_own h (by simp [ic]) hmx HG.out
      clear HL
      go_wp2_with fail
      go_returns
      exact ⟨g, HG.out, rfl, HE.out, hb⟩
end Go.Proofs.YteagakplhfiodaaDoor.chk
