import Derived.Test.YteagakplhfiodaaDoorPgEqB
import Derived.Test.YteagakplhfiodaaDoorChkPure
namespace Go.Proofs.YteagakplhfiodaaDoor.chk
open Go.RowKit Go.Proofs.YteagakplhfiodaaDoor.bts Go.Proofs.YteagakplhfiodaaDoor.pg

def chU (u : Nat) : UInt8 := [45, 99, 105, 115, 51, 117, 112, 111, 110, 116].getD u 0
def lvS (op : Nat) : Int := if op = 20 ∨ op = 21 then 1 else lv op

set_option maxRecDepth 100000 in
theorem row_cell (op : Nat) (h : op < 28) (w : World) : ∃ ca cb cc cd : UInt8, (w.alloc (.cells #[.string { data := #[99, 45, 48, 49] }, .string { data := #[45, 45, 48, 49] }, .string { data := #[45, 45, 48, 49] }, .string { data := #[45, 45, 48, 49] }, .string { data := #[105, 45, 48, 49] }, .string { data := #[115, 45, 48, 49] }, .string { data := #[115, 45, 49, 48] }, .string { data := #[115, 45, 49, 48] }, .string { data := #[117, 45, 48, 49] }, .string { data := #[117, 45, 49, 48] }, .string { data := #[112, 45, 48, 49] }, .string { data := #[45, 45, 48, 49] }, .string { data := #[45, 45, 51, 49] }, .string { data := #[45, 45, 50, 49] }, .string { data := #[45, 45, 51, 48] }, .string { data := #[111, 45, 50, 49] }, .string { data := #[45, 45, 49, 49] }, .string { data := #[45, 45, 49, 49] }, .string { data := #[116, 45, 48, 48] }, .string { data := #[116, 45, 49, 48] }, .string { data := #[116, 45, 49, 49] }, .string { data := #[116, 45, 49, 49] }, .string { data := #[110, 110, 49, 48] }, .string { data := #[110, 45, 49, 48] }, .string { data := #[110, 45, 48, 48] }, .string { data := #[45, 45, 49, 48] }, .string { data := #[51, 116, 48, 48] }, .string { data := #[51, 116, 48, 48] }] 9)).cell? ⟨w.heap.size, op, none⟩ = some (.string { data := #[ca, cb, cc, cd] }) ∧
    ca = chU (shA op) ∧ cb = chU (shB op) ∧ (cc.toNat : Int) = 48 + tk op ∧ (cd.toNat : Int) = 48 + lvS op := by
  have hc : op = 0 ∨ op = 1 ∨ op = 2 ∨ op = 3 ∨ op = 4 ∨ op = 5 ∨ op = 6 ∨ op = 7 ∨ op = 8 ∨ op = 9 ∨ op = 10 ∨ op = 11 ∨ op = 12 ∨ op = 13 ∨ op = 14 ∨ op = 15 ∨ op = 16 ∨ op = 17 ∨ op = 18 ∨ op = 19 ∨ op = 20 ∨ op = 21 ∨ op = 22 ∨ op = 23 ∨ op = 24 ∨ op = 25 ∨ op = 26 ∨ op = 27 := by omega
  simp only [World.cell?, heap_alloc_new]
  clear h
  rcases hc with rfl | rfl | rfl | rfl | rfl | rfl | rfl | rfl | rfl | rfl | rfl | rfl | rfl | rfl | rfl | rfl | rfl | rfl | rfl | rfl | rfl | rfl | rfl | rfl | rfl | rfl | rfl | rfl
  all_goals exact ⟨_, _, _, _, rfl, rfl, rfl, rfl, rfl⟩

set_option maxRecDepth 100000 in
set_option maxHeartbeats 4000000 in
theorem l4row_any (op : Nat) (h : op < 28) (w : World) :
    Calls Tryd.prog 47 #[.int .i64 op] w fun e w' => e = .returned (.tuple #[.string { data := #[chU (shA op), chU (shB op)] }, .int .i64 (tk op), .int .i64 (lvS op)]) ∧ Below w.heap.size w w' := by
  obtain ⟨ca, cb, cc, cd, hcell, rfl, rfl, h2, h3⟩ := row_cell op h w
  have ht := tk_ge op h
  have hl : 0 ≤ lvS op ∧ lvS op ≤ 1 := by unfold lvS; split <;> omega
  generalize tk op = t at h2 ht ⊢
  generalize lvS op = l at h3 hl ⊢
  generalize chU (shA op) = ca at hcell ⊢
  generalize chU (shB op) = cb at hcell ⊢
  have HE : Hid (({ data := #[ca, cb, cc, cd] } : ByteArray).extract 0 2 = { data := #[ca, cb] } ∧ ((cc.toNat : Int) - 48) % 256 = t ∧ ((cd.toNat : Int) - 48) % 256 = l) := ⟨rfl, by omega, by omega⟩
  clear ht hl h2 h3
  go_enter Tryd.func47, Tryd.ntmps47
  go_wp2
  go_quiet (fail)
  go_wp2
  go_returns
  refine ⟨?_, bel_drewN (by go_grown) _⟩
  show Ending.returned (.tuple #[.string (({ data := #[ca, cb, cc, cd] } : ByteArray).extract 0 2), .int .i64 (((cc.toNat : Int) - 48) % 256), .int .i64 (((cd.toNat : Int) - 48) % 256)]) = _
  rw [HE.out.1, HE.out.2.1, HE.out.2.2]

theorem ret_b {a b : Bool} (h : a = b) : Ending.returned (.bool a) = .returned (.bool b) := by rw [h]

set_option maxRecDepth 100000 in
set_option maxHeartbeats 4000000 in
theorem l4operand_any (u : Nat) (hu : u < 10) (ak ap ac ad : Option Addr) (nk ck np cp nc cc nd cd : Nat) (params slots v : Int) (h0 : 0 ≤ slots) (h1 : slots ≤ 200) (w : World) :
    Calls Tryd.prog 48 #[.agg #[.slice ak nk ck, .slice ap np cp], .agg #[.int .i64 params, .int .i64 slots, .slice ac nc cc, .slice ad nd cd], .int .u8 (chU u).toNat, .int .i64 v] w
      fun e w' => e = .returned (.bool (kn nk np slots nc nd u v)) ∧ Below w.heap.size w w' := by
  have hc : u = 0 ∨ u = 1 ∨ u = 2 ∨ u = 3 ∨ u = 4 ∨ u = 5 ∨ u = 6 ∨ u = 7 ∨ u = 8 ∨ u = 9 := by omega
  clear hu
  by_cases hv : v < 0
  · have HE : Hid (kn nk np slots nc nd u v = false) := by
      show _ = _
      unfold kn low
      rw [decide_eq_false (show ¬ (if u = 6 then (1 : Int) else 0) ≤ v by split <;> omega)]; rfl
    generalize kn nk np slots nc nd u v = b at HE ⊢
    generalize ((chU u).toNat : Int) = ch
    clear hc
    go_enter Tryd.func48, Tryd.ntmps48
    go_wp2
    go_returns
    exact ⟨ret_b HE.out.symm, by go_grown⟩
  · have hl : (decide ((0 : Int) ≤ v)) = true := by simp; omega
    by_cases h6 : u = 6
    · subst h6
      clear hc
      by_cases hv1 : 1 ≤ v
      · have HE : Hid (kn nk np slots nc nd 6 v = decide (v < (np : Int))) := by show _ = _; unfold kn low top; simp [hv1]
        rw [HE.out]
        change Calls _ _ #[_, _, .int .u8 112, _] _ _
        go_enter Tryd.func48, Tryd.ntmps48
        go_wp2
        go_returns
        exact ⟨rfl, by go_grown⟩
      · have HE : Hid (kn nk np slots nc nd 6 v = false) := by show _ = _; unfold kn low; simp [hv1]
        rw [HE.out]
        change Calls _ _ #[_, _, .int .u8 112, _] _ _
        go_enter Tryd.func48, Tryd.ntmps48
        go_wp2
        go_returns
        exact ⟨rfl, by go_grown⟩
    · have HE : Hid (kn nk np slots nc nd u v = decide (v < top nk np slots nc nd u)) := by show _ = _; unfold kn low; rw [if_neg h6, hl]; rfl
      rw [HE.out]
      clear HE hl
      rcases hc with rfl | rfl | rfl | rfl | rfl | rfl | rfl | rfl | rfl | rfl
      · change Calls _ _ #[_, _, .int .u8 45, _] _ _
        have HE : Hid ((v == 0) = decide (v < top nk np slots nc nd 0)) := by
          show _ = _
          unfold top
          rw [if_pos rfl]
          by_cases e : v = 0
          · subst e; rfl
          · rw [decide_eq_false (show ¬ v < 1 by omega)]; simp [e]
        go_enter Tryd.func48, Tryd.ntmps48
        go_wp2
        go_returns
        exact ⟨ret_b HE.out, by go_grown⟩
      · change Calls _ _ #[_, _, .int .u8 99, _] _ fun e w' => e = .returned (.bool (decide (v < (nk : Int)))) ∧ _
        go_enter Tryd.func48, Tryd.ntmps48
        go_wp2
        go_returns
        exact ⟨rfl, by go_grown⟩
      · change Calls _ _ #[_, _, .int .u8 105, _] _ fun e w' => e = .returned (.bool (decide (v < 10))) ∧ _
        go_enter Tryd.func48, Tryd.ntmps48
        go_wp2
        go_returns
        exact ⟨rfl, by go_grown⟩
      · change Calls _ _ #[_, _, .int .u8 115, _] _ fun e w' => e = .returned (.bool (decide (v < slots))) ∧ _
        go_enter Tryd.func48, Tryd.ntmps48
        go_wp2
        go_returns
        exact ⟨rfl, by go_grown⟩
      · change Calls _ _ #[_, _, .int .u8 51, _] _ fun e w' => e = .returned (.bool (decide (v < slots - 2))) ∧ _
        go_enter Tryd.func48, Tryd.ntmps48
        go_wp2
        go_returns
        exact ⟨rfl, by go_grown⟩
      · change Calls _ _ #[_, _, .int .u8 117, _] _ fun e w' => e = .returned (.bool (decide (v < (nc : Int)))) ∧ _
        go_enter Tryd.func48, Tryd.ntmps48
        go_wp2
        go_returns
        exact ⟨rfl, by go_grown⟩
      · exact absurd rfl h6
      · change Calls _ _ #[_, _, .int .u8 111, _] _ fun e w' => e = .returned (.bool (decide (v < 12))) ∧ _
        go_enter Tryd.func48, Tryd.ntmps48
        go_wp2
        go_returns
        exact ⟨rfl, by go_grown⟩
      · change Calls _ _ #[_, _, .int .u8 110, _] _ fun e w' => e = .returned (.bool (decide (v < 51))) ∧ _
        have HE : Hid (decide (v ≤ 50) = decide (v < 51)) := by show _ = _; by_cases e : v ≤ 50 <;> simp [e] <;> omega
        go_enter Tryd.func48, Tryd.ntmps48
        go_wp2
        go_returns
        exact ⟨ret_b HE.out, by go_grown⟩
      · change Calls _ _ #[_, _, .int .u8 116, _] _ fun e w' => e = .returned (.bool (decide (v < (nd : Int)))) ∧ _
        go_enter Tryd.func48, Tryd.ntmps48
        go_wp2
        go_returns
        exact ⟨rfl, by go_grown⟩
end Go.Proofs.YteagakplhfiodaaDoor.chk
