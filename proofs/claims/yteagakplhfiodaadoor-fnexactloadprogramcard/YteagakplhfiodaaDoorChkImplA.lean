import Derived.Test.YteagakplhfiodaaDoorChkPure
import Derived.Test.YteagakplhfiodaaDoorPgEqB
namespace Go.Proofs.YteagakplhfiodaaDoor.chk
open Go.RowKit Go.Proofs.YteagakplhfiodaaDoor.bts Go.Proofs.YteagakplhfiodaaDoor.pg

theorem ret_bI {a b : Bool} (h : a = b) : Ending.returned (.bool a) = .returned (.bool b) := by rw [h]

/-- The table of shapes lies in its block. -/
def Shp (w : World) : Prop := ∀ op, op < 28 → w.cell? ⟨2, op * 4, none⟩ = some (.int .i64 (shA op)) ∧ w.cell? ⟨2, op * 4 + 1, none⟩ = some (.int .i64 (shB op)) ∧ w.cell? ⟨2, op * 4 + 2, none⟩ = some (.int .i64 (tk op)) ∧ w.cell? ⟨2, op * 4 + 3, none⟩ = some (.int .i64 (lv op))
theorem Shp.below {w w' : World} {B : Nat} (h : Shp w) (hb : Below B w w') (hB : 2 < B) : Shp w' := by
  intro op ho
  obtain ⟨h0, h1, h2, h3⟩ := h op ho
  exact ⟨(hb.cell (p := ⟨2, op * 4, none⟩) hB).trans h0, (hb.cell (p := ⟨2, op * 4 + 1, none⟩) hB).trans h1, (hb.cell (p := ⟨2, op * 4 + 2, none⟩) hB).trans h2, (hb.cell (p := ⟨2, op * 4 + 3, none⟩) hB).trans h3⟩

theorem Shp.lt {w : World} (h : Shp w) : 2 < w.heap.size := World.block_lt_of_cell? _ _ (h 0 (by omega)).1

/-- A checker in its block: the program, the function, what is open, the operands. -/
def Ck (w : World) (g : Nat) (uk up : Value) (fp fs : Int) (uc ud vT vB : Value) : Prop := w.heap[g]? = some (.cells #[uk, up, .int .i64 fp, .int .i64 fs, uc, ud, vT, vB] 83 (0, 0))
theorem Ck.at {w : World} {g : Nat} {uk up uc ud vT vB : Value} {fp fs : Int} (h : Ck w g uk up fp fs uc ud vT vB) (j : Nat) (v : Value) (hv : #[uk, up, .int .i64 fp, .int .i64 fs, uc, ud, vT, vB][j]? = some v) : w.cell? ⟨g, j, none⟩ = some v := by
  simp only [World.cell?]
  rw [show w.heap[g]? = _ from h]
  exact hv
theorem Ck.free {w : World} {g : Nat} {uk up uc ud vT vB : Value} {fp fs : Int} (h : Ck w g uk up fp fs uc ud vT vB) (j : Nat) : w.frozen? ⟨g, j, none⟩ = false := by
  simp only [World.frozen?]
  rw [show w.heap[g]? = _ from h]
  simp

set_option maxRecDepth 100000 in
set_option maxHeartbeats 4000000 in
theorem knows_any (g u : Nat) (hu : u < 10) (ak ap ac ad : Option Addr) (nk ck np cp nc cc nd cd : Nat) (fp fs v : Int) (vT vB : Value) (h0 : 0 ≤ fs) (h1 : fs ≤ 200) (w : World) (C : Ck w g (.slice ak nk ck) (.slice ap np cp) fp fs (.slice ac nc cc) (.slice ad nd cd) vT vB) :
    Calls Tryd.prog 61 #[.pointer (some ⟨g, 0, none⟩), .int .i64 u, .int .i64 v] w fun e w' => e = .returned (.bool (kn nk np fs nc nd u v)) ∧ ∃ m, w' = w.drewN m := by
  have hc : u = 0 ∨ u = 1 ∨ u = 2 ∨ u = 3 ∨ u = 4 ∨ u = 5 ∨ u = 6 ∨ u = 7 ∨ u = 8 ∨ u = 9 := by omega
  have c0 := C.at 0 _ rfl
  have c1 := C.at 1 _ rfl
  have c3 := C.at 3 _ rfl
  have c4 := C.at 4 _ rfl
  have c5 := C.at 5 _ rfl
  clear C hu
  rcases hc with rfl | rfl | rfl | rfl | rfl | rfl | rfl | rfl | rfl | rfl
  · by_cases hl : 0 ≤ v
    · have HE : Hid (kn nk np fs nc nd 0 v = decide (v < 1)) := by show _ = _; unfold kn low top; simp [hl]
      have dl : decide (0 ≤ v) = true := by simpa using hl
      generalize kn nk np fs nc nd 0 v = res at HE ⊢
      go_enter Tryd.func61, Tryd.ntmps61
      go_wp2
      go_returns
      exact ⟨ret_bI HE.out.symm, 0, rfl⟩
    · have HE : Hid (kn nk np fs nc nd 0 v = false) := by show _ = _; unfold kn low; simp [hl]
      have dl : decide (0 ≤ v) = false := by simpa using hl
      generalize kn nk np fs nc nd 0 v = res at HE ⊢
      go_enter Tryd.func61, Tryd.ntmps61
      go_wp2
      go_returns
      exact ⟨ret_bI HE.out.symm, 0, rfl⟩
  · by_cases hl : 0 ≤ v
    · have HE : Hid (kn nk np fs nc nd 1 v = decide (v < (nk : Int))) := by show _ = _; unfold kn low top; simp [hl]
      have dl : decide (0 ≤ v) = true := by simpa using hl
      generalize kn nk np fs nc nd 1 v = res at HE ⊢
      go_enter Tryd.func61, Tryd.ntmps61
      go_wp2
      go_returns
      exact ⟨ret_bI HE.out.symm, 0, rfl⟩
    · have HE : Hid (kn nk np fs nc nd 1 v = false) := by show _ = _; unfold kn low; simp [hl]
      have dl : decide (0 ≤ v) = false := by simpa using hl
      generalize kn nk np fs nc nd 1 v = res at HE ⊢
      go_enter Tryd.func61, Tryd.ntmps61
      go_wp2
      go_returns
      exact ⟨ret_bI HE.out.symm, 0, rfl⟩
  · by_cases hl : 0 ≤ v
    · have HE : Hid (kn nk np fs nc nd 2 v = decide (v < 10)) := by show _ = _; unfold kn low top; simp [hl]
      have dl : decide (0 ≤ v) = true := by simpa using hl
      generalize kn nk np fs nc nd 2 v = res at HE ⊢
      go_enter Tryd.func61, Tryd.ntmps61
      go_wp2
      go_returns
      exact ⟨ret_bI HE.out.symm, 0, rfl⟩
    · have HE : Hid (kn nk np fs nc nd 2 v = false) := by show _ = _; unfold kn low; simp [hl]
      have dl : decide (0 ≤ v) = false := by simpa using hl
      generalize kn nk np fs nc nd 2 v = res at HE ⊢
      go_enter Tryd.func61, Tryd.ntmps61
      go_wp2
      go_returns
      exact ⟨ret_bI HE.out.symm, 0, rfl⟩
  · by_cases hl : 0 ≤ v
    · have HE : Hid (kn nk np fs nc nd 3 v = decide (v < fs)) := by show _ = _; unfold kn low top; simp [hl]
      have dl : decide (0 ≤ v) = true := by simpa using hl
      generalize kn nk np fs nc nd 3 v = res at HE ⊢
      go_enter Tryd.func61, Tryd.ntmps61
      go_wp2
      go_returns
      exact ⟨ret_bI HE.out.symm, 0, rfl⟩
    · have HE : Hid (kn nk np fs nc nd 3 v = false) := by show _ = _; unfold kn low; simp [hl]
      have dl : decide (0 ≤ v) = false := by simpa using hl
      generalize kn nk np fs nc nd 3 v = res at HE ⊢
      go_enter Tryd.func61, Tryd.ntmps61
      go_wp2
      go_returns
      exact ⟨ret_bI HE.out.symm, 0, rfl⟩
  · by_cases hl : 0 ≤ v
    · have HE : Hid (kn nk np fs nc nd 4 v = decide (v < fs - 2)) := by show _ = _; unfold kn low top; simp [hl]
      have dl : decide (0 ≤ v) = true := by simpa using hl
      generalize kn nk np fs nc nd 4 v = res at HE ⊢
      go_enter Tryd.func61, Tryd.ntmps61
      go_wp2
      go_returns
      exact ⟨ret_bI HE.out.symm, 0, rfl⟩
    · have HE : Hid (kn nk np fs nc nd 4 v = false) := by show _ = _; unfold kn low; simp [hl]
      have dl : decide (0 ≤ v) = false := by simpa using hl
      generalize kn nk np fs nc nd 4 v = res at HE ⊢
      go_enter Tryd.func61, Tryd.ntmps61
      go_wp2
      go_returns
      exact ⟨ret_bI HE.out.symm, 0, rfl⟩
  · by_cases hl : 0 ≤ v
    · have HE : Hid (kn nk np fs nc nd 5 v = decide (v < (nc : Int))) := by show _ = _; unfold kn low top; simp [hl]
      have dl : decide (0 ≤ v) = true := by simpa using hl
      generalize kn nk np fs nc nd 5 v = res at HE ⊢
      go_enter Tryd.func61, Tryd.ntmps61
      go_wp2
      go_returns
      exact ⟨ret_bI HE.out.symm, 0, rfl⟩
    · have HE : Hid (kn nk np fs nc nd 5 v = false) := by show _ = _; unfold kn low; simp [hl]
      have dl : decide (0 ≤ v) = false := by simpa using hl
      generalize kn nk np fs nc nd 5 v = res at HE ⊢
      go_enter Tryd.func61, Tryd.ntmps61
      go_wp2
      go_returns
      exact ⟨ret_bI HE.out.symm, 0, rfl⟩
  · by_cases hl : 1 ≤ v
    · have HE : Hid (kn nk np fs nc nd 6 v = decide (v < (np : Int))) := by show _ = _; unfold kn low top; simp [hl]
      have dl : decide (1 ≤ v) = true := by simpa using hl
      generalize kn nk np fs nc nd 6 v = res at HE ⊢
      go_enter Tryd.func61, Tryd.ntmps61
      go_wp2
      go_quiet (fail)
      go_wp2
      go_returns
      exact ⟨ret_bI HE.out.symm, _, rfl⟩
    · have HE : Hid (kn nk np fs nc nd 6 v = false) := by show _ = _; unfold kn low; simp [hl]
      have dl : decide (1 ≤ v) = false := by simpa using hl
      generalize kn nk np fs nc nd 6 v = res at HE ⊢
      go_enter Tryd.func61, Tryd.ntmps61
      go_wp2
      go_quiet (fail)
      go_wp2
      go_returns
      exact ⟨ret_bI HE.out.symm, _, rfl⟩
  · by_cases hl : 0 ≤ v
    · have HE : Hid (kn nk np fs nc nd 7 v = decide (v < 12)) := by show _ = _; unfold kn low top; simp [hl]
      have dl : decide (0 ≤ v) = true := by simpa using hl
      generalize kn nk np fs nc nd 7 v = res at HE ⊢
      go_enter Tryd.func61, Tryd.ntmps61
      go_wp2
      go_returns
      exact ⟨ret_bI HE.out.symm, 0, rfl⟩
    · have HE : Hid (kn nk np fs nc nd 7 v = false) := by show _ = _; unfold kn low; simp [hl]
      have dl : decide (0 ≤ v) = false := by simpa using hl
      generalize kn nk np fs nc nd 7 v = res at HE ⊢
      go_enter Tryd.func61, Tryd.ntmps61
      go_wp2
      go_returns
      exact ⟨ret_bI HE.out.symm, 0, rfl⟩
  · by_cases hl : 0 ≤ v
    · have HE : Hid (kn nk np fs nc nd 8 v = decide (v < 51)) := by show _ = _; unfold kn low top; simp [hl]
      have dl : decide (0 ≤ v) = true := by simpa using hl
      generalize kn nk np fs nc nd 8 v = res at HE ⊢
      go_enter Tryd.func61, Tryd.ntmps61
      go_wp2
      go_returns
      exact ⟨ret_bI HE.out.symm, 0, rfl⟩
    · have HE : Hid (kn nk np fs nc nd 8 v = false) := by show _ = _; unfold kn low; simp [hl]
      have dl : decide (0 ≤ v) = false := by simpa using hl
      generalize kn nk np fs nc nd 8 v = res at HE ⊢
      go_enter Tryd.func61, Tryd.ntmps61
      go_wp2
      go_returns
      exact ⟨ret_bI HE.out.symm, 0, rfl⟩
  · by_cases hl : 0 ≤ v
    · have HE : Hid (kn nk np fs nc nd 9 v = decide (v < (nd : Int))) := by show _ = _; unfold kn low top; simp [hl]
      have dl : decide (0 ≤ v) = true := by simpa using hl
      generalize kn nk np fs nc nd 9 v = res at HE ⊢
      go_enter Tryd.func61, Tryd.ntmps61
      go_wp2
      go_returns
      exact ⟨ret_bI HE.out.symm, 0, rfl⟩
    · have HE : Hid (kn nk np fs nc nd 9 v = false) := by show _ = _; unfold kn low; simp [hl]
      have dl : decide (0 ≤ v) = false := by simpa using hl
      generalize kn nk np fs nc nd 9 v = res at HE ⊢
      go_enter Tryd.func61, Tryd.ntmps61
      go_wp2
      go_returns
      exact ⟨ret_bI HE.out.symm, 0, rfl⟩
end Go.Proofs.YteagakplhfiodaaDoor.chk
