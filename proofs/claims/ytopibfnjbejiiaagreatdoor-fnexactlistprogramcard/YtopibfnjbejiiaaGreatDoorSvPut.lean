import Derived.Test.YtopibfnjbejiiaaGreatDoorSvApp
import Derived.Test.YtopibfnjbejiiaaGreatDoorPgMark
namespace Go.Proofs.YtopibfnjbejiiaaGreatDoor.sv
open Go.RowKit Go.Proofs.YtopibfnjbejiiaaGreatDoor.bts Go.Proofs.YtopibfnjbejiiaaGreatDoor.pg Go.Proofs.YtopibfnjbejiiaaGreatDoor.chk

/-- The writer at block g has written these bytes; it owns them, behind its own block. -/
def Wr (w : World) (g : Nat) (zs : List Int) : Prop :=
  ∃ av cv, w.heap[g]? = some (.cells #[.slice av zs.length cv] 58 (0, 0)) ∧ w.ownsRow (g + 1) 5 1 (.slice av zs.length cv) zs.length (bcells zs)

theorem Wr.lt {w : World} {g : Nat} {zs : List Int} (h : Wr w g zs) : g < w.heap.size := by
  obtain ⟨_, _, h, _⟩ := h
  exact heap_lt h
theorem Wr.keep {w w' : World} {g : Nat} {zs : List Int} (h : Wr w g zs) (hb : Below w.heap.size w w') : Wr w' g zs := by
  have hl := h.lt
  obtain ⟨av, cv, h1, h2⟩ := h
  refine ⟨av, cv, (hb.block g hl).trans h1, ?_⟩
  obtain ⟨h3, h4⟩ := h2
  refine ⟨h3, ?_⟩
  rcases h4 with h | ⟨g', cap', cur, e, hb', hh, r⟩
  · exact .inl h
  · exact .inr ⟨g', cap', cur, e, hb', (hb.block g' (heap_lt hh)).trans hh, r⟩
theorem Wr.alloc {w : World} {g : Nat} {zs : List Int} (h : Wr w g zs) (o : Obj) : Wr (w.alloc o) g zs := h.keep ((Below.refl _ _).alloc (Nat.le_refl _) o)
theorem Wr.to {w : World} {g : Nat} {zs ys : List Int} (h : Wr w g zs) (e : zs = ys) : Wr w g ys := e ▸ h

theorem rdv_rd {w : World} {a : Option Addr} {c : Nat} {zs : List Int} (h : RdV w (.slice a zs.length c) zs) : Rd w a zs := by
  obtain ⟨_, _, e, _, h, _⟩ := h
  simp only [Value.slice.injEq] at e
  obtain ⟨rfl, -, rfl⟩ := e
  exact h
theorem cellL {w w' : World} {g b o : Nat} {v : Value} (h : w.cell? ⟨b, o, none⟩ = some v) (hb : Below g w w') (hg : b < g) : w'.cell? ⟨b, o, none⟩ = some v := (hb.cell (p := ⟨b, o, none⟩) hg).trans h

/-- The writer's bytes lie in block b. -/
def Out (w : World) (g b : Nat) : Prop := ∃ n cv, w.heap[g]? = some (.cells #[.slice (some ⟨b, 0, none⟩) n cv] 58 (0, 0))
/-- Nothing has turned but the writer and its bytes. -/
structure Fr (g : Nat) (w w' : World) : Prop where
  below : Below g w w'
  keep : ∀ b, b < w.heap.size → b ≠ g → ¬ Out w g b → w'.heap[b]? = w.heap[b]? ∧ ¬ Out w' g b
theorem Fr.refl (g : Nat) (w : World) : Fr g w w := ⟨Below.refl _ _, fun _ _ _ h => ⟨rfl, h⟩⟩
theorem Fr.trans {g : Nat} {a b c : World} (h : Fr g a b) (k : Fr g b c) : Fr g a c :=
  ⟨h.below.trans k.below, fun x hx hg ho => by
    obtain ⟨h1, h2⟩ := h.keep x hx hg ho
    obtain ⟨k1, k2⟩ := k.keep x (Nat.lt_of_lt_of_le hx h.below.size) hg h2
    exact ⟨k1.trans h1, k2⟩⟩
theorem Fr.grown {g : Nat} {a b c : World} (h : Fr g a b) (hg : g < b.heap.size) (k : Below b.heap.size b c) : Fr g a c :=
  h.trans ⟨k.mono (by omega), fun x hx _ ho => ⟨k.block x hx, fun ⟨n, cv, e⟩ => ho ⟨n, cv, (k.block g hg).symm.trans e⟩⟩⟩
theorem Fr.alloc {g : Nat} {a b : World} (h : Fr g a b) (hg : g < b.heap.size) (o : Obj) : Fr g a (b.alloc o) := h.grown hg ((Below.refl _ _).alloc (Nat.le_refl _) o)
theorem Wr.out {w : World} {g b : Nat} {zs : List Int} (h : Wr w g zs) (hb : w.heap.size ≤ b) : ¬ Out w g b := by
  rintro ⟨n, cv, e⟩
  obtain ⟨av, cv', h1, h2⟩ := h
  rw [h1] at e
  simp only [Option.some.injEq, Obj.cells.injEq, Array.mk.injEq, List.cons.injEq, Value.slice.injEq, and_true] at e
  obtain ⟨rfl, _, _⟩ := e
  have := (h2.lt b rfl).2
  omega
/-- A cell of a block that is not the writer's stays. -/
theorem Fr.cell {g b o : Nat} {w w' : World} {v : Value} (h : Fr g w w') (hb : b ≠ g) (ho : ¬ Out w g b) (hc : w.cell? ⟨b, o, none⟩ = some v) : w'.cell? ⟨b, o, none⟩ = some v :=
  (World.cell?_of_block (a := ⟨b, o, none⟩) (h.keep b (World.block_lt_of_cell? _ _ hc) hb ho).1).trans hc

theorem own_far {w w' : World} {B E c n : Nat} {v : Value} {us : List Value} (h : w.ownsRow B E c v n us) (hk : ∀ b, v.ownBlock = some b → w'.heap[b]? = w.heap[b]?) : w'.ownsRow B E c v n us := by
  obtain ⟨h1, h2⟩ := h
  refine ⟨h1, ?_⟩
  rcases h2 with h | ⟨g', cap', cur, e, hb', hh, r⟩
  · exact .inl h
  · exact .inr ⟨g', cap', cur, e, hb', (hk g' (by rw [e]; rfl)).trans hh, r⟩

theorem rd_one (w : World) (z : Int) : Rd (w.alloc (.cells #[.int .u8 z] 5)) (some ⟨w.heap.size, 0, none⟩) [z] := by
  intro i hi
  obtain rfl : i = 0 := by simpa using hi
  exact ⟨w.heap.size, 0, rfl, cellNew rfl⟩

set_option maxRecDepth 100000 in
set_option maxHeartbeats 1000000 in
theorem put_any (g : Nat) (ao : Option Addr) (m cap : Nat) (ys zs : List Int) (w : World) (W : Wr w g zs) (hl : ys.length = m) (hr : Rd w ao ys) (hb : zs.length + m ≤ 140737488355328) :
    Calls Tryz.prog 45 #[.pointer (some ⟨g, 0, none⟩), .slice ao m cap] w fun e w' => (∃ v, e = .returned v) ∧ Wr w' g (zs ++ ys) ∧ Fr g w w' := by
  have hgl := W.lt
  obtain ⟨av, cv, hc, ho⟩ := W
  have c0 : w.cell? ⟨g, 0, none⟩ = some (.slice av zs.length cv) := by
    have := cell_of_row w g 0 #[.slice av zs.length cv] 58 (0, 0) hc
    simpa using this
  have HO : Hid (w.ownsRow (g + 1) 5 1 (.slice av zs.length cv) zs.length (bcells zs)) := ho
  have HC : Hid (w.heap[g]? = some (.cells #[.slice av zs.length cv] 58 (0, 0))) := hc
  have HL : Hid (ys.length = m) := hl
  have HR : Hid (Rd w ao ys) := hr
  obtain ⟨n, hn⟩ : ∃ n, n = zs.length := ⟨_, rfl⟩
  have HN : Hid (zs.length = n) := hn.symm
  rw [← hn] at c0 HO HC hb
  clear hn ho hc hl hr
  go_enter Tryz.func45, Tryz.ntmps45
  go_wp2_with (at_builtin; refine wpList_append_bytes rfl _ _ rfl (g + 1) av n cv zs rfl HO.out ao m cap ys rfl HL.out HR.out hb (by omega) ?_; intro av' cv' w2 hA; have HA : Hid (App w (g + 1) av n cv (zs ++ ys) av' (n + m) cv' w2) := hA; have hg2 : w2.heap[g]? = some (.cells #[.slice av n cv] 58 (0, 0)) := (hA.grow.block g hgl (fun e => by have := (HO.out.lt g e.symm).1; omega)).trans HC.out; have d0 : w2.cell? ⟨g, 0, none⟩ = some (.slice av n cv) := (by have := cell_of_row w2 g 0 #[.slice av n cv] 58 (0, 0) hg2; simpa using this); have df : w2.frozen? ⟨g, 0, none⟩ = false := Lone.free (xs := [.slice av n cv]) (Lone.of hg2 rfl) 0; have HG2 : Hid (w2.heap[g]? = some (.cells #[.slice av n cv] 58 (0, 0))) := hg2; clear hA hg2)
  go_returns
  refine ⟨⟨_, rfl⟩, ⟨av', cv', ?_, ?_⟩, ?_⟩
  · have h1 : Lone 58 1 w2 g [.slice av n cv] := Lone.of HG2.out rfl
    have h2 := Lone.back (h1.set 0 (.slice av' (n + m) cv'))
    rw [List.length_append, HN.out, HL.out]
    exact h2
  · have h3 := HA.out.own
    rw [List.length_append, HN.out, HL.out]
    refine own_far h3 (fun b hb => ?_)
    have hb2 := (h3.lt b hb).1
    exact Below.heap_setCell w2 ⟨g, 0, none⟩ _ b (by show b ≠ g; omega)
  · refine ⟨((HA.out.below HO.out (by omega)).mono (show g ≤ g + 1 by omega)).setCell (p := ⟨g, 0, none⟩) (Nat.le_refl _) _, fun b hb hbg ho => ⟨?_, ?_⟩⟩
    · rw [Below.heap_setCell w2 ⟨g, 0, none⟩ _ b hbg]
      refine HA.out.grow.block b hb (fun e => ho ?_)
      rcases HO.out.2 with ⟨h, _⟩ | ⟨g', cap', cur, h, _⟩
      · rw [h] at e; cases e
      · rw [h] at e
        cases e
        rw [h] at HC
        exact ⟨_, _, HC.out⟩
    · rintro ⟨n', cv2, e⟩
      have h1 : Lone 58 1 w2 g [.slice av n cv] := Lone.of HG2.out rfl
      have h2 := Lone.back (h1.set 0 (.slice av' (n + m) cv'))
      rw [h2] at e
      simp only [List.set_cons_zero, Option.some.injEq, Obj.cells.injEq, Array.mk.injEq, List.cons.injEq, Value.slice.injEq, and_true] at e
      obtain ⟨rfl, _, _⟩ := e
      rcases HA.out.lies with ⟨e1, _⟩ | ⟨g', e1, h | h⟩
      · exact ho ⟨n, cv, by rw [e1]; exact HC.out⟩
      · simp only [Option.some.injEq, Addr.mk.injEq, and_true] at e1
        subst e1
        rcases HO.out.2 with ⟨h', _⟩ | ⟨g', cap', cur, h', _⟩
        · rw [h'] at h; cases h
        · rw [h'] at h
          cases h
          rw [h'] at HC
          exact ho ⟨_, _, HC.out⟩
      · simp only [Option.some.injEq, Addr.mk.injEq, and_true] at e1
        omega

end Go.Proofs.YtopibfnjbejiiaaGreatDoor.sv
