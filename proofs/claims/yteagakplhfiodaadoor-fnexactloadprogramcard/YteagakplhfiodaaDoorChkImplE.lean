import Derived.Test.YteagakplhfiodaaDoorChkImplC
import Derived.Test.YteagakplhfiodaaDoorChkReach
namespace Go.Proofs.YteagakplhfiodaaDoor.chk
open Go.RowKit Go.Proofs.YteagakplhfiodaaDoor.bts Go.Proofs.YteagakplhfiodaaDoor.pg

theorem Ck.set6 {w : World} {g : Nat} {uk up uc ud vT vB : Value} {fp fs : Int} (h : Ck w g uk up fp fs uc ud vT vB) (v : Value) : Ck (w.setCell ⟨g, 6, none⟩ v) g uk up fp fs uc ud v vB := by
  have h1 : Lone 83 8 w g [uk, up, .int .i64 fp, .int .i64 fs, uc, ud, vT, vB] := Lone.of h rfl
  exact Lone.back (h1.set 6 v)
theorem Ck.set7 {w : World} {g : Nat} {uk up uc ud vT vB : Value} {fp fs : Int} (h : Ck w g uk up fp fs uc ud vT vB) (v : Value) : Ck (w.setCell ⟨g, 7, none⟩ v) g uk up fp fs uc ud vT v := by
  have h1 : Lone 83 8 w g [uk, up, .int .i64 fp, .int .i64 fs, uc, ud, vT, vB] := Lone.of h rfl
  exact Lone.back (h1.set 7 v)
theorem Ck.block {w w' : World} {g : Nat} {uk up uc ud vT vB : Value} {fp fs : Int} (h : Ck w g uk up fp fs uc ud vT vB) (e : w'.heap[g]? = w.heap[g]?) : Ck w' g uk up fp fs uc ud vT vB := e.trans h

/-- An owned row is kept where its block is. -/
theorem own_block {w w' : World} {B E c n : Nat} {v : Value} {us : List Value} (h : w.ownsRow B E c v n us) (hk : ∀ b, v.ownBlock = some b → w'.heap[b]? = w.heap[b]?) : w'.ownsRow B E c v n us := by
  obtain ⟨h1, h2⟩ := h
  refine ⟨h1, ?_⟩
  rcases h2 with h | ⟨g', cap', cur, e, hb', hh, r⟩
  · exact .inl h
  · exact .inr ⟨g', cap', cur, e, hb', (hk g' (by rw [e]; rfl)).trans hh, r⟩

set_option maxRecDepth 100000 in
set_option maxHeartbeats 2000000 in
theorem add_any (base g m cT item : Nat) (aT : Option Addr) (t : List Nat) (uk up uc ud vB : Value) (fp fs : Int) (w : World) (C : Ck w g uk up fp fs uc ud (.slice aT m cT) vB)
    (ho : w.ownsRow base 3 1 (.slice aT m cT) m (nc t)) (hne : (Value.slice aT m cT).ownBlock ≠ some g) (hm : m ≤ 8388608) (hb : base ≤ w.heap.size) (hbg : base ≤ g) :
    Calls Tryd.prog 70 #[.pointer (some ⟨g, 6, none⟩), .int .i64 item] w fun e w' => (∃ v, e = .returned v) ∧ ∃ g' cap', Ck w' g uk up fp fs uc ud (.slice (some ⟨g', 0, none⟩) (m + 1) cap') vB ∧ w'.ownsRow base 3 1 (.slice (some ⟨g', 0, none⟩) (m + 1) cap') (m + 1) (nc t ++ [.int .i64 (item : Int)]) ∧
      g' ≠ g ∧ ((Value.slice aT m cT).ownBlock = some g' ∨ w.heap.size ≤ g') ∧ (∀ b, b < w.heap.size → b ≠ g → (Value.slice aT m cT).ownBlock ≠ some b → w'.heap[b]? = w.heap[b]?) ∧ Below base w w' := by
  obtain ⟨i0, hi, hz0, hz1, hz2⟩ := info_parts info_int
  have c6 := C.at 6 _ rfl
  have hgl := C.lt
  have HC : Hid (Ck w g uk up fp fs uc ud (.slice aT m cT) vB) := C
  have hfr := C.free 6
  have hgB : ∀ k, (Value.slice aT m cT).ownBlock = some k → base ≤ k := fun k hk => (ho.lt k hk).1
  clear C
  go_enter Tryd.func70, Tryd.ntmps70
  go_wp2_with (at_builtin; refine wpList_append_lies _ rfl _ _ _ rfl base 3 i0 (.int .i64 0) 1 8 Tryd.underlying79 hi hz0 hz1 hz2 rfl (by omega) _ m (nc t) rfl (ho.alloc _) ⟨w.heap.size, 0, none⟩ 1 1 [.int .i64 (item : Int)] rfl rfl (World.news_of_block (cs := #[.int .i64 (item : Int)]) (t := 3) (fr := (0, 0)) (by have := heap_alloc_new w (Obj.cells #[.int .i64 (item : Int)] 3 (0, 0)); simpa using this)) (by simp [Value.oneCell']) (by omega) (by unfold maxLen; omega) (by omega) (by simp; omega) (w.heap.size + 1) (by simp) ?_; intro g' cap' w2 hown2 hgrow hat2 hlt2; have HK2 := hgrow.block g (by simp; omega) (fun e => hne e.symm); have C2 := HC.out.block (HK2.trans (heap_alloc_old _ _ hgl)); have d6 := C2.at 6 _ rfl; have dfr := C2.free 6)
  go_returns
  have hg' : g' ≠ g := by
    intro e
    rcases hat2 with h | h
    · exact hne (by rw [← e]; exact h)
    · omega
  refine ⟨⟨_, rfl⟩, g', cap', C2.set6 _, ?_, hg', ?_, ?_, ?_⟩
  · refine own_block hown2 (fun b hb => ?_)
    have e : g' = b := by simpa [Value.ownBlock] using hb
    subst e
    exact Below.heap_setCell w2 ⟨g, 6, none⟩ _ g' hg'
  · rcases hat2 with h | h
    · exact .inl h
    · exact .inr (by omega)
  · intro b hb1 hb2 hb3
    rw [Below.heap_setCell w2 ⟨g, 6, none⟩ _ b hb2, hgrow.block b (by simp; omega) (fun e => hb3 e.symm), heap_alloc_old _ _ hb1]
  · exact (((Below.refl base w).alloc hb _).grown hgrow (by simp; omega) hgB).setCell (p := ⟨g, 6, none⟩) hbg _
end Go.Proofs.YteagakplhfiodaaDoor.chk
