import Derived.Test.YteagakplhfiodaaDoorChkSpecC
import Derived.Deep.AppendLies
namespace Go.Proofs.YteagakplhfiodaaDoor.chk
open Go.RowKit Go.Proofs.YteagakplhfiodaaDoor.bts Go.Proofs.YteagakplhfiodaaDoor.pg

/-- The cells of lists of numbers. -/
def ic (l : List Int) : List Value := l.map (Value.int .i64)
def nc (t : List Nat) : List Value := t.map (fun n : Nat => Value.int .i64 (n : Int))
theorem ic_at {l : List Int} {i : Nat} (h : i < l.length) : (ic l)[i]? = some (.int .i64 (l.getD i (-1))) := by
  simp [ic, List.getElem?_map, List.getElem?_eq_getElem h, List.getD_eq_getElem?_getD]
theorem ic_set (l : List Int) (i : Nat) (z : Int) : ic (l.set i z) = (ic l).set i (.int .i64 z) := by
  simp [ic, List.map_set]
theorem nc_snoc (t : List Nat) (a : Nat) : nc (t ++ [a]) = nc t ++ [.int .i64 (a : Int)] := by simp [nc]

theorem info_int : (Tryd.prog.info? 3).map (fun i => (i.zero, i.size, i.bytes)) = some (some (.int .i64 0), 1, 8) := by kernel_rfl

theorem own_grown {w w' : World} {B E c g n cap : Nat} {us : List Value} {row : Option Nat} (h : w.ownsRow B E c (.slice (some ⟨g, 0, none⟩) n cap) n us) (hg : w.grownBy w' row) (hne : some g ≠ row) : w'.ownsRow B E c (.slice (some ⟨g, 0, none⟩) n cap) n us := by
  obtain ⟨h1, h2⟩ := h
  refine ⟨h1, ?_⟩
  rcases h2 with ⟨h, _⟩ | ⟨g', cap', cur, e, hb', hh, r⟩
  · simp at h
  · have e2 : g' = g := by simp at e; exact e.1.symm
    subst e2
    exact .inr ⟨g', cap', cur, e, hb', (hg.block _ (Array.getElem?_eq_some_iff.1 hh).1 hne).trans hh, r⟩

/-- The numbers and what is still to be done, in memory from block 'base' on. -/
structure Fl (w : World) (base g N : Nat) (hs : List Int) (v : Value) (t : List Nat) : Prop where
  own : w.ownsRow base 3 1 (.slice (some ⟨g, 0, none⟩) N N) N (ic hs)
  todo : w.ownsRow base 3 1 v t.length (nc t)
  apart : v.ownBlock ≠ some g
  len : hs.length = N

theorem Fl.below {w w' : World} {base g N X : Nat} {hs : List Int} {v : Value} {t : List Nat} (h : Fl w base g N hs v t) (hb : Below X w w') (hX : w.heap.size ≤ X) : Fl w' base g N hs v t := by
  refine ⟨own_below h.own hb (Nat.lt_of_lt_of_le (h.own.lt g rfl).2 hX), ?_, h.apart, h.len⟩
  obtain ⟨h1, h2⟩ := h.todo
  refine ⟨h1, ?_⟩
  rcases h2 with h0 | ⟨g', cap', cur, e, hb', hh, r⟩
  · exact .inl h0
  · exact .inr ⟨g', cap', cur, e, hb', (hb.block _ (Nat.lt_of_lt_of_le (h.todo.lt g' (by rw [e]; rfl)).2 hX)).trans hh, r⟩

set_option maxRecDepth 100000 in
set_option maxHeartbeats 2000000 in
theorem l4reach_no (base g N at_ : Nat) (n : Int) (hs : List Int) (aT : Option Addr) (cT : Nat) (t : List Nat) (w : World) (F : Fl w base g N hs (.slice aT t.length cT) t) (_ : N ≤ 1048576) (h : 300 < n ∨ reach hs t at_ n = none) :
    Calls Tryd.prog 49 #[.int .i64 at_, .int .i64 n, .slice (some ⟨g, 0, none⟩) N N, .slice aT t.length cT] w fun e w' => e = .returned (.tuple #[.slice aT t.length cT, .bool false]) ∧ Below w.heap.size w w' := by
  by_cases hat : at_ < N
  · by_cases hn : 300 < n
    · have HF : Hid (Fl w base g N hs (.slice aT t.length cT) t) := F
      have hd : decide ((N : Int) ≤ (at_ : Int)) = false := by simp; omega
      clear F h
      go_enter Tryd.func49, Tryd.ntmps49
      go_wp2
      go_returns
      exact ⟨rfl, by go_grown⟩
    · have hr := h.resolve_left hn
      have hc := F.own.cellAt at_ (by omega)
      rw [ic_at (by rw [F.len]; exact hat)] at hc
      unfold reach at hr
      rw [if_pos (by rw [F.len]; exact hat)] at hr
      by_cases hneg : hs.getD at_ (-1) < 0
      · rw [if_pos hneg] at hr; cases hr
      · rw [if_neg hneg] at hr
        have hne : ¬ hs.getD at_ (-1) = n := by intro e; rw [if_pos e] at hr; cases hr
        generalize hs.getD at_ (-1) = z at hc hneg hne
        have HF : Hid (Fl w base g N hs (.slice aT t.length cT) t) := F
        have hd : decide ((N : Int) ≤ (at_ : Int)) = false := by simp; omega
        have hd2 : decide ((300 : Int) < n) = false := by simp; omega
        have hz : (z == n) = false := by simpa using hne
        have ha : (at_ : Int) < (N : Int) := by omega
        clear F h hr
        go_enter Tryd.func49, Tryd.ntmps49
        go_wp2
        first
          | (go_returns
             exact ⟨rfl, by go_grown⟩)
          | (go_quiet (fail)
             go_wp2
             go_returns
             exact ⟨rfl, bel_drewN (Below.refl _ _) _⟩)
  · have hd : decide ((N : Int) ≤ (at_ : Int)) = true := by simp; omega
    clear F h
    go_enter Tryd.func49, Tryd.ntmps49
    go_wp2
    go_returns
    exact ⟨rfl, by go_grown⟩

set_option maxRecDepth 100000 in
set_option maxHeartbeats 2000000 in
theorem l4reach_ok (base g N at_ : Nat) (n : Int) (hs hs' : List Int) (aT : Option Addr) (cT : Nat) (t t' : List Nat) (w : World) (F : Fl w base g N hs (.slice aT t.length cT) t) (_ : N ≤ 1048576) (ht : t.length ≤ 8388608) (hn : n ≤ 300) (hb : base ≤ w.heap.size) (hr : reach hs t at_ n = some (hs', t')) :
    Calls Tryd.prog 49 #[.int .i64 at_, .int .i64 n, .slice (some ⟨g, 0, none⟩) N N, .slice aT t.length cT] w fun e w' => ∃ aT' cT', e = .returned (.tuple #[.slice aT' t'.length cT', .bool true]) ∧ Fl w' base g N hs' (.slice aT' t'.length cT') t' ∧ Below base w w' ∧ (∀ b, b < w.heap.size → b ≠ g → (Value.slice aT t.length cT).ownBlock ≠ some b → w'.heap[b]? = w.heap[b]?) := by
  obtain ⟨i0, hi, hz0, hz1, hz2⟩ := info_parts info_int
  unfold reach at hr
  by_cases hat : at_ < hs.length
  · rw [if_pos hat] at hr
    have hat' : at_ < N := by rw [← F.len]; exact hat
    have hc := F.own.cellAt at_ (by omega)
    rw [ic_at hat] at hc
    have hd : decide ((N : Int) ≤ (at_ : Int)) = false := by simp; omega
    have hd2 : decide ((300 : Int) < n) = false := by simp; omega
    have ha : (at_ : Int) < (N : Int) := by omega
    by_cases hneg : hs.getD at_ (-1) < 0
    · rw [if_pos hneg] at hr
      simp only [Option.some.injEq, Prod.mk.injEq] at hr
      obtain ⟨rfl, rfl⟩ := hr
      generalize hs.getD at_ (-1) = z at hc hneg
      have hfr := F.own.frozenAt at_
      have hst := F.own.stored at_ (.int .i64 n)
      have HST : Hid _ := hst
      have hgl := (F.own.lt g rfl)
      have HF : Hid (Fl w base g N hs (.slice aT t.length cT) t) := F
      have ho2 : (w.setCell ⟨g, at_, none⟩ (.int .i64 n)).ownsRow base 3 1 (.slice aT t.length cT) t.length (nc t) := by
        obtain ⟨h1, h2⟩ := F.todo
        refine ⟨h1, ?_⟩
        rcases h2 with h0 | ⟨g', cap', cur, e, hb', hh, r⟩
        · exact .inl h0
        · refine .inr ⟨g', cap', cur, e, hb', (Below.heap_setCell w ⟨g, at_, none⟩ _ g' (fun e2 => ?_)).trans hh, r⟩
          have e3 : g' = g := e2
          exact F.apart (by rw [e, e3]; rfl)
      have HO2 : Hid _ := ho2
      obtain ⟨m, hm⟩ : ∃ m, m = t.length := ⟨_, rfl⟩
      have HM : Hid (t.length = m) := hm.symm
      rw [← hm] at ho2 ht ⊢
      have hgB : ∀ k, (Value.slice aT m cT).ownBlock = some k → base ≤ k := fun k hk => (ho2.lt k hk).1
      clear F hst hm
      go_enter Tryd.func49, Tryd.ntmps49
      go_wp2_with (at_builtin; refine wpList_append_lies _ rfl _ _ _ rfl base 3 i0 (.int .i64 0) 1 8 Tryd.underlying79 hi hz0 hz1 hz2 rfl (by omega) _ m (nc t) rfl (ho2.alloc _) ⟨w.heap.size, 0, none⟩ 1 1 [.int .i64 (at_ : Int)] rfl rfl (World.news_of_block (cs := #[.int .i64 (at_ : Int)]) (t := 3) (fr := (0, 0)) (by have := heap_alloc_new (w.setCell ⟨g, at_, none⟩ (.int .i64 n)) (Obj.cells #[.int .i64 (at_ : Int)] 3 (0, 0)); simpa using this)) (by simp [Value.oneCell']) (by omega) (by unfold maxLen; omega) (by omega) (by simp; omega) (w.heap.size + 1) (by simp) ?_; intro g' cap' w2 hown2 hgrow hat2 hlt2)
      go_returns
      have hl2 : (t ++ [at_]).length = m + 1 := by simp [HM.out]
      refine ⟨some ⟨g', 0, none⟩, cap', by rw [hl2]; rfl, ⟨?_, ?_, ?_, ?_⟩, ?_, ?_⟩
      · rw [ic_set]
        have e : some g ≠ (Value.slice aT m cT).ownBlock := by rw [← HM.out]; exact fun e => HF.out.apart e.symm
        exact own_grown (HST.out.1.alloc _) hgrow e
      · rw [hl2, nc_snoc]; exact hown2
      · intro e
        have e2 : g' = g := by simpa [Value.ownBlock] using e
        rcases hat2 with h | h
        · have h' : (Value.slice aT m cT).ownBlock = some g' := h
          exact HF.out.apart (by rw [HM.out, h', e2])
        · omega
      · simp [HF.out.len]
      · exact (((Below.refl base w).setCell (p := ⟨g, at_, none⟩) hgl.1 _).alloc (by simpa using hb) _).grown hgrow (by simp; omega) hgB
      · intro b hbs hbg hbt
        rw [hgrow.block b (by simp; omega) (fun e => hbt e.symm), heap_alloc_old _ _ (by simp; omega)]
        exact Below.heap_setCell w ⟨g, at_, none⟩ _ b hbg
    · rw [if_neg hneg] at hr
      by_cases he : hs.getD at_ (-1) = n
      · rw [if_pos he] at hr
        simp only [Option.some.injEq, Prod.mk.injEq] at hr
        obtain ⟨rfl, rfl⟩ := hr
        rw [he] at hc hneg
        have HF : Hid (Fl w base g N hs (.slice aT t.length cT) t) := F
        clear F
        go_enter Tryd.func49, Tryd.ntmps49
        go_wp2
        first
          | (go_returns
             exact ⟨_, _, rfl, HF.out, Below.refl _ _, fun _ _ _ _ => rfl⟩)
          | (go_quiet (fail)
             go_wp2
             go_returns
             exact ⟨_, _, rfl, HF.out.below (bel_drewN (Below.refl _ _) _) (Nat.le_refl _), bel_drewN (Below.refl _ _) _, fun _ _ _ _ => rfl⟩)
      · rw [if_neg he] at hr; cases hr
  · rw [if_neg hat] at hr; cases hr
end Go.Proofs.YteagakplhfiodaaDoor.chk
