import Derived.Test.YteagakplhfiodaaDoorChkImplE
namespace Go.Proofs.YteagakplhfiodaaDoor.chk
open Go.RowKit Go.Proofs.YteagakplhfiodaaDoor.bts Go.Proofs.YteagakplhfiodaaDoor.pg

/-- A checker at work. -/
structure Fi (w : World) (base g gB N : Nat) (hs : List Int) (aT : Option Addr) (cT : Nat) (t : List Nat) (uk up uc ud : Value) (fp fs : Int) : Prop where
  ck : Ck w g uk up fp fs uc ud (.slice aT t.length cT) (.slice (some ⟨gB, 0, none⟩) N N)
  fl : Fl w base gB N hs (.slice aT t.length cT) t
  ne : gB ≠ g
  apart : (Value.slice aT t.length cT).ownBlock ≠ some g
  lo : base ≤ g

theorem Fi.below {w w' : World} {base g gB N X : Nat} {hs : List Int} {aT : Option Addr} {cT : Nat} {t : List Nat} {uk up uc ud : Value} {fp fs : Int} (h : Fi w base g gB N hs aT cT t uk up uc ud fp fs) (hb : Below X w w') (hX : w.heap.size ≤ X) : Fi w' base g gB N hs aT cT t uk up uc ud fp fs :=
  ⟨h.ck.below hb (Nat.lt_of_lt_of_le h.ck.lt hX), h.fl.below hb hX, h.ne, h.apart, h.lo⟩

set_option maxRecDepth 100000 in
set_option maxHeartbeats 2000000 in
theorem reachI_no (base g gB N at_ : Nat) (n : Int) (hs : List Int) (aT : Option Addr) (cT : Nat) (t : List Nat) (uk up uc ud : Value) (fp fs : Int) (w : World) (F : Fi w base g gB N hs aT cT t uk up uc ud fp fs) (_ : N ≤ 1048576) (h : reach hs t at_ n = none) :
    Calls Tryd.prog 64 #[.pointer (some ⟨g, 0, none⟩), .int .i64 at_, .int .i64 n] w fun e w' => e = .returned (.bool false) ∧ Below w.heap.size w w' := by
  have c7 := F.ck.at 7 _ rfl
  by_cases hat : at_ < N
  · have hc := F.fl.own.cellAt at_ (by omega)
    rw [ic_at (by rw [F.fl.len]; exact hat)] at hc
    unfold reach at h
    rw [if_pos (by rw [F.fl.len]; exact hat)] at h
    by_cases hneg : hs.getD at_ (-1) < 0
    · rw [if_pos hneg] at h; cases h
    · rw [if_neg hneg] at h
      have hne : ¬ hs.getD at_ (-1) = n := by intro e; rw [if_pos e] at h; cases h
      generalize hs.getD at_ (-1) = z at hc hneg hne
      have hd : decide ((N : Int) ≤ (at_ : Int)) = false := by simp; omega
      have hz : (z == n) = false := by simpa using hne
      have ha : (at_ : Int) < (N : Int) := by omega
      clear F h
      go_enter Tryd.func64, Tryd.ntmps64
      go_wp2
      first
        | (go_returns
           exact ⟨rfl, by go_grown⟩)
        | (go_quiet (fail)
           go_wp2
           go_returns
           exact ⟨rfl, bel_drewN (Below.refl _ _) _⟩)
  · have hd : decide ((N : Int) ≤ (at_ : Int)) = true := by simp; omega
    clear F h
    go_enter Tryd.func64, Tryd.ntmps64
    go_wp2
    go_returns
    exact ⟨rfl, by go_grown⟩

set_option maxRecDepth 100000 in
set_option maxHeartbeats 2000000 in
theorem reachI_ok (base g gB N at_ : Nat) (n : Int) (hs hs' : List Int) (aT : Option Addr) (cT : Nat) (t t' : List Nat) (uk up uc ud : Value) (fp fs : Int) (w : World) (F : Fi w base g gB N hs aT cT t uk up uc ud fp fs) (_ : N ≤ 1048576) (ht : t.length ≤ 8388608) (hb : base ≤ w.heap.size) (hr : reach hs t at_ n = some (hs', t')) :
    Calls Tryd.prog 64 #[.pointer (some ⟨g, 0, none⟩), .int .i64 at_, .int .i64 n] w fun e w' => e = .returned (.bool true) ∧ ∃ aT' cT', Fi w' base g gB N hs' aT' cT' t' uk up uc ud fp fs ∧ Below base w w' ∧ (∀ b, b < w.heap.size → b ≠ g → b ≠ gB → (Value.slice aT t.length cT).ownBlock ≠ some b → w'.heap[b]? = w.heap[b]?) := by
  have c7 := F.ck.at 7 _ rfl
  unfold reach at hr
  by_cases hat : at_ < hs.length
  · rw [if_pos hat] at hr
    have hat' : at_ < N := by rw [← F.fl.len]; exact hat
    have hc := F.fl.own.cellAt at_ (by omega)
    rw [ic_at hat] at hc
    have hd : decide ((N : Int) ≤ (at_ : Int)) = false := by simp; omega
    have ha : (at_ : Int) < (N : Int) := by omega
    by_cases hneg : hs.getD at_ (-1) < 0
    · rw [if_pos hneg] at hr
      simp only [Option.some.injEq, Prod.mk.injEq] at hr
      obtain ⟨rfl, rfl⟩ := hr
      generalize hs.getD at_ (-1) = z at hc hneg
      have hfr := F.fl.own.frozenAt at_
      have HF : Hid (Fi w base g gB N hs aT cT t uk up uc ud fp fs) := F
      have hst := F.fl.own.stored at_ (.int .i64 n)
      obtain ⟨W1, hW1⟩ : ∃ W1, W1 = w.setCell ⟨gB, at_, none⟩ (.int .i64 n) := ⟨_, rfl⟩
      have hk1 : ∀ b, b ≠ gB → W1.heap[b]? = w.heap[b]? := fun b hb => by rw [hW1]; exact Below.heap_setCell w ⟨gB, at_, none⟩ _ b hb
      have C1 : Ck W1 g uk up fp fs uc ud (.slice aT t.length cT) (.slice (some ⟨gB, 0, none⟩) N N) := F.ck.block (hk1 g (fun e => F.ne e.symm))
      have O1 : W1.ownsRow base 3 1 (.slice aT t.length cT) t.length (nc t) := own_block F.fl.todo (fun b hb => hk1 b (fun e => F.fl.apart (by rw [hb, e])))
      have hsz : W1.heap.size = w.heap.size := by rw [hW1]; simp
      have OW1 : Hid (W1.ownsRow base 3 1 (.slice (some ⟨gB, 0, none⟩) N N) N (ic (hs.set at_ n))) := by show World.ownsRow _ _ _ _ _ _ _; rw [hW1, ic_set]; exact hst.1
      have A := add_any base g t.length cT at_ aT t uk up uc ud _ fp fs W1 C1 O1 F.apart ht (by omega) F.lo
      have hgl := F.fl.own.lt gB rfl
      have HK1 : Hid (∀ b, b ≠ gB → W1.heap[b]? = w.heap[b]?) := hk1
      have HB1 : Hid (Below base w W1) := by rw [hW1]; exact (Below.refl _ _).setCell (p := ⟨gB, at_, none⟩) hgl.1 _
      have HW1 : Hid (W1 = w.setCell ⟨gB, at_, none⟩ (.int .i64 n)) := hW1
      have HS : Hid (W1.heap.size = w.heap.size) := hsz
      clear F hst C1 O1 hk1 hW1 hsz
      go_enter Tryd.func64, Tryd.ntmps64
      go_wp2_with fail
      rw [← HW1.out]
      refine A.mono ?_
      rintro e w2 ⟨⟨v, rfl⟩, g', cap', C2, O2, hg', hat2, hk2, hb2⟩
      clear A
      have hown2 : w2.ownsRow base 3 1 (.slice (some ⟨gB, 0, none⟩) N N) N (ic (hs.set at_ n)) := own_block OW1.out (fun b hb => by
        have e : gB = b := by simpa [Value.ownBlock] using hb
        subst e
        exact hk2 gB (by rw [HS.out]; exact hgl.2) HF.out.ne (fun e => HF.out.fl.apart e))
      have d7 := C2.at 7 _ rfl
      have dc := hown2.cellAt at_ (by omega)
      rw [ic_at (by simp; exact hat), getD_set_self hat] at dc
      have hl2 : (t ++ [at_]).length = t.length + 1 := by simp
      have FIN : Hid (Fi w2 base g gB N (hs.set at_ n) (some ⟨g', 0, none⟩) cap' (t ++ [at_]) uk up uc ud fp fs ∧ Below base w w2 ∧ (∀ b, b < w.heap.size → b ≠ g → b ≠ gB → (Value.slice aT t.length cT).ownBlock ≠ some b → w2.heap[b]? = w.heap[b]?)) := by
        refine ⟨⟨by rw [hl2]; exact C2, ⟨hown2, by rw [hl2, nc_snoc]; exact O2, ?_, by simp [HF.out.fl.len]⟩, HF.out.ne, ?_, HF.out.lo⟩, HB1.out.trans hb2, fun b h1 h2 h3 h4 => (hk2 b (by rw [HS.out]; exact h1) h2 h4).trans (HK1.out b h3)⟩
        · intro e
          have e2 : g' = gB := by simpa [Value.ownBlock] using e
          rcases hat2 with h | h
          · exact HF.out.fl.apart (by rw [h, e2])
          · have := HS.out; have := hgl.2; omega
        · intro e
          have e2 : g' = g := by simpa [Value.ownBlock] using e
          exact hg' e2
      clear C2 O2 hat2 hk2 hb2 hown2
      go_wp2_with fail
      first
        | (go_returns
           exact ⟨rfl, _, _, FIN.out⟩)
        | (go_quiet (fail)
           go_wp2
           go_returns
           exact ⟨rfl, _, _, FIN.out.1.below (bel_drewN (Below.refl _ _) _) (Nat.le_refl _), FIN.out.2.1.trans (bel_drewN (Below.refl _ _) _), FIN.out.2.2⟩)
    · rw [if_neg hneg] at hr
      by_cases he : hs.getD at_ (-1) = n
      · rw [if_pos he] at hr
        simp only [Option.some.injEq, Prod.mk.injEq] at hr
        obtain ⟨rfl, rfl⟩ := hr
        rw [he] at hc hneg
        have HF : Hid (Fi w base g gB N hs aT cT t uk up uc ud fp fs) := F
        clear F
        go_enter Tryd.func64, Tryd.ntmps64
        go_wp2
        first
          | (go_returns
             first
               | exact ⟨rfl, _, _, HF.out, Below.refl _ _, fun _ _ _ _ _ => rfl⟩
               | exact ⟨rfl, ⟨_, _, HF.out⟩, Below.refl _ _, fun _ _ _ _ _ => rfl⟩)
          | (go_quiet (fail)
             go_wp2
             go_returns
             exact ⟨rfl, _, _, HF.out.below (bel_drewN (Below.refl _ _) _) (Nat.le_refl _), bel_drewN (Below.refl _ _) _, fun _ _ _ _ _ => rfl⟩)
      · rw [if_neg he] at hr; cases hr
  · rw [if_neg hat] at hr; cases hr
end Go.Proofs.YteagakplhfiodaaDoor.chk
