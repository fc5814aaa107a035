import Derived.Test.YteagakplhfiodaaDoorChkImplG
import Derived.Test.YteagakplhfiodaaDoorChkLaw
import Derived.Test.YteagakplhfiodaaDoorChkRep
import Derived.RangeFuncFrom
import Derived.Shelf.Abstract
import Derived.Shelf.RegionOpen
import Derived.WalkKit
import Derived.OwnWalkIn
import Derived.TacticsInMore
import Derived.LoopNIn
import Derived.LoopIn
import Derived.Deep.LoopGhost
namespace Go.Proofs.YteagakplhfiodaaDoor.chk
open Go.RowKit Go.Shelf Go.Proofs.YteagakplhfiodaaDoor.bts Go.Proofs.YteagakplhfiodaaDoor.pg
attribute [local go_sem] Oper.semAt_some

/-- The flow at a world, so many steps at most to come: the worklist's box, the state, what lay before. -/
structure Rs (base g gB Bw : Nat) (w0 : World) (code : List In) (uk up uc ud : Value) (fp fs : Int) (k : Nat) (W : World) (hs : List Int) (aT : Option Addr) (cT : Nat) (t : List Nat) : Prop where
  fi : Fi W base g gB code.length hs aT cT t uk up uc ud fp fs
  le : left hs t ≤ k
  top : k ≤ 2 * code.length + 1
  low : Below base w0 W
  kt : KT g w0 W
  box : w0.heap[Bw]? = some (.cells #[.pointer (some ⟨g, 6, none⟩)] 130 (0, 0))
  ne : Bw ≠ g

/-- The same, between two rounds. -/
def Qs (base g gB Bw : Nat) (w0 : World) (code : List In) (uk up uc ud : Value) (fp fs : Int) (Bk : World → Prop) (k : Nat) (W : World) : Prop :=
  ∃ hs aT cT t, Rs base g gB Bw w0 code uk up uc ud fp fs k W hs aT cT t ∧ Inv (suT code) code.length hs t ∧ Bk W

theorem Rs.pop {base g gB Bw : Nat} {w0 : World} {code : List In} {uk up uc ud : Value} {fp fs : Int} {k : Nat} {W : World} {hs : List Int} {gT cT a : Nat} {t : List Nat}
    (R : Rs base g gB Bw w0 code uk up uc ud fp fs k W hs (some ⟨gT, 0, none⟩) cT (t ++ [a])) : Rs base g gB Bw w0 code uk up uc ud fp fs k (W.setCell ⟨g, 6, none⟩ (.slice (some ⟨gT, 0, none⟩) t.length cT)) hs (some ⟨gT, 0, none⟩) cT t := by
  have hll : (t ++ [a]).length = t.length + 1 := by simp
  have hF := R.fi
  have hfl := hF.fl
  rw [hll] at hfl
  have F1 := hfl.shrink
  have hap := hF.apart
  have hgT : gT ≠ g := fun e => hap (by rw [e]; rfl)
  refine ⟨⟨hF.ck.set6 _, ⟨?_, ?_, F1.apart, F1.len⟩, hF.ne, fun e => hgT (by simpa [Value.ownBlock] using e), hF.lo⟩, ?_, R.top, ?_, ?_, R.box, R.ne⟩
  · exact own_block F1.own (fun b hb => by
      have e : gB = b := by simpa [Value.ownBlock] using hb
      subst e
      exact Below.heap_setCell W ⟨g, 6, none⟩ _ gB hF.ne)
  · exact own_block F1.todo (fun b hb => by
      have e : gT = b := by simpa [Value.ownBlock] using hb
      subst e
      exact Below.heap_setCell W ⟨g, 6, none⟩ _ gT hgT)
  · have := R.le
    rw [left_pop] at this
    omega
  · exact R.low.setCell (p := ⟨g, 6, none⟩) hF.lo _
  · exact R.kt.trans ⟨by simp, fun b o ho _ hg => (Below.heap_setCell W ⟨g, 6, none⟩ _ b hg).trans ho⟩

theorem Rs.drew {base g gB Bw : Nat} {w0 : World} {code : List In} {uk up uc ud : Value} {fp fs : Int} {k : Nat} {W : World} {hs : List Int} {aT : Option Addr} {cT : Nat} {t : List Nat}
    (R : Rs base g gB Bw w0 code uk up uc ud fp fs k W hs aT cT t) : Rs base g gB Bw w0 code uk up uc ud fp fs k W.drew hs aT cT t :=
  ⟨R.fi.below (Below.drew (Below.refl W.heap.size _)) (Nat.le_refl _), R.le, R.top, Below.drew R.low, R.kt.trans (ko_below (Below.drew (Below.refl _ _))), R.box, R.ne⟩

theorem Rs.boxed {base g gB Bw : Nat} {w0 : World} {code : List In} {uk up uc ud : Value} {fp fs : Int} {k : Nat} {W : World} {hs : List Int} {aT : Option Addr} {cT : Nat} {t : List Nat}
    (R : Rs base g gB Bw w0 code uk up uc ud fp fs k W hs aT cT t) : W.cell? ⟨Bw, 0, none⟩ = some (.pointer (some ⟨g, 6, none⟩)) := by
  have h := R.kt.2 Bw _ R.box (by intro cur e; cases e) R.ne
  simp only [World.cell?, h]
  rfl

set_option maxRecDepth 100000 in
set_option maxHeartbeats 4000000 in
theorem all1_in (n : Nat) (hn : 1 ≤ n) (base g gB Bw B : Nat) (w0 : World) (code : List In) (uk up uc ud : Value) (fp fs : Int) (_ : g < B) (hN : code.length ≤ 1048576) (X : World → Prop) :
    SeqSt (α := Nat × List Int × List Nat × Nat) Fence.wide n Tryd.prog 71 #[.pointer (some ⟨Bw, 0, none⟩)] (fun x => #[.int .i64 x.1]) B
      (fun W => ∃ k hs aT cT t, Rs base g gB Bw w0 code uk up uc ud fp fs k W hs aT cT t ∧ Inv (suT code) code.length hs t)
      (fun x W => ∃ aT cT, Rs base g gB Bw w0 code uk up uc ud fp fs x.2.2.2 W x.2.1 aT cT x.2.2.1 ∧ Inv (suT code) code.length x.2.1 (x.2.2.1 ++ [x.1]) ∧ left x.2.1 (x.2.2.1 ++ [x.1]) ≤ x.2.2.2)
      (fun x W => ∃ k hs aT cT t, k < x.2.2.2 ∧ Rs base g gB Bw w0 code uk up uc ud fp fs k W hs aT cT t ∧ Inv (suT code) code.length hs t)
      X
      (fun W => ∃ k hs aT cT, Rs base g gB Bw w0 code uk up uc ud fp fs k W hs aT cT [] ∧ Inv (suT code) code.length hs []) := by
  intro l Bk Bx hBk hY W ⟨k0, hs0, aT0, cT0, t0, R0, I0⟩ hB0
  refine callsIn_of_wp Tryd.func71 rfl trivial ?_ rfl
  simp only [Tryd.ntmps71, List.size_toArray, List.length_cons, List.length_nil, Nat.reduceAdd, Nat.reduceSub, Array.replicate_succ, Array.replicate_zero, List.push_toArray, List.append_toArray, List.nil_append, List.cons_append]
  gi_wp2
  gi_loopw [3] (fun _ wr => ∃ k, Qs base g gB Bw w0 code uk up uc ud fp fs Bk k wr) (fun _ wr => leastOf (fun k => Qs base g gB Bw w0 code uk up uc ud fp fs Bk k wr))
  case atStart => exact ⟨k0, hs0, aT0, cT0, t0, R0, I0, hB0⟩
  case round =>
    clear R0 I0 hB0
    have sp := leastOf_spec hrel
    have HLEAST : Hid (∀ W' k', Qs base g gB Bw w0 code uk up uc ud fp fs Bk k' W' → leastOf (fun k => Qs base g gB Bw w0 code uk up uc ud fp fs Bk k W') ≤ k') := fun W' k' h => (leastOf_spec ⟨k', h⟩).2 k' h
    obtain ⟨k, hk⟩ : ∃ k, k = leastOf (fun k => Qs base g gB Bw w0 code uk up uc ud fp fs Bk k wr) := ⟨_, rfl⟩
    have HKL : Hid (leastOf (fun k => Qs base g gB Bw w0 code uk up uc ud fp fs Bk k wr) = k) := hk.symm
    rw [← hk] at sp
    obtain ⟨⟨hs, aT, cT, t, R, I, hB⟩, _⟩ := sp
    clear hrel hk
    have HR : Hid _ := R
    have HI : Hid _ := I
    have hbx := R.boxed
    have c6 := R.fi.ck.at 6 _ rfl
    rcases List.eq_nil_or_concat t with rfl | ⟨t, a, rfl⟩
    · simp only [List.length_nil] at c6
      clear R I
      gi_wp2
      refine bodyPost_end (results_none rfl _ _ _) rfl ?_
      exact ⟨⟨_, rfl⟩, .inl ⟨⟨k, hs, aT, cT, HR.out, HI.out⟩, hB⟩⟩
    · rw [List.concat_eq_append] at R I c6 HR HI
      have hll : (t ++ [a]).length = t.length + 1 := by simp
      obtain ⟨gT, rfl⟩ : ∃ gT, aT = some ⟨gT, 0, none⟩ := by
        rcases R.fi.fl.todo.2 with ⟨h, _⟩ | ⟨g', c', cur, h, _⟩
        · rw [hll] at h; simp at h
        · simp only [Value.slice.injEq] at h; exact ⟨g', h.1⟩
      have hcap : t.length + 1 ≤ cT := by
        rcases R.fi.fl.todo.2 with ⟨h, _⟩ | ⟨g', c', cur, h, _, _, hn, _⟩
        · rw [hll] at h; simp at h
        · simp only [Value.slice.injEq] at h
          rw [hll] at hn
          omega
      have cT1 : wr.cell? ⟨gT, t.length, none⟩ = some (.int .i64 (a : Int)) := by
        have ht2 := R.fi.fl.todo
        rw [hll] at ht2
        rw [ht2.cellAt t.length (by omega), nc_snoc, List.getElem?_append_right (by simp [nc])]
        simp [nc]
      have hfr := R.fi.ck.free 6
      have htl : t.length ≤ 4194304 := by
        have h1 := R.le
        have h2 := R.top
        unfold left at h1
        rw [hll] at h1
        omega
      have hW : Rs base g gB Bw w0 code uk up uc ud fp fs k (wr.setCell ⟨g, 6, none⟩ (.slice (some ⟨gT, 0, none⟩) t.length cT)).drew hs (some ⟨gT, 0, none⟩) cT t := R.pop.drew
      have hBk1 := hBk wr (wr.setCell ⟨g, 6, none⟩ (.slice (some ⟨gT, 0, none⟩) t.length cT)).drew (((KeepsOthers.setCell _ _ _).trans (KeepsOthers.drew _)).from _) hB
      obtain ⟨fn, tmps, assign, body, hy, hR⟩ := hY (a, hs, t, k) _ ⟨_, _, hW, I, R.le⟩ hBk1
      dsimp only at hy
      rw [hll] at c6
      obtain ⟨m, hm⟩ : ∃ m, m = t.length := ⟨_, rfl⟩
      rw [← hm] at c6 cT1 hcap htl hy hR
      clear R I hW hBk1 hm hll HR HI
      gi_wp2
      gi_region
      gi_wp2
      refine hR.mono ?_
      rintro e W3 (⟨rfl, ⟨k', hs', aT', cT', t', hlt, R3, I3⟩, hB3⟩ | ⟨rfl, hX3, hB3⟩)
      · have HQ3 : Hid (Qs base g gB Bw w0 code uk up uc ud fp fs Bk k' W3) := ⟨hs', aT', cT', t', R3, I3, hB3⟩
        clear R3 I3 hB3 hR hy
        gi_wp2
        go_roundw
        case rel => exact ⟨k', HQ3.out⟩
        case measure =>
          rw [HKL.out]
          exact Nat.lt_of_le_of_lt (HLEAST.out W3 k' HQ3.out) hlt
      · clear hR hy
        gi_wp2
        refine bodyPost_ret (results_none rfl _ _ _) rfl ?_
        exact ⟨⟨_, rfl⟩, .inr ⟨hX3, hB3⟩⟩
end Go.Proofs.YteagakplhfiodaaDoor.chk
