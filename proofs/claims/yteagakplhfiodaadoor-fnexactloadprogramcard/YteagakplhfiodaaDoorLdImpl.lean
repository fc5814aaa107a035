import Derived.Test.YteagakplhfiodaaDoorLdProg
import Derived.Test.YteagakplhfiodaaDoorChkImpl
import Derived.Test.YteagakplhfiodaaDoorLdRead
import Derived.Deep.QuietTactic
import Derived.Test.YteagakplhfiodaaDoorSvSpecB
import Derived.Test.YteagakplhfiodaaDoorChkSpec
namespace Go.Proofs.YteagakplhfiodaaDoor.ld
open Go.RowKit Go.Proofs.YteagakplhfiodaaDoor.bts Go.Proofs.YteagakplhfiodaaDoor.pg Go.Proofs.YteagakplhfiodaaDoor.chk Go.Proofs.YteagakplhfiodaaDoor.sv Go.Proofs.YteagakplhfiodaaDoor.th

/-- The two errors are two, each in a block of its own. -/
structure Es (w : World) (a0 a1 : Addr) : Prop where
  er : Er w a0 a1
  ne : a0 ≠ a1
  b0 : ∃ c t, w.heap[a0.block]? = some (.cells c t (0, 0))
  b1 : ∃ c t, w.heap[a1.block]? = some (.cells c t (0, 0))
theorem Es.below {w w' : World} {a0 a1 : Addr} (h : Es w a0 a1) (hb : Below w.heap.size w w') : Es w' a0 a1 := by
  obtain ⟨h1, h2, ⟨c0, t0, h3⟩, c1, t1, h4⟩ := h
  exact ⟨h1.below hb, h2, ⟨c0, t0, (hb.block _ (heap_lt h3)).trans h3⟩, ⟨c1, t1, (hb.block _ (heap_lt h4)).trans h4⟩⟩
/-- A call answers this program, in memory of its own, and this code. -/
def PL (w : World) (q : Pg) (c : Int) (e : Ending) (w' : World) : Prop :=
  ∃ (ak ap : Option Addr) (mk ck mp cp : Nat), e = .returned (.tuple #[.agg #[.slice ak mk ck, .slice ap mp cp], .int .i64 c]) ∧ PrgAt w w' ak ap mk ck mp cp q.consts q.protos ∧ Below w.heap.size w w'
theorem prg_nil {w w' : World} (h : w.heap.size ≤ w'.heap.size) : PrgAt w w' none none 0 0 0 0 [] [] :=
  ⟨w'.heap.size, fun _ => .slice none 0 0, fun _ => .slice none 0 0, fun _ => .slice none 0 0, bk_nil _ _ _ _, ⟨fun b e => (by cases e), fun j hj => absurd hj (by omega)⟩, bp_nil _ _ _ _ _, h, Nat.le_refl _, rfl, rfl, ⟨by simp, fun i hi => absurd hi (by simp)⟩, ⟨by simp, fun i hi => absurd hi (by simp)⟩⟩
theorem PrgAt.rd {w w' : World} {ak ap : Option Addr} {mk ck mp cp : Nat} {ks : List Cn} {ps : List Pr} (h : PrgAt w w' ak ap mk ck mp cp ks ps) : RdKV w' (.slice ak mk ck) ks ∧ RdPV w' (.slice ap mp cp) ps := by
  obtain ⟨M, ut, uc, ud, h1, _, h2, _, _, rfl, rfl, ok, pk⟩ := h
  exact ⟨h1.rd ok, h2.rd pk⟩
theorem PrgAt.hold {w w' w2 : World} {ak ap : Option Addr} {mk ck mp cp : Nat} {ks : List Cn} {ps : List Pr} (h : PrgAt w w' ak ap mk ck mp cp ks ps) (hs : w'.heap.size ≤ w2.heap.size) (hk : ∀ b, w.heap.size ≤ b → b < w'.heap.size → w2.heap[b]? = w'.heap[b]?) : PrgAt w w2 ak ap mk ck mp cp ks ps := by
  obtain ⟨M, ut, uc, ud, h1, h2, h3, h4, h5, h6⟩ := h
  exact ⟨M, ut, uc, ud, h1.hold hk, h2, h3.hold (fun b hb hl => hk b (by omega) hl), h4, by omega, h6⟩
theorem PrgAt.weaken {w0 w w' : World} {ak ap : Option Addr} {mk ck mp cp : Nat} {ks : List Cn} {ps : List Pr} (h : PrgAt w w' ak ap mk ck mp cp ks ps) (hs : w0.heap.size ≤ w.heap.size) : PrgAt w0 w' ak ap mk ck mp cp ks ps := by
  obtain ⟨M, ut, uc, ud, h1, h2, h3, h4, h6⟩ := h
  exact ⟨M, ut, uc, ud, BK.weaken h1 hs, h2, h3, by omega, h6⟩

set_option maxRecDepth 100000 in
set_option maxHeartbeats 2000000 in
theorem implLoad_any (av : Option Addr) (cv : Nat) (bs : List Int) (w : World) (a0 a1 : Addr) (hE : Es w a0 a1) (hr : Rd w av bs) (hS : Sl av bs.length cv) (hb : BB bs) (hl : bs.length ≤ 1048576) (hSh : Shp w) (hw0 : 2 < w.heap.size) (q : Pg) (c : Int)
    (hA : (Lo bs (some q) ∧ c = 0) ∨ (Lo bs none ∧ q = ⟨[], []⟩ ∧ c = 1)) :
    Calls Tryd.prog 6 #[.slice av bs.length cv] w (PL w q c) := by
  have b0 : Below w.heap.size w (w.alloc (.cells #[.slice none 0 0, .slice none 0 0] 26)) := (Below.refl _ _).alloc (Nat.le_refl _) _
  have RP : Hid (Calls Tryd.prog 16 #[.slice av bs.length cv] (w.alloc (.cells #[.slice none 0 0, .slice none 0 0] 26)) fun e w' => ∃ (ak ap : Option Addr) (mk ck mp cp : Nat) (k : List Cn) (p : List Pr) (f : Value), e = .returned (.tuple #[.agg #[.slice ak mk ck, .slice ap mp cp], f]) ∧ PrgAt (w.alloc (.cells #[.slice none 0 0, .slice none 0 0] 26)) w' ak ap mk ck mp cp k p ∧ (progD bs = none ∧ (f = .iface 142 (.pointer (some a0)) ∨ f = .iface 142 (.pointer (some a1))) ∨ progD bs = some ⟨k, p⟩ ∧ f = .nilIface) ∧ Below (w.alloc (.cells #[.slice none 0 0, .slice none 0 0] 26)).heap.size (w.alloc (.cells #[.slice none 0 0, .slice none 0 0] 26)) w') := readProgram_any av cv bs _ a0 a1 (hE.er.below b0) (hr.below b0) hS hb hl
  have L0 : Hid (Lone 26 2 (w.alloc (.cells #[.slice none 0 0, .slice none 0 0] 26)) w.heap.size [.slice none 0 0, .slice none 0 0] ∧ Below w.heap.size w (w.alloc (.cells #[.slice none 0 0, .slice none 0 0] 26)) ∧ (w.alloc (.cells #[.slice none 0 0, .slice none 0 0] 26)).heap.size = w.heap.size + 1) := ⟨lone_new w rfl, b0, by simp⟩
  have HE : Hid (∀ W, Below w.heap.size w W → Es W a0 a1) := fun W h => hE.below h
  have HSH : Hid (∀ W, Below w.heap.size w W → Shp W) := fun W h => hSh.below h hw0
  have HA : Hid ((Lo bs (some q) ∧ c = 0) ∨ (Lo bs none ∧ q = ⟨[], []⟩ ∧ c = 1)) := hA
  have HB : Hid (bs.length ≤ 1048576) := hl
  obtain ⟨n, hn⟩ : ∃ n, n = bs.length := ⟨_, rfl⟩
  rw [← hn] at RP ⊢
  clear hE hr hS hb hl hSh hA hn b0
  go_enter Tryd.func6, Tryd.ntmps6
  go_wp2_with fail
  generalize w.alloc (.cells #[.slice none 0 0, .slice none 0 0] 26) = W0 at RP L0 ⊢
  refine RP.out.mono ?_
  rintro e w1 ⟨ak, ap, mk, ck, mp, cp, ks, ps, f, rfl, hP, hf, hB1⟩
  have hz0 := L0.out.2.2
  have b2 : Below w1.heap.size w1 (w1.alloc (.cells #[.slice ak mk ck, .slice ap mp cp] 26)) := (Below.refl _ _).alloc (Nat.le_refl _) _
  have B2 : Hid (Below w.heap.size w (w1.alloc (.cells #[.slice ak mk ck, .slice ap mp cp] 26)) ∧ w.heap.size + 1 ≤ w1.heap.size) := ⟨(L0.out.2.1.trans (hB1.mono (by omega))).trans (b2.mono (by have := hB1.size; omega)), by have := hB1.size; omega⟩
  have L2 : Hid (Lone 26 2 (w1.alloc (.cells #[.slice ak mk ck, .slice ap mp cp] 26)) w.heap.size [.slice none 0 0, .slice none 0 0]) := (L0.out.1.below hB1 (by omega)).below b2 (by have := hB1.size; omega)
  have M2 : Hid (Lone 26 2 (w1.alloc (.cells #[.slice ak mk ck, .slice ap mp cp] 26)) w1.heap.size [.slice ak mk ck, .slice ap mp cp]) := lone_new w1 rfl
  have P2 : Hid (PrgAt W0 (w1.alloc (.cells #[.slice ak mk ck, .slice ap mp cp] 26)) ak ap mk ck mp cp ks ps ∧ W0.heap.size = w.heap.size + 1) := ⟨hP.hold b2.size (fun b _ h => b2.block b h), hz0⟩
  have HF : Hid (progD bs = none ∧ (f = .iface 142 (.pointer (some a0)) ∨ f = .iface 142 (.pointer (some a1))) ∨ progD bs = some ⟨ks, ps⟩ ∧ f = .nilIface) := hf
  clear hP hB1 b2 RP L0 hz0
  have es := HE.out _ B2.out.1
  have e0 := es.er.1
  have e1 := es.er.2
  have hne := es.ne
  obtain ⟨c0, t0, hb0⟩ := es.b0
  obtain ⟨c1, t1, hb1⟩ := es.b1
  have r0 := L2.out.at (j := 0) (by omega)
  have r1 := L2.out.at (j := 1) (by omega)
  have u0 := L2.out.free 0
  have u1 := L2.out.free 1
  have m0 := M2.out.at (j := 0) (by omega)
  have m1 := M2.out.at (j := 1) (by omega)
  simp only [List.getElem?_cons_zero, List.getElem?_cons_succ] at r0 r1 m0 m1
  clear es
  have BAD : Hid (Lone 26 2 (((w1.alloc (.cells #[.slice ak mk ck, .slice ap mp cp] 26)).setCell ⟨w.heap.size, 0, none⟩ (.slice none 0 0)).setCell ⟨w.heap.size, 1, none⟩ (.slice none 0 0)) w.heap.size [.slice none 0 0, .slice none 0 0] ∧ Below w.heap.size w (((w1.alloc (.cells #[.slice ak mk ck, .slice ap mp cp] 26)).setCell ⟨w.heap.size, 0, none⟩ (.slice none 0 0)).setCell ⟨w.heap.size, 1, none⟩ (.slice none 0 0))) := ⟨(L2.out.set 0 _).set 1 _, (B2.out.1.setCell (p := ⟨w.heap.size, 0, none⟩) (Nat.le_refl _) _).setCell (p := ⟨w.heap.size, 1, none⟩) (Nat.le_refl _) _⟩
  rcases hf with ⟨hp, hf⟩ | ⟨hp, rfl⟩
  · have HQ : Hid (q = ⟨[], []⟩ ∧ c = 1) := by
      rcases HA.out with ⟨⟨h, _⟩, _⟩ | ⟨_, h⟩
      · rw [hp] at h; cases h
      · exact h
    have FIN : Hid (∀ W, W = (((w1.alloc (.cells #[.slice ak mk ck, .slice ap mp cp] 26)).setCell ⟨w.heap.size, 0, none⟩ (.slice none 0 0)).setCell ⟨w.heap.size, 1, none⟩ (.slice none 0 0)) → PL w q c (.returned (.tuple #[.agg #[.slice none 0 0, .slice none 0 0], .int .i64 1])) W) := fun W e => by
      obtain ⟨rfl, rfl⟩ := HQ.out
      rw [e]
      exact ⟨none, none, 0, 0, 0, 0, rfl, prg_nil BAD.out.2.size, BAD.out.2⟩
    clear hp
    rcases hf with rfl | rfl
    · go_wp2_with fail
      refine (is_same a0 _).mono ?_
      rintro e w' ⟨rfl, hw⟩
      subst hw
      go_wp2
      refine bodyPost_ret (res2 Tryd.results6 _ _ w.heap.size 26 _ _ _ rfl (Lone.back BAD.out.1) Tryd.underlying26 rfl rfl) rfl ?_
      exact FIN.out _ rfl
    · go_wp2_with fail
      refine (is_other a1 a0 c1 c0 t1 t0 _ (Ne.symm hne) hb1 hb0).mono ?_
      rintro e w' ⟨rfl, hw⟩
      subst hw
      go_wp2_with fail
      refine (is_same a1 _).mono ?_
      rintro e w' ⟨rfl, hw⟩
      subst hw
      go_wp2
      refine bodyPost_ret (res2 Tryd.results6 _ _ w.heap.size 26 _ _ _ rfl (Lone.back BAD.out.1) Tryd.underlying26 rfl rfl) rfl ?_
      exact FIN.out _ rfl
  · obtain ⟨bS, hbS⟩ : ∃ b : Bool, b = true ↔ Sound ⟨ks, ps⟩ := by
      by_cases h : Sound ⟨ks, ps⟩
      · exact ⟨true, ⟨fun _ => h, fun _ => rfl⟩⟩
      · exact ⟨false, ⟨fun e => (by cases e), fun h' => absurd h' h⟩⟩
    have hsz := (progD_size hp).1
    have CK : Hid (Calls Tryd.prog 18 #[.agg #[.slice ak mk ck, .slice ap mp cp]] (w1.alloc (.cells #[.slice ak mk ck, .slice ap mp cp] 26)) fun e w' => e = .returned (.bool bS) ∧ Below (w1.alloc (.cells #[.slice ak mk ck, .slice ap mp cp] 26)).heap.size (w1.alloc (.cells #[.slice ak mk ck, .slice ap mp cp] 26)) w') := implCheck_any ⟨ks, ps⟩ _ _ _ P2.out.1.rd.1 P2.out.1.rd.2 (by have := HB.out; omega) (HSH.out _ B2.out.1) (by have := B2.out.1.size; omega) bS hbS
    go_wp2_with fail
    refine (is_nil a0 _).mono ?_
    rintro e w' ⟨rfl, hw⟩
    subst hw
    go_wp2_with fail
    refine (is_nil a1 _).mono ?_
    rintro e w' ⟨rfl, hw⟩
    subst hw
    go_wp2_with fail
    refine CK.out.mono ?_
    rintro e w3 ⟨rfl, b3⟩
    have L3 := L2.out.below b3 (by have := L2.out; exact heap_lt this.back)
    have M3 := M2.out.below b3 (by have := M2.out; exact heap_lt this.back)
    have hB3 : Below w.heap.size w w3 := B2.out.1.trans (b3.mono B2.out.1.size)
    have P3 := P2.out.1.hold b3.size (fun b _ h => b3.block b h)
    have hs2 := B2.out.2
    have r0' := L3.at (j := 0) (by omega)
    have r1' := L3.at (j := 1) (by omega)
    have u0' := L3.free 0
    have u1' := L3.free 1
    have m0' := M3.at (j := 0) (by omega)
    have m1' := M3.at (j := 1) (by omega)
    simp only [List.getElem?_cons_zero, List.getElem?_cons_succ] at r0' r1' m0' m1'
    cases bS with
    | false =>
      have HQ : Hid (q = ⟨[], []⟩ ∧ c = 1) := by
        rcases HA.out with ⟨⟨h, h'⟩, _⟩ | ⟨_, h⟩
        · rw [hp] at h
          cases h
          have := hbS.2 h'
          cases this
        · exact h
      have BD : Hid (Lone 26 2 ((w3.setCell ⟨w.heap.size, 0, none⟩ (.slice none 0 0)).setCell ⟨w.heap.size, 1, none⟩ (.slice none 0 0)) w.heap.size [.slice none 0 0, .slice none 0 0] ∧ Below w.heap.size w ((w3.setCell ⟨w.heap.size, 0, none⟩ (.slice none 0 0)).setCell ⟨w.heap.size, 1, none⟩ (.slice none 0 0))) := ⟨(L3.set 0 _).set 1 _, (hB3.setCell (p := ⟨w.heap.size, 0, none⟩) (Nat.le_refl _) _).setCell (p := ⟨w.heap.size, 1, none⟩) (Nat.le_refl _) _⟩
      have FIN : Hid (∀ W, W = ((w3.setCell ⟨w.heap.size, 0, none⟩ (.slice none 0 0)).setCell ⟨w.heap.size, 1, none⟩ (.slice none 0 0)) → PL w q c (.returned (.tuple #[.agg #[.slice none 0 0, .slice none 0 0], .int .i64 1])) W) := fun W e => by
        obtain ⟨rfl, rfl⟩ := HQ.out
        rw [e]
        exact ⟨none, none, 0, 0, 0, 0, rfl, prg_nil BD.out.2.size, BD.out.2⟩
      clear hp hsz hbS b3 L3 M3 hB3 P3 CK
      go_wp2
      refine bodyPost_ret (res2 Tryd.results6 _ _ w.heap.size 26 _ _ _ rfl (Lone.back BD.out.1) Tryd.underlying26 rfl rfl) rfl ?_
      exact FIN.out _ rfl
    | true =>
      have HQ : Hid (q = ⟨ks, ps⟩ ∧ c = 0) := by
        rcases HA.out with ⟨⟨h, h'⟩, hc⟩ | ⟨h, _⟩
        · rw [hp] at h
          cases h
          exact ⟨rfl, hc⟩
        · exact absurd (hbS.1 rfl) (h _ hp)
      have BD : Hid (Lone 26 2 ((w3.setCell ⟨w.heap.size, 0, none⟩ (.slice ak mk ck)).setCell ⟨w.heap.size, 1, none⟩ (.slice ap mp cp)) w.heap.size [.slice ak mk ck, .slice ap mp cp] ∧ Below w.heap.size w ((w3.setCell ⟨w.heap.size, 0, none⟩ (.slice ak mk ck)).setCell ⟨w.heap.size, 1, none⟩ (.slice ap mp cp))) := ⟨(L3.set 0 _).set 1 _, (hB3.setCell (p := ⟨w.heap.size, 0, none⟩) (Nat.le_refl _) _).setCell (p := ⟨w.heap.size, 1, none⟩) (Nat.le_refl _) _⟩
      have FIN : Hid (∀ W, W = ((w3.setCell ⟨w.heap.size, 0, none⟩ (.slice ak mk ck)).setCell ⟨w.heap.size, 1, none⟩ (.slice ap mp cp)) → PL w q c (.returned (.tuple #[.agg #[.slice ak mk ck, .slice ap mp cp], .int .i64 0])) W) := fun W e => by
        obtain ⟨rfl, rfl⟩ := HQ.out
        rw [e]
        refine ⟨ak, ap, mk, ck, mp, cp, rfl, (P3.hold (by simp) (fun b h1 _ => ?_)).weaken (by have := P2.out.2; omega), BD.out.2⟩
        have := P2.out.2
        rw [Below.heap_setCell _ ⟨w.heap.size, 1, none⟩ _ b (by show b ≠ w.heap.size; omega), Below.heap_setCell _ ⟨w.heap.size, 0, none⟩ _ b (by show b ≠ w.heap.size; omega)]
      clear hp hsz hbS b3 L3 M3 hB3 P3 CK
      go_wp2
      refine bodyPost_ret (res2 Tryd.results6 _ _ w.heap.size 26 _ _ _ rfl (Lone.back BD.out.1) Tryd.underlying26 rfl rfl) rfl ?_
      exact FIN.out _ rfl
end Go.Proofs.YteagakplhfiodaaDoor.ld

namespace Go.Proofs.YteagakplhfiodaaDoor.ld
open Go.RowKit Go.Proofs.YteagakplhfiodaaDoor.bts Go.Proofs.YteagakplhfiodaaDoor.pg Go.Proofs.YteagakplhfiodaaDoor.chk Go.Proofs.YteagakplhfiodaaDoor.sv

/-- The given reader at g, over bytes that lay there in w0: what is left, or none where it is bad. -/
def Sq (w0 : World) (av : Option Addr) (cv : Nat) (bs : List Int) (w : World) (g : Nat) (s : Option (List Int)) : Prop :=
  Below w0.heap.size w0 w ∧ w0.heap.size ≤ g ∧ ∃ (a : Nat) (bad : Bool), Lone 37 3 w g [.slice av bs.length cv, .int .i64 (a : Int), .bool bad] ∧ a ≤ 1048580 ∧ (∀ xs, s = some xs → bad = false ∧ xs = bs.drop a) ∧ (s = none → bad = true)
theorem Sq.lt {w0 w : World} {av : Option Addr} {cv g : Nat} {bs : List Int} {s : Option (List Int)} (h : Sq w0 av cv bs w g s) : g < w.heap.size := by
  obtain ⟨_, _, _, _, hL, _⟩ := h
  exact heap_lt hL.back
theorem Sq.keep {w0 w w' : World} {av : Option Addr} {cv g : Nat} {bs : List Int} {s : Option (List Int)} (h : Sq w0 av cv bs w g s) (hb : Below w.heap.size w w') : Sq w0 av cv bs w' g s := by
  have hl := h.lt
  obtain ⟨h1, h2, a, bad, hL, h3⟩ := h
  exact ⟨h1.trans (hb.mono h1.size), h2, a, bad, hL.below hb hl, h3⟩
theorem Sq.far {w0 w : World} {av : Option Addr} {cv g R o : Nat} {bs : List Int} {s : Option (List Int)} {v : Value} (h : Sq w0 av cv bs w g s) (hR : g < R) : Sq w0 av cv bs (w.setCell ⟨R, o, none⟩ v) g s := by
  obtain ⟨h1, h2, a, bad, hL, h3⟩ := h
  exact ⟨h1.setCell (p := ⟨R, o, none⟩) (show w0.heap.size ≤ R by omega) _, h2, a, bad, hL.other (by omega), h3⟩
theorem Sq.app {w0 w w' : World} {av : Option Addr} {cv g : Nat} {bs : List Int} {s : Option (List Int)} {row : Option Nat} (h : Sq w0 av cv bs w g s) (hg : w.grownBy w' row) (hr : ∀ k, row = some k → g < k) : Sq w0 av cv bs w' g s := by
  have hl := h.lt
  obtain ⟨h1, h2, a, bad, hL, h3⟩ := h
  refine ⟨h1.grown hg h1.size (fun k hk => by have := hr k hk; omega), h2, a, bad, own_far hL (fun b e => ?_), h3⟩
  cases e
  exact hg.block g hl (fun e => by have := hr g e.symm; omega)
theorem drew_lone {T : TypeId} {c g : Nat} {w : World} {xs : List Value} (h : Lone T c w g xs) (k : Nat) : Lone T c (w.drewN k) g xs := h.below (bel_drewN (Below.refl _ _) k) (heap_lt h.back)
theorem Fq.drewN {g : Nat} {w w' : World} (h : Fq g w w') (k : Nat) : Fq g w (w'.drewN k) := ⟨bel_drewN h.below k, fun b hb hbg => by
  have : (w'.drewN k).heap = w'.heap := World.heap_drewN _ _
  rw [this]
  exact h.keep b hb hbg⟩

set_option maxRecDepth 100000 in
set_option maxHeartbeats 1000000 in
theorem l5byte_any (w0 w : World) (av : Option Addr) (cv g : Nat) (bs : List Int) (s : Option (List Int)) (hr : Rd w0 av bs) (hb : BB bs) (hl : bs.length ≤ 1048576) (h : Sq w0 av cv bs w g s) :
    Calls Tryd.prog 13 #[.pointer (some ⟨g, 0, none⟩)] w fun e w' => ∃ (z : Nat) (s' : Option (List Int)), e = .returned (.int .i64 (z : Int)) ∧ z ≤ 255 ∧ Got (s.bind byteD) (z : Int) s' ∧ Sq w0 av cv bs w' g s' ∧ Fq g w w' := by
  obtain ⟨h1, h2, a, bad, hL, h3, h4, h5⟩ := h
  have HL : Hid (Lone 37 3 w g [.slice av bs.length cv, .int .i64 (a : Int), .bool bad]) := hL
  have H1 : Hid (Below w0.heap.size w0 w ∧ w0.heap.size ≤ g) := ⟨h1, h2⟩
  have H4 : Hid ((∀ xs, s = some xs → bad = false ∧ xs = bs.drop a) ∧ (s = none → bad = true)) := ⟨h4, h5⟩
  have c0 : w.cell? ⟨g, 0, none⟩ = some (.slice av bs.length cv) := hL.at (j := 0) (by omega)
  have c1 : w.cell? ⟨g, 1, none⟩ = some (.int .i64 (a : Int)) := hL.at (j := 1) (by omega)
  by_cases hlt : (bs.length : Int) ≤ (a : Int)
  · have HG : Hid (Got (s.bind byteD) ((0 : Nat) : Int) none) := by
      refine .inl ⟨?_, rfl⟩
      cases s with
      | none => rfl
      | some xs =>
        rw [(h4 xs rfl).2, List.drop_of_length_le (by omega)]
        rfl
    clear h1 h2 h4 h5 hL
    go_enter Tryd.func13, Tryd.ntmps13
    go_wp2_with fail
    go_quiet (fail)
    have L1 := drew_lone HL.out nq
    have d2 : (w.drewN nq).cell? ⟨g, 2, none⟩ = some (.bool bad) := L1.at (j := 2) (by omega)
    have f2 := L1.free 2
    have P : Hid (Sq w0 av cv bs ((w.drewN nq).setCell ⟨g, 2, none⟩ (.bool true)) g none ∧ Fq g w ((w.drewN nq).setCell ⟨g, 2, none⟩ (.bool true))) := ⟨⟨(bel_drewN H1.out.1 nq).setCell (p := ⟨g, 2, none⟩) H1.out.2 _, H1.out.2, a, true, L1.set 2 _, h3, fun _ e => (by cases e), fun _ => rfl⟩, ((Fq.refl g w).drewN nq).trans (Fq.set _ _)⟩
    clear L1
    generalize w.drewN nq = W1 at d2 f2 P ⊢
    go_wp2
    go_returns
    exact ⟨0, none, rfl, by omega, HG.out, P.out⟩
  · have ha : a < bs.length := by omega
    obtain ⟨z, hz, hc, hzd⟩ : ∃ z : Nat, z ≤ 255 ∧ (∃ b off, av = some ⟨b, off, none⟩ ∧ w0.cell? ⟨b, off + a, none⟩ = some (.int .u8 (z : Int))) ∧ bs.drop a = (z : Int) :: bs.drop (a + 1) := by
      obtain ⟨b, off, e, hc⟩ := hr a ha
      have hm := hb _ (List.getElem_mem ha)
      have hg : bs.getD a 0 = bs[a] := by simp [List.getD_eq_getElem?_getD, List.getElem?_eq_getElem ha]
      refine ⟨bs[a].toNat, by omega, ⟨b, off, e, by rw [hc, hg]; congr 2; omega⟩, ?_⟩
      rw [List.drop_eq_getElem_cons ha]
      congr 1
      omega
    obtain ⟨b, off, rfl, hcell⟩ := hc
    have HG : Hid (∃ s', Got (s.bind byteD) (z : Int) s' ∧ (∀ xs, s' = some xs → bad = false ∧ xs = bs.drop (a + 1)) ∧ (s' = none → bad = true)) := by
      cases s with
      | none => exact ⟨none, .inl ⟨rfl, rfl⟩, fun _ e => (by cases e), fun _ => h5 rfl⟩
      | some xs =>
        obtain ⟨e1, e2⟩ := h4 xs rfl
        refine ⟨some (bs.drop (a + 1)), .inr ⟨bs.drop (a + 1), ?_, rfl⟩, fun ys e => (by cases e; exact ⟨e1, rfl⟩), fun e => (by cases e)⟩
        rw [e2, hzd]
        rfl
    have HC : Hid (∀ W, Below w0.heap.size w0 W → W.cell? ⟨b, off + a, none⟩ = some (.int .u8 (z : Int))) := fun W h => cellB hcell h
    have hbg : b ≠ g := by have := World.block_lt_of_cell? _ _ hcell; simp only at this; omega
    clear h1 h2 h4 h5 hL hzd hcell
    go_enter Tryd.func13, Tryd.ntmps13
    go_wp2_with fail
    go_quiet (fail)
    have L1 := drew_lone HL.out nq
    have d1 : (w.drewN nq).cell? ⟨g, 1, none⟩ = some (.int .i64 (a : Int)) := L1.at (j := 1) (by omega)
    have f1 := L1.free 1
    have P : Hid (Below w0.heap.size w0 ((w.drewN nq).setCell ⟨g, 1, none⟩ (.int .i64 ((a : Int) + 1))) ∧ Fq g w ((w.drewN nq).setCell ⟨g, 1, none⟩ (.int .i64 ((a : Int) + 1))) ∧ Lone 37 3 ((w.drewN nq).setCell ⟨g, 1, none⟩ (.int .i64 ((a : Int) + 1))) g [.slice (some ⟨b, off, none⟩) bs.length cv, .int .i64 ((a : Int) + 1), .bool bad]) := ⟨(bel_drewN H1.out.1 nq).setCell (p := ⟨g, 1, none⟩) H1.out.2 _, ((Fq.refl g w).drewN nq).trans (Fq.set _ _), L1.set 1 _⟩
    clear L1
    generalize w.drewN nq = W1 at d1 f1 P ⊢
    go_wp2_with fail
    have k0 : (W1.setCell ⟨g, 1, none⟩ (.int .i64 ((a : Int) + 1))).cell? ⟨g, 0, none⟩ = some (.slice (some ⟨b, off, none⟩) bs.length cv) := P.out.2.2.at (j := 0) (by omega)
    have k1 : (W1.setCell ⟨g, 1, none⟩ (.int .i64 ((a : Int) + 1))).cell? ⟨g, 1, none⟩ = some (.int .i64 ((a : Int) + 1)) := P.out.2.2.at (j := 1) (by omega)
    have k2 : (W1.setCell ⟨g, 1, none⟩ (.int .i64 ((a : Int) + 1))).cell? ⟨b, off + a, none⟩ = some (.int .u8 (z : Int)) := HC.out _ P.out.1
    clear d1 f1
    generalize W1.setCell ⟨g, 1, none⟩ (.int .i64 ((a : Int) + 1)) = W2 at P k0 k1 k2 ⊢
    have hbnd : ((a : Int) + 1 - 1) = (a : Int) := by omega
    go_quiet (fail)
    go_wp2
    go_returns
    obtain ⟨s', hG, hs1, hs2⟩ := HG.out
    exact ⟨z, s', rfl, hz, hG, ⟨bel_drewN P.out.1 _, H1.out.2, a + 1, bad, drew_lone P.out.2.2 _, by omega, hs1, hs2⟩, P.out.2.1.drewN _⟩

theorem sq_bad {w0 w : World} {av : Option Addr} {cv g : Nat} {bs : List Int} {s : Option (List Int)} (h : Sq w0 av cv bs w g s) : Sq w0 av cv bs (w.setCell ⟨g, 2, none⟩ (.bool true)) g none := by
  obtain ⟨h1, h2, a, bad, hL, h3, _⟩ := h
  exact ⟨h1.setCell (p := ⟨g, 2, none⟩) h2 _, h2, a, true, hL.set 2 _, h3, fun _ e => (by cases e), fun _ => rfl⟩

set_option maxRecDepth 100000 in
set_option maxHeartbeats 1000000 in
theorem l5num_any (w0 w : World) (av : Option Addr) (cv g : Nat) (bs : List Int) (s : Option (List Int)) (hr : Rd w0 av bs) (hb : BB bs) (hl : bs.length ≤ 1048576) (h : Sq w0 av cv bs w g s) :
    Calls Tryd.prog 12 #[.pointer (some ⟨g, 0, none⟩)] w fun e w' => ∃ (n : Nat) (s' : Option (List Int)), e = .returned (.int .i64 (n : Int)) ∧ n < 2097152 ∧ Got (s.bind lum) n s' ∧ Sq w0 av cv bs w' g s' ∧ Fq g w w' := by
  have BY : Hid (∀ W s, Sq w0 av cv bs W g s → Calls Tryd.prog 13 #[.pointer (some ⟨g, 0, none⟩)] W fun e w' => ∃ (z : Nat) (s' : Option (List Int)), e = .returned (.int .i64 (z : Int)) ∧ z ≤ 255 ∧ Got (s.bind byteD) (z : Int) s' ∧ Sq w0 av cv bs w' g s' ∧ Fq g W w') := fun W s h => l5byte_any w0 W av cv g bs s hr hb hl h
  have HS : Hid (Sq w0 av cv bs w g s) := h
  clear h hr hb hl
  go_enter Tryd.func12, Tryd.ntmps12
  go_wp2_with fail
  go_loopw [3, 4, 5] (fun v sc x wr => ∃ (i acc sn : Nat) (s' : Option (List Int)), i ≤ 3 ∧ x = .int .i64 (i : Int) ∧ v = .int .i64 (acc : Int) ∧ sc = .int .i64 (sn : Int) ∧ Hid (sn = 128 ^ i) ∧ acc < sn ∧ sn ≤ 2097152 ∧ Hid (s.bind lum = s'.bind (lumD (3 - i) i acc)) ∧ Hid (Sq w0 av cv bs wr g s') ∧ Hid (Fq g w wr)) (fun _ _ x _ => 3 - (intOf x).toNat)
  case atStart => exact ⟨0, 0, 1, s, by omega, rfl, rfl, rfl, rfl, by omega, by omega, rfl, HS.out, Fq.refl _ _⟩
  case round =>
    obtain ⟨i, acc, sc, s1, hi, rfl, rfl, rfl, HSc, ha, hp, HN, HS1, HF1⟩ := hrel
    by_cases hlt : i < 3
    · have hlt' : (i : Int) < 3 := by omega
      have hp1 : sc * 128 ≤ 2097152 := by
        have h1 := Nat.pow_le_pow_right (show 0 < 128 by omega) (show i + 1 ≤ 3 by omega)
        have e3 : 128 ^ 3 = 2097152 := rfl
        have es : 128 ^ (i + 1) = 128 ^ i * 128 := Nat.pow_succ _ _
        rw [HSc.out]
        omega
      have HA : Hid (acc < 128 ^ i) := by show _ < _; rw [← HSc.out]; exact ha
      go_wp2_with fail
      refine (BY.out _ s1 HS1.out).mono ?_
      rintro e w2 ⟨z, s2, rfl, hz, hG, hS2, hF2⟩
      have hm : z % 128 * sc ≤ 127 * sc := Nat.mul_le_mul_right _ (by omega)
      have hmz : (0 : Int) ≤ (z : Int) % 128 * (sc : Int) ∧ (z : Int) % 128 * (sc : Int) ≤ 127 * (sc : Int) := by
        have : (z : Int) % 128 * (sc : Int) = ((z % 128 * sc : Nat) : Int) := by simp
        rw [this]
        omega
      have HV : Hid ((acc : Int) + (z : Int) % 128 * (sc : Int) = ((acc + z % 128 * 128 ^ i : Nat) : Int)) := by show _ = _; rw [← HSc.out]; simp
      have HL : Hid (acc + z % 128 * 128 ^ i < 128 ^ (i + 1)) := join_lt HA.out
      have HSC : Hid (sc * 128 = 128 ^ (i + 1)) := by show _ = _; rw [Nat.pow_succ, HSc.out]
      have HS2 : Hid (Sq w0 av cv bs w2 g s2) := hS2
      have HF2 : Hid (Fq g w w2) := HF1.out.trans hF2
      have HG : Hid (Got (s1.bind byteD) (z : Int) s2) := hG
      clear hG hS2 hF2 HS1 HF1
      by_cases hb : (z : Int) < 128
      · have HR : Hid (Got (s.bind lum) (acc + z % 128 * 128 ^ i) s2) := by
          show Got _ _ _
          rw [HN.out]
          obtain ⟨k, hk⟩ : ∃ k, 3 - i = k + 1 := ⟨2 - i, by omega⟩
          rw [hk]
          match s1, HG.out with
          | none, hG =>
            rcases hG with ⟨_, e⟩ | ⟨ys, e, _⟩
            · exact .inl ⟨rfl, e⟩
            · cases e
          | some [], hG =>
            rcases hG with ⟨_, e⟩ | ⟨ys, e, _⟩
            · exact .inl ⟨rfl, e⟩
            · cases e
          | some (x :: r), hG =>
            rcases hG with ⟨e, _⟩ | ⟨ys, e, e'⟩
            · cases e
            · simp only [Option.bind_some, byteD, Option.some.injEq, Prod.mk.injEq] at e
              obtain ⟨rfl, rfl⟩ := e
              refine .inr ⟨r, ?_, e'⟩
              simp only [Option.bind_some, lumD]
              rw [if_pos hb, tn]
        have HB : Hid (acc + z % 128 * 128 ^ i < 2097152) := by show _ < _; have := HL.out; have := HSC.out; omega
        go_wp2
        go_returns
        exact ⟨_, s2, by rw [HV.out]; rfl, HB.out, HR.out, HS2.out, HF2.out⟩
      · have HR : Hid (s.bind lum = s2.bind (lumD (3 - (i + 1)) (i + 1) (acc + z % 128 * 128 ^ i))) := by
          show _ = _
          rw [HN.out]
          obtain ⟨k, hk⟩ : ∃ k, 3 - i = k + 1 := ⟨2 - i, by omega⟩
          have hk2 : 3 - (i + 1) = k := by omega
          rw [hk, hk2]
          match s1, HG.out with
          | none, hG =>
            rcases hG with ⟨_, e⟩ | ⟨ys, e, _⟩
            · rw [e]; rfl
            · cases e
          | some [], hG =>
            rcases hG with ⟨_, e⟩ | ⟨ys, e, _⟩
            · rw [e]; rfl
            · cases e
          | some (x :: r), hG =>
            rcases hG with ⟨e, _⟩ | ⟨ys, e, e'⟩
            · cases e
            · simp only [Option.bind_some, byteD, Option.some.injEq, Prod.mk.injEq] at e
              obtain ⟨rfl, rfl⟩ := e
              subst e'
              simp only [Option.bind_some, lumD]
              rw [if_neg hb, tn]
        go_wp2
        exact ⟨⟨i + 1, acc + z % 128 * 128 ^ i, sc * 128, s2, by omega, by go_num, by rw [HV.out], by go_num, HSC.out, by rw [HSC.out]; exact HL.out, hp1, HR.out, HS2.out, HF2.out⟩, by simp [intOf]; omega⟩
    · obtain rfl : i = 3 := by omega
      have HR : Hid (s.bind lum = none) := by
        show s.bind lum = none
        rw [HN.out]
        cases s1 <;> rfl
      obtain ⟨_, _, a, bad, hL, _⟩ := HS1.out
      have c2 : wr.cell? ⟨g, 2, none⟩ = some (.bool bad) := hL.at (j := 2) (by omega)
      have f2 := hL.free 2
      have P : Hid (Sq w0 av cv bs (wr.setCell ⟨g, 2, none⟩ (.bool true)) g none ∧ Fq g w (wr.setCell ⟨g, 2, none⟩ (.bool true))) := ⟨sq_bad HS1.out, HF1.out.trans (Fq.set _ _)⟩
      clear hL HS1 HF1
      go_wp2
      go_returns
      exact ⟨0, none, rfl, by omega, .inl ⟨HR.out, rfl⟩, P.out⟩
end Go.Proofs.YteagakplhfiodaaDoor.ld

namespace Go.Proofs.YteagakplhfiodaaDoor.ld
open Go.RowKit Go.Proofs.YteagakplhfiodaaDoor.bts Go.Proofs.YteagakplhfiodaaDoor.pg Go.Proofs.YteagakplhfiodaaDoor.chk Go.Proofs.YteagakplhfiodaaDoor.sv Go.Proofs.YteagakplhfiodaaDoor.th

theorem got_take {s s1 s2 : Option (List Int)} {j : Nat} {l : List Int} {z : Int} (h : Got (s.bind (takeD j)) l s1) (hG : Got (s1.bind byteD) z s2) : Got (s.bind (takeD (j + 1))) (l ++ [z]) s2 := by
  rcases h with ⟨h, rfl⟩ | ⟨ys, h, rfl⟩
  · rcases hG with ⟨_, rfl⟩ | ⟨ys, e, _⟩
    · refine .inl ⟨?_, rfl⟩
      cases s with
      | none => rfl
      | some xs => exact takeD_more h
    · cases e
  · cases s with
    | none => cases h
    | some xs =>
      simp only [Option.bind_some] at h
      match ys, hG with
      | [], hG =>
        rcases hG with ⟨_, rfl⟩ | ⟨ys, e, _⟩
        · exact .inl ⟨takeD_end h, rfl⟩
        · cases e
      | y :: r, hG =>
        rcases hG with ⟨e, _⟩ | ⟨ys, e, rfl⟩
        · cases e
        · simp only [Option.bind_some, byteD, Option.some.injEq, Prod.mk.injEq] at e
          obtain ⟨rfl, rfl⟩ := e
          exact .inr ⟨r, takeD_next h, rfl⟩
theorem take_none_le {xs : List Int} {j m : Nat} (hj : j ≤ m) (h : takeD j xs = none) : takeD m xs = none := by
  unfold takeD at h ⊢
  split at h
  · cases h
  · rw [if_neg (by omega)]
theorem got_take_bad {s : Option (List Int)} {j m : Nat} {l : List Int} (hj : j ≤ m) (h : Got (s.bind (takeD j)) l none) : Got (s.bind (takeD m)) l none := by
  rcases h with ⟨h, _⟩ | ⟨ys, _, e⟩
  · refine .inl ⟨?_, rfl⟩
    cases s with
    | none => rfl
    | some xs => exact take_none_le hj h
  · cases e
theorem got_flagL {s s1 : Option (List Int)} {z : Nat} (h : Got (s.bind byteD) (z : Int) s1) : Got (s.bind flagL) (decide ((z : Int) = 1)) s1 := by
  match s, h with
  | none, h => exact .inl ⟨rfl, by rcases h with ⟨_, e⟩ | ⟨_, e, _⟩; exact e; cases e⟩
  | some [], h => exact .inl ⟨rfl, by rcases h with ⟨_, e⟩ | ⟨_, e, _⟩; exact e; cases e⟩
  | some (x :: r), h =>
    rcases h with ⟨e, _⟩ | ⟨ys, e, e'⟩
    · cases e
    · simp only [Option.bind_some, byteD, Option.some.injEq, Prod.mk.injEq] at e
      obtain ⟨rfl, rfl⟩ := e
      exact .inr ⟨r, rfl, e'⟩
/-- The bytes of a number, read one by one. -/
def AccL (s : Option (List Int)) (k : Nat) (u : Nat) (s' : Option (List Int)) : Prop := (s.bind (takeD k) = none ∧ s' = none) ∨ ∃ l ys, s.bind (takeD k) = some (l, ys) ∧ s' = some ys ∧ BB l ∧ u = sm l
theorem accL_next {s s1 s2 : Option (List Int)} {k u z : Nat} (h : AccL s k u s1) (hz : z ≤ 255) (hG : Got (s1.bind byteD) (z : Int) s2) : AccL s (k + 1) (u + z * 256 ^ k) s2 := by
  rcases h with ⟨h, rfl⟩ | ⟨l, ys, h, rfl, hb, rfl⟩
  · rcases hG with ⟨_, rfl⟩ | ⟨ys, e, _⟩
    · refine .inl ⟨?_, rfl⟩
      cases s with
      | none => rfl
      | some xs => exact takeD_more h
    · cases e
  · cases s with
    | none => cases h
    | some xs =>
      simp only [Option.bind_some] at h
      obtain ⟨_, hl⟩ := takeD_inv h
      match ys, hG with
      | [], hG =>
        rcases hG with ⟨_, rfl⟩ | ⟨ys, e, _⟩
        · exact .inl ⟨takeD_end h, rfl⟩
        · cases e
      | y :: r, hG =>
        rcases hG with ⟨e, _⟩ | ⟨ys, e, rfl⟩
        · cases e
        · simp only [Option.bind_some, byteD, Option.some.injEq, Prod.mk.injEq] at e
          obtain ⟨rfl, rfl⟩ := e
          refine .inr ⟨l ++ [(z : Int)], r, takeD_next h, rfl, ?_, by rw [sm_snoc, hl, tn]⟩
          intro u hu
          rcases List.mem_append.1 hu with hu | hu
          · exact hb u hu
          · simp only [List.mem_cons, List.not_mem_nil, or_false] at hu
            omega
theorem accL_end {s s' : Option (List Int)} {u : Nat} (h : AccL s 8 u s') : Got (s.bind eightD) (IntKind.i64.wrap (u : Int)) s' := acc_end (by
  rcases h with h | ⟨l, ys, h1, h2, h3, h4⟩
  · exact .inl h
  · exact .inr ⟨l, ys, h1, h2, h3, by rw [h4]⟩)
theorem accL_lt {s s' : Option (List Int)} {k u : Nat} (h : AccL s k u s') : u < 256 ^ k ∨ s' = none := by
  rcases h with ⟨_, h⟩ | ⟨l, ys, h1, h2, h3, h4⟩
  · exact .inr h
  · cases s with
    | none => cases h1
    | some xs =>
      have := (takeD_inv h1).2
      have := sm_lt l h3
      subst h4
      rw [‹l.length = k›] at this
      exact .inl this
theorem Sq.bad {w0 w : World} {av : Option Addr} {cv g : Nat} {bs : List Int} {s : Option (List Int)} (h : Sq w0 av cv bs w g s) : ∃ bd : Bool, w.cell? ⟨g, 2, none⟩ = some (.bool bd) ∧ (bd = true ↔ s = none) := by
  obtain ⟨_, _, a, bd, hL, _, h4, h5⟩ := h
  refine ⟨bd, hL.at (j := 2) (by omega), ⟨fun e => ?_, h5⟩⟩
  cases s with
  | none => rfl
  | some xs => rw [(h4 xs rfl).1] at e; cases e
theorem wrapU (z : Int) : IntKind.u64.wrap z = z % 18446744073709551616 := by
  have e1 : (2 : Int) ^ 64 = 18446744073709551616 := rfl
  simp [IntKind.wrap, IntKind.bits, IntKind.signed, e1]
theorem accL_wrap {s s' : Option (List Int)} {j u z : Nat} (hj : j ≤ 7) (h : AccL s (j + 1) (u + z * 256 ^ j) s') : ∃ u' : Nat, IntKind.u64.wrap ((u : Int) + IntKind.u64.wrap ((z : Int) * 2 ^ (8 * j))) = (u' : Int) ∧ u' < 18446744073709551616 ∧ AccL s (j + 1) u' s' := by
  have hp : ((2 : Int) ^ (8 * j)) = ((256 ^ j : Nat) : Int) := by
    have : 2 ^ (8 * j) = 256 ^ j := by rw [Nat.pow_mul]
    rw [← this]; simp
  have hc : (z : Int) * 2 ^ (8 * j) = ((z * 256 ^ j : Nat) : Int) := by rw [hp]; simp
  refine ⟨(u + z * 256 ^ j) % 18446744073709551616, ?_, Nat.mod_lt _ (by omega), ?_⟩
  · rw [hc, wrapU, wrapU]
    omega
  · rcases accL_lt h with h1 | h1
    · have hle := Nat.pow_le_pow_right (show 0 < 256 by omega) (show j + 1 ≤ 8 by omega)
      have e8' : 256 ^ 8 = 18446744073709551616 := rfl
      rw [Nat.mod_eq_of_lt (by omega)]
      exact h
    · rcases h with h | ⟨l, ys, _, h2, _⟩
      · exact .inl h
      · rw [h1] at h2; cases h2
theorem OLk.hold {w w' : World} {B n cv : Nat} {av : Option Addr} {l : List Cn} (h : OLk w B av n cv l) (hk : ∀ b, B ≤ b → b < w.heap.size → w'.heap[b]? = w.heap[b]?) : OLk w' B av n cv l := by
  obtain ⟨h1, h2, ut, h3⟩ := h
  exact ⟨h1, h2, ut, h3.hold hk⟩
theorem OLp.hold {w w' : World} {B n cv : Nat} {av : Option Addr} {l : List Pr} (h : OLp w B av n cv l) (hk : ∀ b, B ≤ b → b < w.heap.size → w'.heap[b]? = w.heap[b]?) : OLp w' B av n cv l := by
  obtain ⟨h1, h2, uc, ud, h3⟩ := h
  exact ⟨h1, h2, uc, ud, h3.hold hk⟩
theorem lone_grown {T : TypeId} {c R : Nat} {w w' : World} {xs : List Value} {row : Option Nat} (h : Lone T c w R xs) (hg : w.grownBy w' row) (hr : row ≠ some R) : Lone T c w' R xs :=
  own_far h (fun b e => by
    cases e
    exact hg.block R (heap_lt h.back) (fun e => hr e.symm))
theorem bk_grown {w w' : World} {B n : Nat} {v : Value} {d : Nat → Cn} {ut : Nat → Value} {row : Option Nat} (h : BK w B v n d ut) (hg : w.grownBy w' row) (hr : ∀ b, row = some b → v.ownBlock ≠ some b ∧ ∀ j, j < n → (ut j).ownBlock ≠ some b) : BK w' B v n d ut := by
  obtain ⟨⟨us, h1, h2⟩, h3, h4, h5⟩ := h
  exact ⟨⟨us, th.own_hold h1 (fun b _ hb e => hg.block b hb (fun e' => (hr b e'.symm).1 e)), h2⟩, fun j hj => (h3 j hj).hold (fun b _ hb e => hg.block b hb (fun e' => (hr b e'.symm).2 j hj e)), h4, h5⟩
theorem bts_snoc {ys : List Int} {z : Int} (h : Bts ys) (h0 : 0 ≤ z) (h1 : z ≤ 255) : Bts (ys ++ [z]) := bts_of (by
  intro u hu
  rcases List.mem_append.1 hu with hu | hu
  · exact bb_of h u hu
  · simp only [List.mem_cons, List.not_mem_nil, or_false] at hu
    omega)
theorem progL_eq (bs : List Int) : progL bs = (bodyD lum flagL (bs.drop 4)).map fun p => p.1 := by
  unfold progL takeD
  by_cases h : 4 ≤ bs.length
  · rw [if_pos h]
    rfl
  · rw [if_neg h, List.drop_of_length_le (by omega)]
    rfl
theorem progL_bad {bs : List Int} {ks : List Cn} (h : Got ((some (bs.drop 4)).bind (manyD lum (constD lum flagL))) ks none) : progL bs = none := by
  rw [progL_eq]
  unfold bodyD
  rcases h with ⟨h, _⟩ | ⟨_, _, e⟩
  · simp only [Option.bind_some] at h
    rw [h]
    rfl
  · cases e
theorem progL_got {bs : List Int} {ks : List Cn} {ps : List Pr} {s s' : Option (List Int)} (h : Got ((some (bs.drop 4)).bind (manyD lum (constD lum flagL))) ks s) (h2 : Got (s.bind (manyD lum (protoD lum flagL))) ps s') : (s' = none → progL bs = none) ∧ (s' ≠ none → progL bs = some ⟨ks, ps⟩) := by
  have e6 := got_then (e := fun (k : List Cn) (ys : List Int) => (manyD lum (protoD lum flagL) ys).map fun p : List Pr × List Int => ((⟨k, p.1⟩ : Pg), p.2)) h (got_map (fun l : List Pr => (⟨ks, l⟩ : Pg)) h2)
  have e7 : Got ((some (bs.drop 4)).bind (bodyD lum flagL)) (⟨ks, ps⟩ : Pg) s' := e6
  rw [progL_eq]
  rcases e7 with ⟨e, e'⟩ | ⟨ys, e, e'⟩
  · simp only [Option.bind_some] at e
    exact ⟨fun _ => (by rw [e]; rfl), fun h => absurd e' h⟩
  · simp only [Option.bind_some] at e
    exact ⟨fun h => (by rw [e'] at h; cases h), fun _ => (by rw [e]; rfl)⟩
/-- Below F nothing has turned but the block g. -/
def Lo2 (g F : Nat) (V V' : World) : Prop := ∀ b, b < F → b ≠ g → V'.heap[b]? = V.heap[b]?
theorem Lo2.fq {g F : Nat} {V W W' : World} (h : Lo2 g F V W) (q : Fq g W W') (hF : F ≤ W.heap.size) : Lo2 g F V W' := fun b hb hg => (q.keep b (by omega) hg).trans (h b hb hg)
theorem Lo2.set {g F R o : Nat} {V W : World} {v : Value} (h : Lo2 g F V W) (hR : F ≤ R) : Lo2 g F V (W.setCell ⟨R, o, none⟩ v) := fun b hb hg => (Below.heap_setCell W ⟨R, o, none⟩ _ b (by show b ≠ R; omega)).trans (h b hb hg)
theorem Lo2.bel {g F : Nat} {V W W' : World} (h : Lo2 g F V W) (q : Below W.heap.size W W') (hF : F ≤ W.heap.size) : Lo2 g F V W' := fun b hb hg => (q.block b (by omega)).trans (h b hb hg)
theorem Lo2.app {g F : Nat} {V W W' : World} {row : Option Nat} (h : Lo2 g F V W) (q : W.grownBy W' row) (hF : F ≤ W.heap.size) (hr : ∀ b, row = some b → F ≤ b) : Lo2 g F V W' := fun b hb hg => (q.block b (by omega) (fun e => by have := hr b e.symm; omega)).trans (h b hb hg)
end Go.Proofs.YteagakplhfiodaaDoor.ld
