import Derived.Test.YteagakplhfiodaaDoorLdImpl
import Derived.Deep.RegionWith
import Derived.Deep.DeepCutAuto
import Derived.Test.YteagakplhfiodaaDoorLdProg
namespace Go.Proofs.YteagakplhfiodaaDoor.ld
open Go.RowKit Go.Proofs.YteagakplhfiodaaDoor.bts Go.Proofs.YteagakplhfiodaaDoor.pg Go.Proofs.YteagakplhfiodaaDoor.chk Go.Proofs.YteagakplhfiodaaDoor.sv Go.Proofs.YteagakplhfiodaaDoor.th

set_option maxRecDepth 100000 in
set_option maxHeartbeats 8000000 in
theorem specLoad_any (av : Option Addr) (cv : Nat) (bs : List Int) (w : World) (hr : Rd w av bs) (hb : BB bs) (hl : bs.length ≤ 1048576) (q : Pg) (c : Int) (hA : (Lo bs (some q) ∧ c = 0) ∨ (Lo bs none ∧ q = ⟨[], []⟩ ∧ c = 1)) :
    Calls Tryd.prog 4 #[.slice av bs.length cv] w (PL w q c) := by
  have BY : Hid (∀ W s, Sq w av cv bs W (w.heap.size + 1) s → Calls Tryd.prog 13 #[.pointer (some ⟨w.heap.size + 1, 0, none⟩)] W fun e w' => ∃ (z : Nat) (s' : Option (List Int)), e = .returned (.int .i64 (z : Int)) ∧ z ≤ 255 ∧ Got (s.bind byteD) (z : Int) s' ∧ Sq w av cv bs w' (w.heap.size + 1) s' ∧ Fq (w.heap.size + 1) W w') := fun W s h => l5byte_any w W av cv _ bs s hr hb hl h
  have NM : Hid (∀ W s, Sq w av cv bs W (w.heap.size + 1) s → Calls Tryd.prog 12 #[.pointer (some ⟨w.heap.size + 1, 0, none⟩)] W fun e w' => ∃ (n : Nat) (s' : Option (List Int)), e = .returned (.int .i64 (n : Int)) ∧ n < 2097152 ∧ Got (s.bind lum) n s' ∧ Sq w av cv bs w' (w.heap.size + 1) s' ∧ Fq (w.heap.size + 1) W w') := fun W s h => l5num_any w W av cv _ bs s hr hb hl h
  obtain ⟨ik, hik, hkz0, hkz1, hkz2⟩ := info_parts info_const
  obtain ⟨ip, hip, hpz0, hpz1, hpz2⟩ := info_parts info_proto
  obtain ⟨ic0, hic, hcz0, hcz1, hcz2⟩ := info_parts info_cap
  obtain ⟨ii, hii, hiz0, hiz1, hiz2⟩ := info_parts info_ins
  have HA : Hid ((Lo bs (some q) ∧ c = 0) ∨ (Lo bs none ∧ q = ⟨[], []⟩ ∧ c = 1)) := hA
  have HBS : Hid (Rd w av bs ∧ BB bs ∧ bs.length ≤ 1048576) := ⟨hr, hb, hl⟩
  obtain ⟨W0, hW0⟩ : ∃ W0, W0 = ((w.alloc (.cells #[.slice none 0 0, .slice none 0 0] 26)).alloc (.cells #[.slice av bs.length cv, .int .i64 4, .bool false] 37)).alloc (.cells #[.slice none 0 0, .slice none 0 0] 26) := ⟨_, rfl⟩
  have b0 : Below w.heap.size w W0 := by rw [hW0]; exact (((Below.refl _ _).alloc (Nat.le_refl _) _).alloc (by simp) _).alloc (by simp; omega) _
  have z0 : W0.heap.size = w.heap.size + 3 := by rw [hW0]; simp
  have L0 : Hid (Lone 26 2 W0 w.heap.size [.slice none 0 0, .slice none 0 0]) := by
    show Lone _ _ _ _ _
    rw [hW0]
    exact ((lone_new w rfl).below ((Below.refl _ _).alloc (Nat.le_refl _) _) (by simp)).below ((Below.refl _ _).alloc (Nat.le_refl _) _) (by simp; omega)
  have M0 : Hid (Lone 26 2 W0 (w.heap.size + 1 + 1) [.slice none 0 0, .slice none 0 0]) := by
    have := lone_new (T := 26) (c := 2) ((w.alloc (.cells #[.slice none 0 0, .slice none 0 0] 26)).alloc (.cells #[.slice av bs.length cv, .int .i64 4, .bool false] 37)) (xs := [.slice none 0 0, .slice none 0 0]) rfl
    simp only [World.size_alloc] at this
    show Lone _ _ _ _ _
    rw [hW0]
    exact this
  have S0 : Hid (Sq w av cv bs W0 (w.heap.size + 1) (some (bs.drop 4))) := by
    have := lone_new (T := 37) (c := 3) (w.alloc (.cells #[.slice none 0 0, .slice none 0 0] 26)) (xs := [.slice av bs.length cv, .int .i64 4, .bool false]) rfl
    simp only [World.size_alloc] at this
    refine ⟨b0, by omega, 4, false, ?_, by omega, fun xs e => (by cases e; exact ⟨rfl, rfl⟩), fun e => (by cases e)⟩
    rw [hW0]
    exact this.below ((Below.refl _ _).alloc (Nat.le_refl _) _) (by simp)
  have HW0 : Hid (W0 = ((w.alloc (.cells #[.slice none 0 0, .slice none 0 0] 26)).alloc (.cells #[.slice av bs.length cv, .int .i64 4, .bool false] 37)).alloc (.cells #[.slice none 0 0, .slice none 0 0] 26)) := hW0
  obtain ⟨n0, hn0⟩ : ∃ n0, n0 = bs.length := ⟨_, rfl⟩
  rw [← hn0] at HW0 ⊢
  have HN0 : Hid (n0 = bs.length) := hn0
  clear hr hb hl hA b0 hW0 hn0
  go_enter Tryd.func4, Tryd.ntmps4
  go_wp2_with fail
  rw [← HW0.out]
  clear HW0
  refine (NM.out _ _ S0.out).mono ?_
  rintro e w1 ⟨n, s1, rfl, hn, g1, h1, q1⟩
  have L1 : Hid (Lone 26 2 w1 w.heap.size [.slice none 0 0, .slice none 0 0]) := q1.lone L0.out (by omega)
  have M1 : Hid (Lone 26 2 w1 (w.heap.size + 1 + 1) [.slice none 0 0, .slice none 0 0]) := q1.lone M0.out (by omega)
  have S1 : Hid (Sq w av cv bs w1 (w.heap.size + 1) s1) := h1
  have Z1 : Hid (w.heap.size + 3 ≤ w1.heap.size) := by show _ ≤ _; have := q1.below.size; omega
  have HG1 : Hid (Got ((some (bs.drop 4)).bind lum) n s1) := g1
  have HZ1 : Hid (∀ ys, s1 = some ys → 0 + ys.length ≤ 1048576) := fun ys e => by
    have h2 := HBS.out.2.2
    rcases g1 with ⟨_, e'⟩ | ⟨zs, e', e''⟩
    · rw [e] at e'; cases e'
    · rw [e] at e''
      cases e''
      have := lum_len e'
      simp only [List.length_drop] at this
      omega
  clear g1 h1 q1 L0 M0 S0 z0
  go_wp2_with fail
  go_loopw [7] (fun x wr => ∃ (k ck : Nat) (ak : Option Addr) (l : List Cn) (s' : Option (List Int)), k ≤ n ∧ k ≤ 1048577 ∧ x = .int .i64 (k : Int) ∧ Hid (l.length = k) ∧ Hid (OLk wr (w.heap.size + 3) ak k ck l) ∧ Hid (Lone 26 2 wr (w.heap.size + 1 + 1) [.slice ak k ck, .slice none 0 0]) ∧ Hid (Lone 26 2 wr w.heap.size [.slice none 0 0, .slice none 0 0]) ∧ Hid (s1.bind (listD (constD lum flagL) n) = (s'.bind (listD (constD lum flagL) (n - k))).map fun y => (l ++ y.1, y.2)) ∧ Hid (∀ ys, s' = some ys → k + ys.length ≤ 1048576) ∧ Hid (Sq w av cv bs wr (w.heap.size + 1) s') ∧ Hid (w.heap.size + 3 ≤ wr.heap.size)) (fun x _ => n - (intOf x).toNat)
  case atStart => exact ⟨0, 0, none, [], s1, by omega, by omega, rfl, rfl, olk_nil _ _, M1.out, L1.out, list_start, HZ1.out, S1.out, Z1.out⟩
  case round =>
    obtain ⟨k, ck, ak, l, s2, hk, hk2, rfl, HLn, HO, M2, L2, HN, HZ, S2, Z2⟩ := hrel
    clear L1 M1 S1 Z1 HZ1
    obtain ⟨bd, cb, hbd⟩ := S2.out.bad
    by_cases hlt : k < n
    · have hlt' : (k : Int) < (n : Int) := by omega
      cases bd with
      | true =>
        obtain rfl : s2 = none := hbd.1 rfl
        clear hbd
        have HPN : Hid (progL bs = none) := progL_bad (got_then (e := fun (n : Nat) (ys : List Int) => listD (constD lum flagL) n ys) HG1.out (.inl ⟨list_bad rfl HN.out, rfl⟩ : Got (s1.bind (listD (constD lum flagL) n)) l none))
        go_wp2_with fail
        refine (NM.out _ _ S2.out).mono ?_
        rintro e w3 ⟨n2, s3, rfl, hn2, g3, h3, q3⟩
        obtain rfl : s3 = none := by
          rcases g3 with ⟨_, e⟩ | ⟨_, e, _⟩
          · exact e
          · cases e
        have L3 : Hid (Lone 26 2 w3 w.heap.size [.slice none 0 0, .slice none 0 0]) := q3.lone L2.out (by omega)
        have S3 : Hid (Sq w av cv bs w3 (w.heap.size + 1) none) := h3
        obtain ⟨bd3, cb3, hbd3⟩ := h3.bad
        obtain rfl : bd3 = true := hbd3.2 rfl
        clear h3 q3 g3 hbd3 L2 M2 S2 HO
        go_wp2_with fail
        refine wp_loop_rounds 1 ?_
        rw [rounds_succ]
        by_cases hp2 : (0 : Int) < (n2 : Int)
        · go_wp2_with fail
          go_quiet (fail)
          have Lq := drew_lone L3.out nq
          have r0 := Lq.at (j := 0) (by omega)
          have r1 := Lq.at (j := 1) (by omega)
          have u0 := Lq.free 0
          have u1 := Lq.free 1
          simp only [List.getElem?_cons_zero, List.getElem?_cons_succ] at r0 r1
          have BD : Hid (Lone 26 2 (((w3.drewN nq).setCell ⟨w.heap.size, 0, none⟩ (.slice none 0 0)).setCell ⟨w.heap.size, 1, none⟩ (.slice none 0 0)) w.heap.size [.slice none 0 0, .slice none 0 0] ∧ Below w.heap.size w (((w3.drewN nq).setCell ⟨w.heap.size, 0, none⟩ (.slice none 0 0)).setCell ⟨w.heap.size, 1, none⟩ (.slice none 0 0))) := ⟨(Lq.set 0 _).set 1 _, ((bel_drewN S3.out.1 nq).setCell (p := ⟨w.heap.size, 0, none⟩) (Nat.le_refl _) _).setCell (p := ⟨w.heap.size, 1, none⟩) (Nat.le_refl _) _⟩
          have FN : Hid (∀ W, W = (((w3.drewN nq).setCell ⟨w.heap.size, 0, none⟩ (.slice none 0 0)).setCell ⟨w.heap.size, 1, none⟩ (.slice none 0 0)) → PL w q c (.returned (.tuple #[.agg #[.slice none 0 0, .slice none 0 0], .int .i64 1])) W) := fun W e => by
            obtain ⟨rfl, rfl⟩ : q = ⟨[], []⟩ ∧ c = 1 := by
              rcases HA.out with ⟨h, _⟩ | ⟨_, h⟩
              · exact absurd (lo_some HBS.out.2.1 HBS.out.2.2 h).1 (by rw [HPN.out]; simp)
              · exact h
            rw [e]
            exact ⟨none, none, 0, 0, 0, 0, rfl, prg_nil BD.out.2.size, BD.out.2⟩
          clear Lq
          generalize w3.drewN nq = Wq at r0 r1 u0 u1 BD FN ⊢
          go_wp2
          refine bodyPost_ret (res2 Tryd.results4 _ _ w.heap.size 26 _ _ _ rfl (Lone.back BD.out.1) Tryd.underlying26 rfl rfl) rfl ?_
          exact FN.out _ rfl
        · go_wp2_with fail
          go_quiet (fail)
          have Lq := drew_lone L3.out nq
          have r0 := Lq.at (j := 0) (by omega)
          have r1 := Lq.at (j := 1) (by omega)
          have u0 := Lq.free 0
          have u1 := Lq.free 1
          simp only [List.getElem?_cons_zero, List.getElem?_cons_succ] at r0 r1
          have BD : Hid (Lone 26 2 (((w3.drewN nq).setCell ⟨w.heap.size, 0, none⟩ (.slice none 0 0)).setCell ⟨w.heap.size, 1, none⟩ (.slice none 0 0)) w.heap.size [.slice none 0 0, .slice none 0 0] ∧ Below w.heap.size w (((w3.drewN nq).setCell ⟨w.heap.size, 0, none⟩ (.slice none 0 0)).setCell ⟨w.heap.size, 1, none⟩ (.slice none 0 0))) := ⟨(Lq.set 0 _).set 1 _, ((bel_drewN S3.out.1 nq).setCell (p := ⟨w.heap.size, 0, none⟩) (Nat.le_refl _) _).setCell (p := ⟨w.heap.size, 1, none⟩) (Nat.le_refl _) _⟩
          have FN : Hid (∀ W, W = (((w3.drewN nq).setCell ⟨w.heap.size, 0, none⟩ (.slice none 0 0)).setCell ⟨w.heap.size, 1, none⟩ (.slice none 0 0)) → PL w q c (.returned (.tuple #[.agg #[.slice none 0 0, .slice none 0 0], .int .i64 1])) W) := fun W e => by
            obtain ⟨rfl, rfl⟩ : q = ⟨[], []⟩ ∧ c = 1 := by
              rcases HA.out with ⟨h, _⟩ | ⟨_, h⟩
              · exact absurd (lo_some HBS.out.2.1 HBS.out.2.2 h).1 (by rw [HPN.out]; simp)
              · exact h
            rw [e]
            exact ⟨none, none, 0, 0, 0, 0, rfl, prg_nil BD.out.2.size, BD.out.2⟩
          clear Lq
          generalize w3.drewN nq = Wq at r0 r1 u0 u1 BD FN ⊢
          go_wp2
          refine bodyPost_ret (res2 Tryd.results4 _ _ w.heap.size 26 _ _ _ rfl (Lone.back BD.out.1) Tryd.underlying26 rfl rfl) rfl ?_
          exact FN.out _ rfl
      | false =>
        obtain ⟨-, hok, ut, hbk⟩ := HO.out
        have HOK : Hid (KOk l) := hok
        have HBK : Hid (BK wr (w.heap.size + 3) (.slice ak k ck) k (fun j => l.getD j cn0) ut) := hbk
        have hk3 : k ≤ 1048576 := by
          match s2, hbd, HZ.out with
          | none, h, _ => exact absurd (h.2 rfl) (by simp)
          | some ys, _, h => have := h ys rfl; omega
        clear hok hbk HO hbd
        go_wp2_with fail
        clear cb
        refine (BY.out _ _ S2.out).mono ?_
        rintro e w2 ⟨z, s3, rfl, hz, g3, h3, q3⟩
        have zr := Z2.out
        have HG3 : Hid (Got (s2.bind flagL) (decide ((z : Int) = 1)) s3) := got_flagL g3
        have S3 : Hid (Sq w av cv bs w2 (w.heap.size + 1) s3) := h3
        have L3 : Hid (Lone 26 2 w2 w.heap.size [.slice none 0 0, .slice none 0 0]) := q3.lone L2.out (by omega)
        have M3 : Hid (Lone 26 2 w2 (w.heap.size + 1 + 1) [.slice ak k ck, .slice none 0 0]) := q3.lone M2.out (by omega)
        have K3 : Hid (BK w2 (w.heap.size + 3) (.slice ak k ck) k (fun j => l.getD j cn0) ut) := HBK.out.hold (fun b h1 h2 => q3.keep b h2 (by omega))
        have Z3 : Hid (wr.heap.size ≤ w2.heap.size) := q3.below.size
        have HSEP : Hid ((∀ b, (Value.slice ak k ck).ownBlock = some b → b < w2.heap.size) ∧ ∀ j, j < k → ∀ b, (ut j).ownBlock = some b → b < w2.heap.size) := ⟨fun b e => by have := (HBK.out.lt b e).2; have := Z3.out; omega, fun j hj b e => by have := ((HBK.out.texts j hj).lt b e).2; have := Z3.out; omega⟩
        clear g3 h3 q3 S2 L2 M2
        by_cases hz1 : (z : Int) = 1
        · have hg := HG3.out
          rw [decide_eq_true hz1] at hg
          have HG4 : Hid (Got (s2.bind flagL) true s3) := hg
          clear hg HG3
          have b4 : Below w2.heap.size w2 (w2.alloc (.cells #[.bool true, .int .i64 0, .slice none 0 0] 40)) := (Below.refl _ _).alloc (Nat.le_refl _) _
          have S4 : Hid (Sq w av cv bs (w2.alloc (.cells #[.bool true, .int .i64 0, .slice none 0 0] 40)) (w.heap.size + 1) s3) := S3.out.keep b4
          have z2 : w.heap.size + 3 ≤ w2.heap.size := by have := Z3.out; omega
          have L4 : Hid (Lone 26 2 (w2.alloc (.cells #[.bool true, .int .i64 0, .slice none 0 0] 40)) w.heap.size [.slice none 0 0, .slice none 0 0]) := L3.out.below b4 (by omega)
          have M4 : Hid (Lone 26 2 (w2.alloc (.cells #[.bool true, .int .i64 0, .slice none 0 0] 40)) (w.heap.size + 1 + 1) [.slice ak k ck, .slice none 0 0]) := M3.out.below b4 (by omega)
          have C4 : Hid (Lone 40 3 (w2.alloc (.cells #[.bool true, .int .i64 0, .slice none 0 0] 40)) w2.heap.size [.bool true, .int .i64 0, .slice none 0 0]) := lone_new w2 rfl
          have K4 : Hid (BK (w2.alloc (.cells #[.bool true, .int .i64 0, .slice none 0 0] 40)) (w.heap.size + 3) (.slice ak k ck) k (fun j => l.getD j cn0) ut) := K3.out.hold (fun b h1 h2 => b4.block b h2)
          have Z4 : Hid (w2.heap.size < (w2.alloc (.cells #[.bool true, .int .i64 0, .slice none 0 0] 40)).heap.size) := by show _ < _; simp
          clear b4 S3 L3 M3 K3
          go_wp2_with fail
          generalize w2.alloc (.cells #[.bool true, .int .i64 0, .slice none 0 0] 40) = W4 at S4 L4 M4 C4 K4 Z4 ⊢
          refine (NM.out _ _ S4.out).mono ?_
          rintro e w4 ⟨m, s4, rfl, hm, g4, h4, q4⟩
          have HG5 : Hid (Got (s3.bind lum) m s4) := g4
          have S5 : Hid (Sq w av cv bs w4 (w.heap.size + 1) s4) := h4
          have L5 : Hid (Lone 26 2 w4 w.heap.size [.slice none 0 0, .slice none 0 0]) := q4.lone L4.out (by omega)
          have M5 : Hid (Lone 26 2 w4 (w.heap.size + 1 + 1) [.slice ak k ck, .slice none 0 0]) := q4.lone M4.out (by omega)
          have C5 : Hid (Lone 40 3 w4 w2.heap.size [.bool true, .int .i64 0, .slice none 0 0]) := q4.lone C4.out (by omega)
          have K5 : Hid (BK w4 (w.heap.size + 3) (.slice ak k ck) k (fun j => l.getD j cn0) ut) := K4.out.hold (fun b h1 h2 => q4.keep b h2 (by omega))
          have Z5 : Hid (w2.heap.size + 1 ≤ w4.heap.size) := by show _ ≤ _; have h1 := q4.below.size; have h2 := Z4.out; omega
          clear g4 h4 q4 S4 L4 M4 C4 K4 Z4
          go_wp2_with fail
          go_loopw [10] (fun x wr2 => ∃ (j ct : Nat) (aT : Option Addr) (ys : List Int) (s' : Option (List Int)), j ≤ m ∧ x = .int .i64 (j : Int) ∧ Hid (ys.length = j) ∧ Hid (Bts ys) ∧ Hid (wr2.ownsRow (w2.heap.size + 1) 5 1 (.slice aT j ct) j (bcells ys)) ∧ Hid (Lone 40 3 wr2 w2.heap.size [.bool true, .int .i64 0, .slice aT j ct]) ∧ Hid (Lone 26 2 wr2 w.heap.size [.slice none 0 0, .slice none 0 0]) ∧ Hid (Lone 26 2 wr2 (w.heap.size + 1 + 1) [.slice ak k ck, .slice none 0 0]) ∧ Hid (BK wr2 (w.heap.size + 3) (.slice ak k ck) k (fun j => l.getD j cn0) ut) ∧ Hid (Got (s4.bind (takeD j)) ys s') ∧ Hid (Sq w av cv bs wr2 (w.heap.size + 1) s') ∧ Hid (w2.heap.size + 1 ≤ wr2.heap.size)) (fun x _ => m - (intOf x).toNat)
          case atStart =>
            refine ⟨0, 0, none, [], s4, by omega, rfl, rfl, fun i => by simp, World.ownsRow_nil _ _ _ _, C5.out, L5.out, M5.out, K5.out, ?_, S5.out, Z5.out⟩
            cases s4 with
            | none => exact .inl ⟨rfl, rfl⟩
            | some xs => exact .inr ⟨xs, by simp [takeD], rfl⟩
          case round =>
            obtain ⟨j, ct, aT, ys, s5, hj, rfl, HYl, HYb, HT, C6, L6, M6, K6, HGt, S6, Z6⟩ := hrel
            clear S5 L5 M5 C5 K5 Z5
            have zz : w.heap.size + 3 ≤ w2.heap.size := by have h2 := Z3.out; omega
            obtain ⟨bd2, cb2, hbd2⟩ := S6.out.bad
            by_cases hjl : j < m
            · have hjl' : (j : Int) < (m : Int) := by omega
              cases bd2 with
              | true =>
                obtain rfl : s5 = none := hbd2.1 rfl
                clear hbd2
                have HGC : Hid (Got (s2.bind (constD lum flagL)) (⟨true, 0, ys⟩ : Cn) none) := by
                  have g5 := got_then (e := fun (y : Nat) (zs : List Int) => (takeD y zs).map fun x : List Int × List Int => ((⟨true, 0, x.1⟩ : Cn), x.2)) HG5.out (got_map (fun t : List Int => (⟨true, 0, t⟩ : Cn)) (got_take_bad (Nat.le_of_lt hjl) HGt.out))
                  have g4 := got_then (e := fun (t : Bool) (zs : List Int) => if t then (lum zs).bind fun y => (takeD y.1 y.2).map fun x : List Int × List Int => ((⟨true, 0, x.1⟩ : Cn), x.2) else (eightD zs).map fun y => ((⟨false, y.1, []⟩ : Cn), y.2)) HG4.out (by simpa using g5)
                  exact g4
                have t0 : wr.cell? ⟨w2.heap.size, 0, none⟩ = some (.bool true) := C6.out.at (j := 0) (by omega)
                have t1 : wr.cell? ⟨w2.heap.size, 1, none⟩ = some (.int .i64 0) := C6.out.at (j := 1) (by omega)
                have t2 : wr.cell? ⟨w2.heap.size, 2, none⟩ = some (.slice aT j ct) := C6.out.at (j := 2) (by omega)
                obtain ⟨us, hus, hx⟩ := K6.out.row
                have b7 : Below wr.heap.size wr (wr.alloc (.cells #[.bool true, .int .i64 0, .slice aT j ct] 40)) := (Below.refl _ _).alloc (Nat.le_refl _) _
                have HUS : Hid ((wr.alloc (.cells #[.bool true, .int .i64 0, .slice aT j ct] 40)).ownsRow (w.heap.size + 3) 40 3 (.slice ak k ck) k us) := th.own_hold hus (fun b h1 h2 _ => b7.block b h2)
                have HX : Hid (∀ j, j < k → us[j * 3]? = some (.bool (l.getD j cn0).isText) ∧ us[j * 3 + 1]? = some (.int .i64 (l.getD j cn0).n) ∧ us[j * 3 + 2]? = some (ut j)) := hx
                have NW : Hid (0 < 1 → ∃ ad, (some ⟨wr.heap.size, 0, none⟩ : Option Addr) = some ad ∧ ∀ ix ux, [.bool true, .int .i64 0, .slice aT j ct][ix]? = some ux → (wr.alloc (.cells #[.bool true, .int .i64 0, .slice aT j ct] 40)).cell? (ad.add ix) = some ux) := fun _ => ⟨_, rfl, fun ix ux e => by
                  rw [plainAt, Nat.zero_add]
                  exact cellNew (w := wr) (cs := #[.bool true, .int .i64 0, .slice aT j ct]) (t := 40) (j := ix) (v := ux) (by simpa using e)⟩
                have zv : w.heap.size + 3 ≤ wr.heap.size := (by have h1 := Z6.out; have h2 := Z3.out; omega)
                have M7 : Hid (Lone 26 2 (wr.alloc (.cells #[.bool true, .int .i64 0, .slice aT j ct] 40)) (w.heap.size + 1 + 1) [.slice ak k ck, .slice none 0 0]) := M6.out.below b7 (by omega)
                have L7 : Hid (Lone 26 2 (wr.alloc (.cells #[.bool true, .int .i64 0, .slice aT j ct] 40)) w.heap.size [.slice none 0 0, .slice none 0 0]) := L6.out.below b7 (by omega)
                have S7 : Hid (Sq w av cv bs (wr.alloc (.cells #[.bool true, .int .i64 0, .slice aT j ct] 40)) (w.heap.size + 1) none) := S6.out.keep b7
                have K7 : Hid (BK (wr.alloc (.cells #[.bool true, .int .i64 0, .slice aT j ct] 40)) (w.heap.size + 3) (.slice ak k ck) k (fun j => l.getD j cn0) ut) := K6.out.hold (fun b h1 h2 => b7.block b h2)
                have T7 : Hid (RwS (wr.alloc (.cells #[.bool true, .int .i64 0, .slice aT j ct] 40)) (w2.heap.size) (.slice aT j ct) ys ∧ Bts ys ∧ ys.length ≤ 2097152) := ⟨(⟨⟨aT, ct, by rw [HYl.out]⟩, by rw [HYl.out]; exact th.own_hold (own_weaken HT.out (by omega)) (fun b h1 h2 _ => b7.block b h2)⟩), HYb.out, by rw [HYl.out]; omega⟩
                have p0 : wr.cell? ⟨w.heap.size + 1 + 1, 0, none⟩ = some (.slice ak k ck) := M6.out.at (j := 0) (by omega)
                have z22 : w.heap.size + 3 ≤ w2.heap.size := by have := Z3.out; omega
                clear hus hx b7
                go_wp2_with (at_builtin; refine wpList_append_row rfl _ _ _ rfl 40 ik (.agg #[.bool false, .int .i64 0, .slice none 0 0]) 3 40 Tryd.underlying23 hik hkz0 hkz1 hkz2 rfl (by omega) (w.heap.size + 3) ak k ck us rfl HUS.out (some ⟨wr.heap.size, 0, none⟩) 1 1 [.bool true, .int .i64 0, .slice aT j ct] rfl rfl NW.out (by simp [Value.oneCell']) (by unfold maxLen; omega) (by omega) (by simp; omega) ?_; intro ak5 ck5 w5 hA; have HA5 : Hid (AppR 40 3 (wr.alloc (.cells #[.bool true, .int .i64 0, .slice aT j ct] 40)) (w.heap.size + 3) ak k ck (us ++ [.bool true, .int .i64 0, .slice aT j ct]) ak5 (k + 1) ck5 w5) := hA; have hrow : ∀ b, (Value.slice ak k ck).ownBlock = some b → w.heap.size + 3 ≤ b := fun b e => (HUS.out.lt b e).1; have M8 : Hid (Lone 26 2 w5 (w.heap.size + 1 + 1) [.slice ak k ck, .slice none 0 0]) := (lone_grown M7.out hA.grow (fun e => by have := hrow _ e; omega)); have p8 := M8.out.at (j := 0) (by omega); have f8 := M8.out.free 0; simp only [List.getElem?_cons_zero] at p8; clear hA)
                have hO9 := olk_snoc (M := w2.heap.size) HLn.out (by omega) HOK.out K7.out HSEP.out.1 HSEP.out.2 (T7.out.1.weaken (by omega)) (fun b e => (T7.out.1.lt b e).1) T7.out.2.1 (by have := T7.out.2.2; omega) HUS.out HX.out HA5.out
                have z9 : w.heap.size + 3 ≤ w5.heap.size := by have := HA5.out.grow.size; simp at this; omega
                have L9 : Lone 26 2 w5 w.heap.size [.slice none 0 0, .slice none 0 0] := lone_grown L7.out HA5.out.grow (fun e => by have := hrow _ e; omega)
                have S9 : Sq w av cv bs w5 (w.heap.size + 1) none := S7.out.app HA5.out.grow (fun b e => by have := hrow b e; omega)
                refine ⟨⟨k + 1, ck5, ak5, l ++ [(⟨true, 0, ys⟩ : Cn)], none, by omega, by omega, by go_num, by show (l ++ [_]).length = k + 1; simp [HLn.out], OLk.hold hO9 (set_other (by omega)), M8.out.set 0 _, L9.other (by omega), list_next hlt HN.out HGC.out, ?_, S9.far (by omega), by show _ ≤ _; simp; omega⟩, by simp [intOf]; omega⟩
                exact fun ys e => by
                  have h := HGC.out
                  rw [e] at h
                  exact got_less (fun h => by have := constD_len lum_len flagL_len h; omega) HZ.out h
              | false =>
                clear hbd2
                go_wp2_with fail
                clear cb2
                refine (BY.out _ _ S6.out).mono ?_
                rintro e w6 ⟨z6, s6, rfl, hz6, g6, h6, q6⟩
                have HG6 : Hid (Got (s4.bind (takeD (j + 1))) (ys ++ [(z6 : Int)]) s6) := got_take HGt.out g6
                have L6' : Hid (Lone 26 2 w6 w.heap.size [.slice none 0 0, .slice none 0 0]) := q6.lone L6.out (by omega)
                have M6' : Hid (Lone 26 2 w6 (w.heap.size + 1 + 1) [.slice ak k ck, .slice none 0 0]) := q6.lone M6.out (by omega)
                have C6' : Hid (Lone 40 3 w6 w2.heap.size [.bool true, .int .i64 0, .slice aT j ct]) := q6.lone C6.out (by omega)
                have K6' : Hid (BK w6 (w.heap.size + 3) (.slice ak k ck) k (fun j => l.getD j cn0) ut) := K6.out.hold (fun b h1 h2 => q6.keep b h2 (by omega))
                have T6' : Hid (w6.ownsRow (w2.heap.size + 1) 5 1 (.slice aT j ct) j (bcells ys)) := th.own_hold HT.out (fun b h1 h2 _ => q6.keep b h2 (by omega))
                have S6' : Hid (Sq w av cv bs w6 (w.heap.size + 1) s6) := h6
                have z6s : w2.heap.size + 1 ≤ w6.heap.size := Nat.le_trans Z6.out q6.below.size
                clear g6 h6 q6 L6 M6 C6 K6 HT S6 HGt Z6
                have b7 : Below w6.heap.size w6 (w6.alloc (.cells #[.int .u8 (z6 : Int)] 5)) := (Below.refl _ _).alloc (Nat.le_refl _) _
                have T7 : Hid ((w6.alloc (.cells #[.int .u8 (z6 : Int)] 5)).ownsRow (w2.heap.size + 1) 5 1 (.slice aT j ct) j (bcells ys)) := th.own_hold T6'.out (fun b h1 h2 _ => b7.block b h2)
                have R7 : Hid (Rd (w6.alloc (.cells #[.int .u8 (z6 : Int)] 5)) (some ⟨w6.heap.size, 0, none⟩) [(z6 : Int)]) := rd_one w6 _
                have C7 : Hid (Lone 40 3 (w6.alloc (.cells #[.int .u8 (z6 : Int)] 5)) w2.heap.size [.bool true, .int .i64 0, .slice aT j ct]) := C6'.out.below b7 (by omega)
                have L7 : Hid (Lone 26 2 (w6.alloc (.cells #[.int .u8 (z6 : Int)] 5)) w.heap.size [.slice none 0 0, .slice none 0 0]) := L6'.out.below b7 (by omega)
                have M7 : Hid (Lone 26 2 (w6.alloc (.cells #[.int .u8 (z6 : Int)] 5)) (w.heap.size + 1 + 1) [.slice ak k ck, .slice none 0 0]) := M6'.out.below b7 (by omega)
                have K7 : Hid (BK (w6.alloc (.cells #[.int .u8 (z6 : Int)] 5)) (w.heap.size + 3) (.slice ak k ck) k (fun j => l.getD j cn0) ut) := K6'.out.hold (fun b h1 h2 => b7.block b h2)
                have S7 : Hid (Sq w av cv bs (w6.alloc (.cells #[.int .u8 (z6 : Int)] 5)) (w.heap.size + 1) s6) := S6'.out.keep b7
                have t2 : w6.cell? ⟨w2.heap.size, 2, none⟩ = some (.slice aT j ct) := C6'.out.at (j := 2) (by omega)
                clear b7 L6' M6' C6' K6' T6' S6'
                go_wp2_with (at_builtin; refine wpList_append_bytes rfl _ _ rfl (w2.heap.size + 1) aT j ct ys rfl T7.out (some ⟨w6.heap.size, 0, none⟩) 1 1 [(z6 : Int)] rfl rfl R7.out (by omega) (by simp; omega) ?_; intro aT7 ct7 w7 hA; have HA7 : Hid (App (w6.alloc (.cells #[.int .u8 (z6 : Int)] 5)) (w2.heap.size + 1) aT j ct (ys ++ [(z6 : Int)]) aT7 (j + 1) ct7 w7) := hA; have hrow : ∀ b, (Value.slice aT j ct).ownBlock = some b → w2.heap.size + 1 ≤ b := fun b e => (T7.out.lt b e).1; have C8 : Hid (Lone 40 3 w7 w2.heap.size [.bool true, .int .i64 0, .slice aT j ct]) := (lone_grown C7.out hA.grow (fun e => by have := hrow _ e; omega)); have p8 := C8.out.at (j := 2) (by omega); have f8 := C8.out.free 2; simp only [List.getElem?_cons_zero, List.getElem?_cons_succ] at p8; clear hA)
                have L9 : Lone 26 2 w7 w.heap.size [.slice none 0 0, .slice none 0 0] := lone_grown L7.out HA7.out.grow (fun e => by have := hrow _ e; omega)
                have M9 : Lone 26 2 w7 (w.heap.size + 1 + 1) [.slice ak k ck, .slice none 0 0] := lone_grown M7.out HA7.out.grow (fun e => by have := hrow _ e; omega)
                have S9 : Sq w av cv bs w7 (w.heap.size + 1) s6 := S7.out.app HA7.out.grow (fun b e => by have := hrow b e; omega)
                have K9 : BK w7 (w.heap.size + 3) (.slice ak k ck) k (fun j => l.getD j cn0) ut := bk_grown K7.out HA7.out.grow (fun b e => by have := hrow b e; exact ⟨fun e' => by have := HSEP.out.1 b e'; omega, fun i hi e' => by have := HSEP.out.2 i hi b e'; omega⟩)
                have z9 : w2.heap.size + 1 ≤ w7.heap.size := by have := HA7.out.grow.size; simp at this; omega
                exact ⟨⟨j + 1, ct7, aT7, ys ++ [(z6 : Int)], s6, by omega, by go_num, by show (ys ++ [_]).length = j + 1; simp [HYl.out], bts_snoc HYb.out (by omega) (by omega), th.own_hold HA7.out.own (fun b h1 h2 _ => set_other (B := w2.heap.size + 1) (by omega) b h1 h2), C8.out.set 2 _, L9.other (by omega), M9.other (by omega), bk_far K9 (R := w2.heap.size) (fun b _ hne => Below.heap_setCell w7 ⟨w2.heap.size, 2, none⟩ _ b hne) ⟨fun e => by have := HSEP.out.1 _ e; omega, fun i hi e => by have := HSEP.out.2 i hi _ e; omega⟩, HG6.out, S9.far (by omega), by show _ ≤ _; simp; omega⟩, by simp [intOf]; omega⟩
            · obtain rfl : j = m := by omega
              have HGC : Hid (Got (s2.bind (constD lum flagL)) (⟨true, 0, ys⟩ : Cn) s5) := by
                have g5 := got_then (e := fun (y : Nat) (zs : List Int) => (takeD y zs).map fun x : List Int × List Int => ((⟨true, 0, x.1⟩ : Cn), x.2)) HG5.out (got_map (fun t : List Int => (⟨true, 0, t⟩ : Cn)) HGt.out)
                have g4 := got_then (e := fun (t : Bool) (zs : List Int) => if t then (lum zs).bind fun y => (takeD y.1 y.2).map fun x : List Int × List Int => ((⟨true, 0, x.1⟩ : Cn), x.2) else (eightD zs).map fun y => ((⟨false, y.1, []⟩ : Cn), y.2)) HG4.out (by simpa using g5)
                exact g4
              have t0 : wr.cell? ⟨w2.heap.size, 0, none⟩ = some (.bool true) := C6.out.at (j := 0) (by omega)
              have t1 : wr.cell? ⟨w2.heap.size, 1, none⟩ = some (.int .i64 0) := C6.out.at (j := 1) (by omega)
              have t2 : wr.cell? ⟨w2.heap.size, 2, none⟩ = some (.slice aT j ct) := C6.out.at (j := 2) (by omega)
              obtain ⟨us, hus, hx⟩ := K6.out.row
              have b7 : Below wr.heap.size wr (wr.alloc (.cells #[.bool true, .int .i64 0, .slice aT j ct] 40)) := (Below.refl _ _).alloc (Nat.le_refl _) _
              have HUS : Hid ((wr.alloc (.cells #[.bool true, .int .i64 0, .slice aT j ct] 40)).ownsRow (w.heap.size + 3) 40 3 (.slice ak k ck) k us) := th.own_hold hus (fun b h1 h2 _ => b7.block b h2)
              have HX : Hid (∀ j, j < k → us[j * 3]? = some (.bool (l.getD j cn0).isText) ∧ us[j * 3 + 1]? = some (.int .i64 (l.getD j cn0).n) ∧ us[j * 3 + 2]? = some (ut j)) := hx
              have NW : Hid (0 < 1 → ∃ ad, (some ⟨wr.heap.size, 0, none⟩ : Option Addr) = some ad ∧ ∀ ix ux, [.bool true, .int .i64 0, .slice aT j ct][ix]? = some ux → (wr.alloc (.cells #[.bool true, .int .i64 0, .slice aT j ct] 40)).cell? (ad.add ix) = some ux) := fun _ => ⟨_, rfl, fun ix ux e => by
                rw [plainAt, Nat.zero_add]
                exact cellNew (w := wr) (cs := #[.bool true, .int .i64 0, .slice aT j ct]) (t := 40) (j := ix) (v := ux) (by simpa using e)⟩
              have zv : w.heap.size + 3 ≤ wr.heap.size := (by have h1 := Z6.out; have h2 := Z3.out; omega)
              have M7 : Hid (Lone 26 2 (wr.alloc (.cells #[.bool true, .int .i64 0, .slice aT j ct] 40)) (w.heap.size + 1 + 1) [.slice ak k ck, .slice none 0 0]) := M6.out.below b7 (by omega)
              have L7 : Hid (Lone 26 2 (wr.alloc (.cells #[.bool true, .int .i64 0, .slice aT j ct] 40)) w.heap.size [.slice none 0 0, .slice none 0 0]) := L6.out.below b7 (by omega)
              have S7 : Hid (Sq w av cv bs (wr.alloc (.cells #[.bool true, .int .i64 0, .slice aT j ct] 40)) (w.heap.size + 1) s5) := S6.out.keep b7
              have K7 : Hid (BK (wr.alloc (.cells #[.bool true, .int .i64 0, .slice aT j ct] 40)) (w.heap.size + 3) (.slice ak k ck) k (fun j => l.getD j cn0) ut) := K6.out.hold (fun b h1 h2 => b7.block b h2)
              have T7 : Hid (RwS (wr.alloc (.cells #[.bool true, .int .i64 0, .slice aT j ct] 40)) (w2.heap.size) (.slice aT j ct) ys ∧ Bts ys ∧ ys.length ≤ 2097152) := ⟨(⟨⟨aT, ct, by rw [HYl.out]⟩, by rw [HYl.out]; exact th.own_hold (own_weaken HT.out (by omega)) (fun b h1 h2 _ => b7.block b h2)⟩), HYb.out, by rw [HYl.out]; omega⟩
              have p0 : wr.cell? ⟨w.heap.size + 1 + 1, 0, none⟩ = some (.slice ak k ck) := M6.out.at (j := 0) (by omega)
              have z22 : w.heap.size + 3 ≤ w2.heap.size := by have := Z3.out; omega
              clear hus hx b7
              go_wp2_with (at_builtin; refine wpList_append_row rfl _ _ _ rfl 40 ik (.agg #[.bool false, .int .i64 0, .slice none 0 0]) 3 40 Tryd.underlying23 hik hkz0 hkz1 hkz2 rfl (by omega) (w.heap.size + 3) ak k ck us rfl HUS.out (some ⟨wr.heap.size, 0, none⟩) 1 1 [.bool true, .int .i64 0, .slice aT j ct] rfl rfl NW.out (by simp [Value.oneCell']) (by unfold maxLen; omega) (by omega) (by simp; omega) ?_; intro ak5 ck5 w5 hA; have HA5 : Hid (AppR 40 3 (wr.alloc (.cells #[.bool true, .int .i64 0, .slice aT j ct] 40)) (w.heap.size + 3) ak k ck (us ++ [.bool true, .int .i64 0, .slice aT j ct]) ak5 (k + 1) ck5 w5) := hA; have hrow : ∀ b, (Value.slice ak k ck).ownBlock = some b → w.heap.size + 3 ≤ b := fun b e => (HUS.out.lt b e).1; have M8 : Hid (Lone 26 2 w5 (w.heap.size + 1 + 1) [.slice ak k ck, .slice none 0 0]) := (lone_grown M7.out hA.grow (fun e => by have := hrow _ e; omega)); have p8 := M8.out.at (j := 0) (by omega); have f8 := M8.out.free 0; simp only [List.getElem?_cons_zero] at p8; clear hA)
              have hO9 := olk_snoc (M := w2.heap.size) HLn.out (by omega) HOK.out K7.out HSEP.out.1 HSEP.out.2 (T7.out.1.weaken (by omega)) (fun b e => (T7.out.1.lt b e).1) T7.out.2.1 (by have := T7.out.2.2; omega) HUS.out HX.out HA5.out
              have z9 : w.heap.size + 3 ≤ w5.heap.size := by have := HA5.out.grow.size; simp at this; omega
              have L9 : Lone 26 2 w5 w.heap.size [.slice none 0 0, .slice none 0 0] := lone_grown L7.out HA5.out.grow (fun e => by have := hrow _ e; omega)
              have S9 : Sq w av cv bs w5 (w.heap.size + 1) s5 := S7.out.app HA5.out.grow (fun b e => by have := hrow b e; omega)
              refine ⟨⟨k + 1, ck5, ak5, l ++ [(⟨true, 0, ys⟩ : Cn)], s5, by omega, by omega, by go_num, by show (l ++ [_]).length = k + 1; simp [HLn.out], OLk.hold hO9 (set_other (by omega)), M8.out.set 0 _, L9.other (by omega), list_next hlt HN.out HGC.out, ?_, S9.far (by omega), by show _ ≤ _; simp; omega⟩, by simp [intOf]; omega⟩
              exact fun ys e => by
                have h := HGC.out
                rw [e] at h
                exact got_less (fun h => by have := constD_len lum_len flagL_len h; omega) HZ.out h
        · have hg := HG3.out
          rw [decide_eq_false hz1] at hg
          have HG4 : Hid (Got (s2.bind flagL) false s3) := hg
          clear hg HG3
          have Z5 : Hid (w2.heap.size ≤ w2.heap.size) := Nat.le_refl _
          have hzb : ((z : Int) == 1) = false := by simp; omega
          go_wp2_with fail
          go_loopw [12, 13] (fun v x wr2 => ∃ (j u : Nat) (s' : Option (List Int)), j ≤ 8 ∧ x = .int .i64 (j : Int) ∧ v = .int .u64 (u : Int) ∧ u < 18446744073709551616 ∧ Hid (AccL s3 j u s') ∧ Hid (Lone 26 2 wr2 w.heap.size [.slice none 0 0, .slice none 0 0]) ∧ Hid (Lone 26 2 wr2 (w.heap.size + 1 + 1) [.slice ak k ck, .slice none 0 0]) ∧ Hid (BK wr2 (w.heap.size + 3) (.slice ak k ck) k (fun j => l.getD j cn0) ut) ∧ Hid (Sq w av cv bs wr2 (w.heap.size + 1) s') ∧ Hid (w2.heap.size ≤ wr2.heap.size)) (fun _ x _ => 8 - (intOf x).toNat)
          case atStart =>
            refine ⟨0, 0, s3, by omega, rfl, rfl, by omega, ?_, L3.out, M3.out, K3.out, S3.out, Z5.out⟩
            cases s3 with
            | none => exact .inl ⟨rfl, rfl⟩
            | some xs => exact .inr ⟨[], xs, by simp [takeD], rfl, fun z hz => (by cases hz), rfl⟩
          case round =>
            obtain ⟨j, u, s5, hj, rfl, rfl, hu, HAc, L6, M6, K6, S6, Z6⟩ := hrel
            clear S3 L3 M3 K3 Z5
            by_cases hj8 : j < 8
            · have hj8' : (j : Int) < 8 := by omega
              have zz : w.heap.size + 3 ≤ w2.heap.size := by have h2 := Z3.out; omega
              go_wp2_with fail
              refine (BY.out _ _ S6.out).mono ?_
              rintro e w6 ⟨z6, s6, rfl, hz6, g6, h6, q6⟩
              have HA6 : Hid (AccL s3 (j + 1) (u + z6 * 256 ^ j) s6) := accL_next HAc.out hz6 g6
              have L7 : Hid (Lone 26 2 w6 w.heap.size [.slice none 0 0, .slice none 0 0]) := q6.lone L6.out (by omega)
              have M7 : Hid (Lone 26 2 w6 (w.heap.size + 1 + 1) [.slice ak k ck, .slice none 0 0]) := q6.lone M6.out (by omega)
              have K7 : Hid (BK w6 (w.heap.size + 3) (.slice ak k ck) k (fun j => l.getD j cn0) ut) := K6.out.hold (fun b h1 h2 => q6.keep b h2 (by omega))
              have S7 : Hid (Sq w av cv bs w6 (w.heap.size + 1) s6) := h6
              have Z7 : Hid (w2.heap.size ≤ w6.heap.size) := Nat.le_trans Z6.out q6.below.size
              clear g6 h6 q6 L6 M6 K6 S6 Z6
              obtain ⟨u', hu', hul, hua⟩ := accL_wrap (by omega) HA6.out
              have HU : Hid (IntKind.u64.wrap ((u : Int) + IntKind.u64.wrap ((z6 : Int) * 2 ^ (8 * j))) = (u' : Int) ∧ AccL s3 (j + 1) u' s6) := ⟨hu', hua⟩
              clear hu' hua HA6
              go_wp2
              exact ⟨⟨j + 1, u', s6, by omega, by go_num, by rw [HU.out.1], hul, HU.out.2, L7.out, M7.out, K7.out, S7.out, Z7.out⟩, by simp [intOf]; omega⟩
            · obtain rfl : j = 8 := by omega
              have HGC : Hid (Got (s2.bind (constD lum flagL)) (⟨false, Go.RowKit.wrap64 (u : Int), []⟩ : Cn) s5) := by
                have g4 := got_then (e := fun (t : Bool) (zs : List Int) => if t then (lum zs).bind fun y => (takeD y.1 y.2).map fun x : List Int × List Int => ((⟨true, 0, x.1⟩ : Cn), x.2) else (eightD zs).map fun y => ((⟨false, y.1, []⟩ : Cn), y.2)) HG4.out (by simpa using got_map (fun n : Int => (⟨false, n, []⟩ : Cn)) (accL_end HAc.out))
                rw [← wr64] at g4
                exact g4
              obtain ⟨us, hus, hx⟩ := K6.out.row
              have b7 : Below wr.heap.size wr (wr.alloc (.cells #[.bool false, .int .i64 (Go.RowKit.wrap64 (u : Int)), .slice none 0 0] 40)) := (Below.refl _ _).alloc (Nat.le_refl _) _
              have HUS : Hid ((wr.alloc (.cells #[.bool false, .int .i64 (Go.RowKit.wrap64 (u : Int)), .slice none 0 0] 40)).ownsRow (w.heap.size + 3) 40 3 (.slice ak k ck) k us) := th.own_hold hus (fun b h1 h2 _ => b7.block b h2)
              have HX : Hid (∀ j, j < k → us[j * 3]? = some (.bool (l.getD j cn0).isText) ∧ us[j * 3 + 1]? = some (.int .i64 (l.getD j cn0).n) ∧ us[j * 3 + 2]? = some (ut j)) := hx
              have NW : Hid (0 < 1 → ∃ ad, (some ⟨wr.heap.size, 0, none⟩ : Option Addr) = some ad ∧ ∀ ix ux, [.bool false, .int .i64 (Go.RowKit.wrap64 (u : Int)), .slice none 0 0][ix]? = some ux → (wr.alloc (.cells #[.bool false, .int .i64 (Go.RowKit.wrap64 (u : Int)), .slice none 0 0] 40)).cell? (ad.add ix) = some ux) := fun _ => ⟨_, rfl, fun ix ux e => by
                rw [plainAt, Nat.zero_add]
                exact cellNew (w := wr) (cs := #[.bool false, .int .i64 (Go.RowKit.wrap64 (u : Int)), .slice none 0 0]) (t := 40) (j := ix) (v := ux) (by simpa using e)⟩
              have zv : w.heap.size + 3 ≤ wr.heap.size := (by have h1 := Z6.out; have h2 := Z3.out; omega)
              have M7 : Hid (Lone 26 2 (wr.alloc (.cells #[.bool false, .int .i64 (Go.RowKit.wrap64 (u : Int)), .slice none 0 0] 40)) (w.heap.size + 1 + 1) [.slice ak k ck, .slice none 0 0]) := M6.out.below b7 (by omega)
              have L7 : Hid (Lone 26 2 (wr.alloc (.cells #[.bool false, .int .i64 (Go.RowKit.wrap64 (u : Int)), .slice none 0 0] 40)) w.heap.size [.slice none 0 0, .slice none 0 0]) := L6.out.below b7 (by omega)
              have S7 : Hid (Sq w av cv bs (wr.alloc (.cells #[.bool false, .int .i64 (Go.RowKit.wrap64 (u : Int)), .slice none 0 0] 40)) (w.heap.size + 1) s5) := S6.out.keep b7
              have K7 : Hid (BK (wr.alloc (.cells #[.bool false, .int .i64 (Go.RowKit.wrap64 (u : Int)), .slice none 0 0] 40)) (w.heap.size + 3) (.slice ak k ck) k (fun j => l.getD j cn0) ut) := K6.out.hold (fun b h1 h2 => b7.block b h2)
              have T7 : Hid (RwS (wr.alloc (.cells #[.bool false, .int .i64 (Go.RowKit.wrap64 (u : Int)), .slice none 0 0] 40)) (w2.heap.size) (.slice none 0 0) [] ∧ Bts [] ∧ ([] : List Int).length ≤ 2097152) := ⟨⟨⟨none, 0, rfl⟩, World.ownsRow_nil _ _ _ _⟩, fun i => by simp, by simp⟩
              have p0 : wr.cell? ⟨w.heap.size + 1 + 1, 0, none⟩ = some (.slice ak k ck) := M6.out.at (j := 0) (by omega)
              have z22 : w.heap.size + 3 ≤ w2.heap.size := by have := Z3.out; omega
              clear hus hx b7
              go_wp2_with (at_builtin; refine wpList_append_row rfl _ _ _ rfl 40 ik (.agg #[.bool false, .int .i64 0, .slice none 0 0]) 3 40 Tryd.underlying23 hik hkz0 hkz1 hkz2 rfl (by omega) (w.heap.size + 3) ak k ck us rfl HUS.out (some ⟨wr.heap.size, 0, none⟩) 1 1 [.bool false, .int .i64 (Go.RowKit.wrap64 (u : Int)), .slice none 0 0] rfl rfl NW.out (by simp [Value.oneCell']) (by unfold maxLen; omega) (by omega) (by simp; omega) ?_; intro ak5 ck5 w5 hA; have HA5 : Hid (AppR 40 3 (wr.alloc (.cells #[.bool false, .int .i64 (Go.RowKit.wrap64 (u : Int)), .slice none 0 0] 40)) (w.heap.size + 3) ak k ck (us ++ [.bool false, .int .i64 (Go.RowKit.wrap64 (u : Int)), .slice none 0 0]) ak5 (k + 1) ck5 w5) := hA; have hrow : ∀ b, (Value.slice ak k ck).ownBlock = some b → w.heap.size + 3 ≤ b := fun b e => (HUS.out.lt b e).1; have M8 : Hid (Lone 26 2 w5 (w.heap.size + 1 + 1) [.slice ak k ck, .slice none 0 0]) := (lone_grown M7.out hA.grow (fun e => by have := hrow _ e; omega)); have p8 := M8.out.at (j := 0) (by omega); have f8 := M8.out.free 0; simp only [List.getElem?_cons_zero] at p8; clear hA)
              have hO9 := olk_snoc (M := w2.heap.size) HLn.out (by omega) HOK.out K7.out HSEP.out.1 HSEP.out.2 (T7.out.1.weaken (by omega)) (fun b e => (T7.out.1.lt b e).1) T7.out.2.1 (by have := T7.out.2.2; omega) HUS.out HX.out HA5.out
              have z9 : w.heap.size + 3 ≤ w5.heap.size := by have := HA5.out.grow.size; simp at this; omega
              have L9 : Lone 26 2 w5 w.heap.size [.slice none 0 0, .slice none 0 0] := lone_grown L7.out HA5.out.grow (fun e => by have := hrow _ e; omega)
              have S9 : Sq w av cv bs w5 (w.heap.size + 1) s5 := S7.out.app HA5.out.grow (fun b e => by have := hrow b e; omega)
              refine ⟨⟨k + 1, ck5, ak5, l ++ [(⟨false, Go.RowKit.wrap64 (u : Int), []⟩ : Cn)], s5, by omega, by omega, by go_num, by show (l ++ [_]).length = k + 1; simp [HLn.out], OLk.hold hO9 (set_other (by omega)), M8.out.set 0 _, L9.other (by omega), list_next hlt HN.out HGC.out, ?_, S9.far (by omega), by show _ ≤ _; simp; omega⟩, by simp [intOf]; omega⟩
              exact fun ys e => by
                have h := HGC.out
                rw [e] at h
                exact got_less (fun h => by have := constD_len lum_len flagL_len h; omega) HZ.out h
    · obtain rfl : k = n := by omega
      cases s2 with
      | none =>
        obtain rfl : bd = true := hbd.2 rfl
        clear hbd
        have HPN : Hid (progL bs = none) := progL_bad (got_then (e := fun (n : Nat) (ys : List Int) => listD (constD lum flagL) n ys) HG1.out (list_end HN.out))
        go_wp2_with fail
        refine (NM.out _ _ S2.out).mono ?_
        rintro e w3 ⟨n2, s3, rfl, hn2, g3, h3, q3⟩
        obtain rfl : s3 = none := by
          rcases g3 with ⟨_, e⟩ | ⟨_, e, _⟩
          · exact e
          · cases e
        have L3 : Hid (Lone 26 2 w3 w.heap.size [.slice none 0 0, .slice none 0 0]) := q3.lone L2.out (by omega)
        have S3 : Hid (Sq w av cv bs w3 (w.heap.size + 1) none) := h3
        obtain ⟨bd3, cb3, hbd3⟩ := h3.bad
        obtain rfl : bd3 = true := hbd3.2 rfl
        clear h3 q3 g3 hbd3 L2 M2 S2 HO
        go_wp2_with fail
        refine wp_loop_rounds 1 ?_
        rw [rounds_succ]
        by_cases hp2 : (0 : Int) < (n2 : Int)
        · go_wp2_with fail
          go_quiet (fail)
          have Lq := drew_lone L3.out nq
          have r0 := Lq.at (j := 0) (by omega)
          have r1 := Lq.at (j := 1) (by omega)
          have u0 := Lq.free 0
          have u1 := Lq.free 1
          simp only [List.getElem?_cons_zero, List.getElem?_cons_succ] at r0 r1
          have BD : Hid (Lone 26 2 (((w3.drewN nq).setCell ⟨w.heap.size, 0, none⟩ (.slice none 0 0)).setCell ⟨w.heap.size, 1, none⟩ (.slice none 0 0)) w.heap.size [.slice none 0 0, .slice none 0 0] ∧ Below w.heap.size w (((w3.drewN nq).setCell ⟨w.heap.size, 0, none⟩ (.slice none 0 0)).setCell ⟨w.heap.size, 1, none⟩ (.slice none 0 0))) := ⟨(Lq.set 0 _).set 1 _, ((bel_drewN S3.out.1 nq).setCell (p := ⟨w.heap.size, 0, none⟩) (Nat.le_refl _) _).setCell (p := ⟨w.heap.size, 1, none⟩) (Nat.le_refl _) _⟩
          have FN : Hid (∀ W, W = (((w3.drewN nq).setCell ⟨w.heap.size, 0, none⟩ (.slice none 0 0)).setCell ⟨w.heap.size, 1, none⟩ (.slice none 0 0)) → PL w q c (.returned (.tuple #[.agg #[.slice none 0 0, .slice none 0 0], .int .i64 1])) W) := fun W e => by
            obtain ⟨rfl, rfl⟩ : q = ⟨[], []⟩ ∧ c = 1 := by
              rcases HA.out with ⟨h, _⟩ | ⟨_, h⟩
              · exact absurd (lo_some HBS.out.2.1 HBS.out.2.2 h).1 (by rw [HPN.out]; simp)
              · exact h
            rw [e]
            exact ⟨none, none, 0, 0, 0, 0, rfl, prg_nil BD.out.2.size, BD.out.2⟩
          clear Lq
          generalize w3.drewN nq = Wq at r0 r1 u0 u1 BD FN ⊢
          go_wp2
          refine bodyPost_ret (res2 Tryd.results4 _ _ w.heap.size 26 _ _ _ rfl (Lone.back BD.out.1) Tryd.underlying26 rfl rfl) rfl ?_
          exact FN.out _ rfl
        · go_wp2_with fail
          go_quiet (fail)
          have Lq := drew_lone L3.out nq
          have r0 := Lq.at (j := 0) (by omega)
          have r1 := Lq.at (j := 1) (by omega)
          have u0 := Lq.free 0
          have u1 := Lq.free 1
          simp only [List.getElem?_cons_zero, List.getElem?_cons_succ] at r0 r1
          have BD : Hid (Lone 26 2 (((w3.drewN nq).setCell ⟨w.heap.size, 0, none⟩ (.slice none 0 0)).setCell ⟨w.heap.size, 1, none⟩ (.slice none 0 0)) w.heap.size [.slice none 0 0, .slice none 0 0] ∧ Below w.heap.size w (((w3.drewN nq).setCell ⟨w.heap.size, 0, none⟩ (.slice none 0 0)).setCell ⟨w.heap.size, 1, none⟩ (.slice none 0 0))) := ⟨(Lq.set 0 _).set 1 _, ((bel_drewN S3.out.1 nq).setCell (p := ⟨w.heap.size, 0, none⟩) (Nat.le_refl _) _).setCell (p := ⟨w.heap.size, 1, none⟩) (Nat.le_refl _) _⟩
          have FN : Hid (∀ W, W = (((w3.drewN nq).setCell ⟨w.heap.size, 0, none⟩ (.slice none 0 0)).setCell ⟨w.heap.size, 1, none⟩ (.slice none 0 0)) → PL w q c (.returned (.tuple #[.agg #[.slice none 0 0, .slice none 0 0], .int .i64 1])) W) := fun W e => by
            obtain ⟨rfl, rfl⟩ : q = ⟨[], []⟩ ∧ c = 1 := by
              rcases HA.out with ⟨h, _⟩ | ⟨_, h⟩
              · exact absurd (lo_some HBS.out.2.1 HBS.out.2.2 h).1 (by rw [HPN.out]; simp)
              · exact h
            rw [e]
            exact ⟨none, none, 0, 0, 0, 0, rfl, prg_nil BD.out.2.size, BD.out.2⟩
          clear Lq
          generalize w3.drewN nq = Wq at r0 r1 u0 u1 BD FN ⊢
          go_wp2
          refine bodyPost_ret (res2 Tryd.results4 _ _ w.heap.size 26 _ _ _ rfl (Lone.back BD.out.1) Tryd.underlying26 rfl rfl) rfl ?_
          exact FN.out _ rfl
      | some zs =>
        have HK : Hid (Got ((some (bs.drop 4)).bind (manyD lum (constD lum flagL))) l (some zs)) := got_then (e := fun (n : Nat) (ys : List Int) => listD (constD lum flagL) n ys) HG1.out (list_end HN.out)
        obtain ⟨hkn, hok, ut, hbk⟩ := HO.out
        have HOK : Hid (KOk l ∧ k = l.length) := ⟨hok, hkn⟩
        have HBK : Hid (BK wr (w.heap.size + 3) (.slice ak k ck) k (fun j => l.getD j cn0) ut) := hbk
        clear hkn hok hbk HO hbd
        go_wp2_with fail
        refine (NM.out _ _ S2.out).mono ?_
        rintro e w3 ⟨n2, s3, rfl, hn2, g3, h3, q3⟩
        have zr := Z2.out
        have L3 : Hid (Lone 26 2 w3 w.heap.size [.slice none 0 0, .slice none 0 0]) := q3.lone L2.out (by omega)
        have M3 : Hid (Lone 26 2 w3 (w.heap.size + 1 + 1) [.slice ak k ck, .slice none 0 0]) := q3.lone M2.out (by omega)
        have S3 : Hid (Sq w av cv bs w3 (w.heap.size + 1) s3) := h3
        have K3 : Hid (BK w3 (w.heap.size + 3) (.slice ak k ck) k (fun j => l.getD j cn0) ut) := HBK.out.hold (fun b h1 h2 => q3.keep b h2 (by omega))
        have HG3 : Hid (Got ((some zs).bind lum) n2 s3) := g3
        have HZ0 : Hid (∀ ys, s3 = some ys → 0 + ys.length ≤ 1048576) := fun ys e => by
          have h2 := HZ.out zs rfl
          rcases g3 with ⟨_, e'⟩ | ⟨us, e', e''⟩
          · rw [e] at e'; cases e'
          · rw [e] at e''
            cases e''
            have := lum_len e'
            omega
        obtain ⟨Bp, hBp⟩ : ∃ Bp, Bp = w3.heap.size := ⟨_, rfl⟩
        have hB3 : w.heap.size + 3 ≤ Bp := by have := q3.below.size; omega
        have UKb : Hid ((∀ b, (Value.slice ak k ck).ownBlock = some b → b < Bp) ∧ ∀ i, i < k → ∀ b, (ut i).ownBlock = some b → b < Bp) := ⟨fun b e => by have := (HBK.out.lt b e).2; have := q3.below.size; omega, fun i hi b e => by have := ((HBK.out.texts i hi).lt b e).2; have := q3.below.size; omega⟩
        have ZB : Hid (Bp ≤ w3.heap.size) := by show _ ≤ _; omega
        clear g3 h3 q3 L2 M2 S2 HBK hBp
        go_wp2_with fail
        go_loopw [15] (fun x wr => ∃ (j cp : Nat) (ap : Option Addr) (ps : List Pr) (s' : Option (List Int)), j ≤ n2 ∧ j ≤ 1048577 ∧ x = .int .i64 (j : Int) ∧ Hid (ps.length = j) ∧ Hid (OLp wr Bp ap j cp ps) ∧ Hid (Lone 26 2 wr (w.heap.size + 1 + 1) [.slice ak k ck, .slice ap j cp]) ∧ Hid (Lone 26 2 wr w.heap.size [.slice none 0 0, .slice none 0 0]) ∧ Hid (BK wr (w.heap.size + 3) (.slice ak k ck) k (fun j => l.getD j cn0) ut) ∧ Hid (s3.bind (listD (protoD lum flagL) n2) = (s'.bind (listD (protoD lum flagL) (n2 - j))).map fun y => (ps ++ y.1, y.2)) ∧ Hid (∀ ys, s' = some ys → j + ys.length ≤ 1048576) ∧ Hid (Sq w av cv bs wr (w.heap.size + 1) s') ∧ Hid (Bp ≤ wr.heap.size)) (fun x _ => n2 - (intOf x).toNat)
        case atStart => exact ⟨0, 0, none, [], s3, by omega, by omega, rfl, rfl, olp_nil _ _, M3.out, L3.out, K3.out, list_start, HZ0.out, S3.out, ZB.out⟩
        case round =>
          obtain ⟨j, cp, ap, ps, s2p, hj, hj2, rfl, HLp, HOp, Mp, Lp, Kp, HNp, HZp, Sp, Zp⟩ := hrel
          clear M3 L3 K3 S3 ZB HZ0
          obtain ⟨bd4, cb4, hbd4⟩ := Sp.out.bad
          by_cases hlt2 : j < n2
          · have hlt2' : (j : Int) < (n2 : Int) := by omega
            cases bd4 with
            | true =>
              obtain rfl : s2p = none := hbd4.1 rfl
              clear hbd4
              have HPN : Hid (progL bs = none) := (progL_got HK.out (got_then (e := fun (n : Nat) (ys : List Int) => listD (protoD lum flagL) n ys) HG3.out (.inl ⟨list_bad rfl HNp.out, rfl⟩ : Got (s3.bind (listD (protoD lum flagL) n2)) ps none))).1 rfl
              have L3 : Hid (Lone 26 2 wr w.heap.size [.slice none 0 0, .slice none 0 0]) := Lp.out
              have S3 : Hid (Sq w av cv bs wr (w.heap.size + 1) none) := Sp.out
              go_wp2_with fail
              go_quiet (fail)
              have Lq := drew_lone L3.out nq
              have r0 := Lq.at (j := 0) (by omega)
              have r1 := Lq.at (j := 1) (by omega)
              have u0 := Lq.free 0
              have u1 := Lq.free 1
              simp only [List.getElem?_cons_zero, List.getElem?_cons_succ] at r0 r1
              have BD : Hid (Lone 26 2 (((wr.drewN nq).setCell ⟨w.heap.size, 0, none⟩ (.slice none 0 0)).setCell ⟨w.heap.size, 1, none⟩ (.slice none 0 0)) w.heap.size [.slice none 0 0, .slice none 0 0] ∧ Below w.heap.size w (((wr.drewN nq).setCell ⟨w.heap.size, 0, none⟩ (.slice none 0 0)).setCell ⟨w.heap.size, 1, none⟩ (.slice none 0 0))) := ⟨(Lq.set 0 _).set 1 _, ((bel_drewN S3.out.1 nq).setCell (p := ⟨w.heap.size, 0, none⟩) (Nat.le_refl _) _).setCell (p := ⟨w.heap.size, 1, none⟩) (Nat.le_refl _) _⟩
              have FN : Hid (∀ W, W = (((wr.drewN nq).setCell ⟨w.heap.size, 0, none⟩ (.slice none 0 0)).setCell ⟨w.heap.size, 1, none⟩ (.slice none 0 0)) → PL w q c (.returned (.tuple #[.agg #[.slice none 0 0, .slice none 0 0], .int .i64 1])) W) := fun W e => by
                obtain ⟨rfl, rfl⟩ : q = ⟨[], []⟩ ∧ c = 1 := by
                  rcases HA.out with ⟨h, _⟩ | ⟨_, h⟩
                  · exact absurd (lo_some HBS.out.2.1 HBS.out.2.2 h).1 (by rw [HPN.out]; simp)
                  · exact h
                rw [e]
                exact ⟨none, none, 0, 0, 0, 0, rfl, prg_nil BD.out.2.size, BD.out.2⟩
              clear Lq
              generalize wr.drewN nq = Wq at r0 r1 u0 u1 BD FN ⊢
              go_wp2
              refine bodyPost_ret (res2 Tryd.results4 _ _ w.heap.size 26 _ _ _ rfl (Lone.back BD.out.1) Tryd.underlying26 rfl rfl) rfl ?_
              exact FN.out _ rfl
            | false =>
              obtain ⟨-, hpk, uc, ud, hbp⟩ := HOp.out
              have HPK : Hid (POk ps) := hpk
              have hj3 : j ≤ 1048576 := by
                match s2p, hbd4, HZp.out with
                | none, h, _ => exact absurd (h.2 rfl) (by simp)
                | some ys, _, h => have := h ys rfl; omega
              obtain ⟨V0, hV0⟩ : ∃ V0, V0 = wr := ⟨_, rfl⟩
              rw [← hV0] at cb4 hbp Kp Lp Mp Sp Zp ⊢
              obtain ⟨F, hF⟩ : ∃ F, F = V0.heap.size := ⟨_, rfl⟩
              have KP : Hid (BK V0 (w.heap.size + 3) (.slice ak k ck) k (fun j => l.getD j cn0) ut ∧ BP V0 Bp (.slice ap j cp) j (fun i => ps.getD i pr0) uc ud ∧ True) := ⟨Kp.out, hbp, trivial⟩
              have LM : Hid (Lone 26 2 V0 w.heap.size [.slice none 0 0, .slice none 0 0] ∧ Lone 26 2 V0 (w.heap.size + 1 + 1) [.slice ak k ck, .slice ap j cp]) := ⟨Lp.out, Mp.out⟩
              have SP : Hid ((∀ b, (Value.slice ap j cp).ownBlock = some b → b < F) ∧ (∀ i, i < j → ∀ b, (uc i).ownBlock = some b → b < F) ∧ ∀ i, i < j → ∀ b, (ud i).ownBlock = some b → b < F) := ⟨fun b e => by rw [hF]; exact (hbp.lt b e).2, fun i hi b e => by rw [hF]; exact ((hbp.caps i hi).lt b e).2, fun i hi b e => by rw [hF]; exact ((hbp.code i hi).lt b e).2⟩
              have hBpF : Bp ≤ F := by have := Zp.out; omega
              have SV : Hid (Sq w av cv bs V0 (w.heap.size + 1) s2p) := Sp.out
              clear hpk hbp HOp Mp Lp Kp Sp Zp hbd4 hV0
              have hFz : w.heap.size + 3 ≤ F := by omega
              have b4 : Below V0.heap.size V0 (V0.alloc (.cells #[.int .i64 0, .int .i64 0, .slice none 0 0, .slice none 0 0] 46)) := (Below.refl _ _).alloc (Nat.le_refl _) _
              have S4p : Hid (Sq w av cv bs (V0.alloc (.cells #[.int .i64 0, .int .i64 0, .slice none 0 0, .slice none 0 0] 46)) (w.heap.size + 1) s2p) := SV.out.keep b4
              have C4p : Hid (Lone 46 4 (V0.alloc (.cells #[.int .i64 0, .int .i64 0, .slice none 0 0, .slice none 0 0] 46)) F [.int .i64 0, .int .i64 0, .slice none 0 0, .slice none 0 0]) := by show Lone _ _ _ _ _; rw [hF]; exact lone_new V0 rfl
              have LW4p : Hid (Lo2 (w.heap.size + 1) F V0 (V0.alloc (.cells #[.int .i64 0, .int .i64 0, .slice none 0 0, .slice none 0 0] 46))) := fun b h1 _ => b4.block b (by omega)
              have HF : Hid (F = V0.heap.size) := hF
              clear b4
              go_wp2_with fail
              rw [← HF.out]
              clear hF
              generalize V0.alloc (.cells #[.int .i64 0, .int .i64 0, .slice none 0 0, .slice none 0 0] 46) = W4p at S4p C4p LW4p ⊢
              refine (NM.out _ _ S4p.out).mono ?_
              rintro e w4 ⟨p1, s5, rfl, hp1, gg, hh, qq⟩
              have CC : Lone 46 4 w4 F [.int .i64 0, .int .i64 0, .slice none 0 0, .slice none 0 0] := qq.lone C4p.out (by omega)
              have HG5 : Hid (Got (s2p.bind lum) p1 s5) := gg
              have S5p : Hid (Sq w av cv bs (w4.setCell ⟨F, 0, none⟩ (.int .i64 (p1 : Int))) (w.heap.size + 1) s5) := hh.far (by omega)
              have C5p : Hid (Lone 46 4 (w4.setCell ⟨F, 0, none⟩ (.int .i64 (p1 : Int))) F [.int .i64 (p1 : Int), .int .i64 0, .slice none 0 0, .slice none 0 0]) := CC.set 0 _
              have LW5p : Hid (Lo2 (w.heap.size + 1) F V0 (w4.setCell ⟨F, 0, none⟩ (.int .i64 (p1 : Int)))) := (LW4p.out.fq qq (Nat.le_of_lt (heap_lt C4p.out.back))).set (Nat.le_refl _)
              have f0 := CC.free 0
              have c0 := CC.at (j := 0) (by omega)
              simp only [List.getElem?_cons_zero] at c0
              clear gg hh qq CC S4p C4p LW4p
              go_wp2_with fail
              clear f0 c0
              generalize w4.setCell ⟨F, 0, none⟩ (.int .i64 (p1 : Int)) = W5p at S5p C5p LW5p ⊢
              refine (NM.out _ _ S5p.out).mono ?_
              rintro e w6 ⟨p2, s6, rfl, hp2, gg, hh, qq⟩
              have CC : Lone 46 4 w6 F [.int .i64 (p1 : Int), .int .i64 0, .slice none 0 0, .slice none 0 0] := qq.lone C5p.out (by omega)
              have HG6 : Hid (Got (s5.bind lum) p2 s6) := gg
              have S6p : Hid (Sq w av cv bs (w6.setCell ⟨F, 1, none⟩ (.int .i64 (p2 : Int))) (w.heap.size + 1) s6) := hh.far (by omega)
              have C6p : Hid (Lone 46 4 (w6.setCell ⟨F, 1, none⟩ (.int .i64 (p2 : Int))) F [.int .i64 (p1 : Int), .int .i64 (p2 : Int), .slice none 0 0, .slice none 0 0]) := CC.set 1 _
              have LW6p : Hid (Lo2 (w.heap.size + 1) F V0 (w6.setCell ⟨F, 1, none⟩ (.int .i64 (p2 : Int)))) := (LW5p.out.fq qq (Nat.le_of_lt (heap_lt C5p.out.back))).set (Nat.le_refl _)
              have f0 := CC.free 1
              have c0 := CC.at (j := 1) (by omega)
              simp only [List.getElem?_cons_zero, List.getElem?_cons_succ] at c0
              clear gg hh qq CC S5p C5p LW5p
              go_wp2_with fail
              clear f0 c0
              generalize w6.setCell ⟨F, 1, none⟩ (.int .i64 (p2 : Int)) = W6p at S6p C6p LW6p ⊢
              refine (NM.out _ _ S6p.out).mono ?_
              rintro e w7 ⟨m5, s7, rfl, hm5, gg, hh, qq⟩
              have C7c : Hid (Lone 46 4 w7 F [.int .i64 (p1 : Int), .int .i64 (p2 : Int), .slice none 0 0, .slice none 0 0]) := qq.lone C6p.out (by omega)
              have HGc : Hid (Got (s6.bind lum) m5 s7) := gg
              have S7c : Hid (Sq w av cv bs w7 (w.heap.size + 1) s7) := hh
              have LW7c : Hid (Lo2 (w.heap.size + 1) F V0 w7) := LW6p.out.fq qq (Nat.le_of_lt (heap_lt C6p.out.back))
              clear gg hh qq S6p C6p LW6p
              go_wp2_with fail
              go_loopw [18] (fun x wr => ∃ (i5 cC : Nat) (aC : Option Addr) (cs : List Cp) (s' : Option (List Int)), i5 ≤ m5 ∧ x = .int .i64 (i5 : Int) ∧ Hid (cs.length = i5) ∧ Hid (OLc wr (F + 1) aC i5 cC cs) ∧ Hid (Lone 46 4 wr F [.int .i64 (p1 : Int), .int .i64 (p2 : Int), .slice aC i5 cC, .slice none 0 0]) ∧ Hid (Lo2 (w.heap.size + 1) F V0 wr) ∧ Hid (s7.bind (listD (capD lum flagL) m5) = (s'.bind (listD (capD lum flagL) (m5 - i5))).map fun y => (cs ++ y.1, y.2)) ∧ Hid (Sq w av cv bs wr (w.heap.size + 1) s')) (fun x _ => m5 - (intOf x).toNat)
              case atStart => exact ⟨0, 0, none, [], s7, by omega, rfl, rfl, olc_nil _ _, C7c.out, LW7c.out, list_start, S7c.out⟩
              case round =>
                obtain ⟨i5, cC, aC, cs, s8, hi5, rfl, HLc, Oc5, C5i, LW5i, HNc, S5i⟩ := hrel
                clear C7c LW7c S7c
                obtain ⟨bd5, cb5, hbd5⟩ := S5i.out.bad
                by_cases hl5 : i5 < m5
                · have hl5' : (i5 : Int) < (m5 : Int) := by omega
                  cases bd5 with
                  | true =>
                    obtain rfl : s8 = none := hbd5.1 rfl
                    clear hbd5
                    go_wp2_with fail
                    refine (NM.out _ _ S5i.out).mono ?_
                    rintro e w8 ⟨m6, s9, rfl, hm6, gg, hh, qq⟩
                    have Cm : Hid (Lone 46 4 w8 F [.int .i64 (p1 : Int), .int .i64 (p2 : Int), .slice aC i5 cC, .slice none 0 0]) := qq.lone C5i.out (by omega)
                    have HGm : Hid (Got (none.bind lum) m6 s9) := gg
                    have Sm : Hid (Sq w av cv bs w8 (w.heap.size + 1) s9) := hh
                    have LWm : Hid (Lo2 (w.heap.size + 1) F V0 w8) := LW5i.out.fq qq (Nat.le_of_lt (heap_lt C5i.out.back))
                    have Ocm : Hid (OLc w8 (F + 1) aC i5 cC cs) := Oc5.out.hold (fun b h1 h2 => qq.keep b h2 (by omega))
                    clear gg hh qq S5i C5i LW5i
                    obtain ⟨M2, hM2⟩ : ∃ M2, M2 = w8.heap.size := ⟨_, rfl⟩
                    have Zm : Hid (F + 1 ≤ M2) := by
                      show F + 1 ≤ M2
                      rw [hM2]
                      exact heap_lt Cm.out.back
                    have SPc : Hid (∀ b, (Value.slice aC i5 cC).ownBlock = some b → b < M2) := fun b e => by rw [hM2]; exact (Ocm.out.2.lt b e).2
                    have hM2' : M2 ≤ w8.heap.size := by omega
                    clear hM2
                    go_wp2_with fail
                    go_loopw [21] (fun x wr => ∃ (i6 cD : Nat) (aD : Option Addr) (ds : List In) (s' : Option (List Int)), i6 ≤ m6 ∧ x = .int .i64 (i6 : Int) ∧ Hid (ds.length = i6) ∧ Hid (OLi wr M2 aD i6 cD ds) ∧ Hid (OLc wr (F + 1) aC i5 cC cs) ∧ Hid (Lone 46 4 wr F [.int .i64 (p1 : Int), .int .i64 (p2 : Int), .slice aC i5 cC, .slice aD i6 cD]) ∧ Hid (Lo2 (w.heap.size + 1) F V0 wr) ∧ Hid (s9.bind (listD (insD lum) m6) = (s'.bind (listD (insD lum) (m6 - i6))).map fun y => (ds ++ y.1, y.2)) ∧ Hid (Sq w av cv bs wr (w.heap.size + 1) s') ∧ Hid (M2 ≤ wr.heap.size)) (fun x _ => m6 - (intOf x).toNat)
                    case atStart => exact ⟨0, 0, none, [], s9, by omega, rfl, rfl, oli_nil _ _, Ocm.out, Cm.out, LWm.out, list_start, Sm.out, hM2'⟩
                    case round =>
                      obtain ⟨i6, cD, aD, ds, s10, hi6, rfl, HLd, Oi, Oc, Ci, LWi, HNd, Si, Zi⟩ := hrel
                      clear Ocm Cm LWm Sm hM2'
                      obtain ⟨bd6, cb6, hbd6⟩ := Si.out.bad
                      by_cases hl6 : i6 < m6
                      · have hl6' : (i6 : Int) < (m6 : Int) := by omega
                        cases bd6 with
                        | true =>
                          obtain rfl : s10 = none := hbd6.1 rfl
                          clear hbd6
                          have HGP : Hid (Got (s2p.bind (protoD lum flagL)) (⟨(p1 : Int), (p2 : Int), cs, ds⟩ : Pr) none) := by
                            have e5 := got_then (e := fun (n : Nat) (ys : List Int) => listD (insD lum) n ys) HGm.out ((.inl ⟨list_bad rfl HNd.out, rfl⟩ : Got (s9.bind (listD (insD lum) m6)) ds none))
                            have e5' : Got (none.bind (manyD lum (insD lum))) ds none := e5
                            have e4 := got_then (e := fun (n : Nat) (ys : List Int) => listD (capD lum flagL) n ys) HGc.out ((.inl ⟨list_bad rfl HNc.out, rfl⟩ : Got (s7.bind (listD (capD lum flagL) m5)) cs none))
                            have e4' : Got (s6.bind (manyD lum (capD lum flagL))) cs none := e4
                            have e6 := got_then (e := fun (c : List Cp) (ys : List Int) => (manyD lum (insD lum) ys).map fun d : List In × List Int => ((⟨(p1 : Int), (p2 : Int), c, d.1⟩ : Pr), d.2)) e4' (got_map (fun l : List In => (⟨(p1 : Int), (p2 : Int), cs, l⟩ : Pr)) e5')
                            have e7 := got_then (e := fun (b : Nat) (ys : List Int) => (manyD lum (capD lum flagL) ys).bind fun c => (manyD lum (insD lum) c.2).map fun d : List In × List Int => ((⟨(p1 : Int), (b : Int), c.1, d.1⟩ : Pr), d.2)) HG6.out e6
                            have e8 := got_then (e := fun (a : Nat) (ys : List Int) => (lum ys).bind fun b => (manyD lum (capD lum flagL) b.2).bind fun c => (manyD lum (insD lum) c.2).map fun d : List In × List Int => ((⟨(a : Int), (b.1 : Int), c.1, d.1⟩ : Pr), d.2)) HG5.out e7
                            exact e8
                          have hsF : F + 1 ≤ wr.heap.size := by have h1 := Zi.out; have h2 := Zm.out; omega
                          have KV := KP.out.1.hold (fun b h1 h2 => LWi.out b (by have := HF.out; omega) (by omega))
                          have PV := KP.out.2.1.hold (fun b h1 h2 => LWi.out b (by have := HF.out; omega) (by omega))
                          have LV : Lone 26 2 wr w.heap.size [.slice none 0 0, .slice none 0 0] := own_far LM.out.1 (fun b e => by cases e; exact LWi.out _ (by show w.heap.size < F; omega) (by show w.heap.size ≠ w.heap.size + 1; omega))
                          have MV : Lone 26 2 wr (w.heap.size + 1 + 1) [.slice ak k ck, .slice ap j cp] := own_far LM.out.2 (fun b e => by cases e; exact LWi.out _ (by show w.heap.size + 1 + 1 < F; omega) (by show w.heap.size + 1 + 1 ≠ w.heap.size + 1; omega))
                          obtain ⟨us, hus, hx⟩ := PV.row
                          have b7 : Below wr.heap.size wr (wr.alloc (.cells #[.int .i64 (p1 : Int), .int .i64 (p2 : Int), .slice aC i5 cC, .slice aD i6 cD] 46)) := (Below.refl _ _).alloc (Nat.le_refl _) _
                          have HUS : Hid ((wr.alloc (.cells #[.int .i64 (p1 : Int), .int .i64 (p2 : Int), .slice aC i5 cC, .slice aD i6 cD] 46)).ownsRow Bp 46 4 (.slice ap j cp) j us) := th.own_hold hus (fun b h1 h2 _ => b7.block b h2)
                          have HX : Hid (∀ i, i < j → us[i * 4]? = some (.int .i64 (ps.getD i pr0).params) ∧ us[i * 4 + 1]? = some (.int .i64 (ps.getD i pr0).slots) ∧ us[i * 4 + 2]? = some (uc i) ∧ us[i * 4 + 3]? = some (ud i)) := hx
                          have NW : Hid (0 < 1 → ∃ ad, (some ⟨wr.heap.size, 0, none⟩ : Option Addr) = some ad ∧ ∀ ix ux, [.int .i64 (p1 : Int), .int .i64 (p2 : Int), .slice aC i5 cC, .slice aD i6 cD][ix]? = some ux → (wr.alloc (.cells #[.int .i64 (p1 : Int), .int .i64 (p2 : Int), .slice aC i5 cC, .slice aD i6 cD] 46)).cell? (ad.add ix) = some ux) := fun _ => ⟨_, rfl, fun ix ux e => by
                            rw [plainAt, Nat.zero_add]
                            exact cellNew (w := wr) (cs := #[.int .i64 (p1 : Int), .int .i64 (p2 : Int), .slice aC i5 cC, .slice aD i6 cD]) (t := 46) (j := ix) (v := ux) (by simpa using e)⟩
                          have M7 : Hid (Lone 26 2 (wr.alloc (.cells #[.int .i64 (p1 : Int), .int .i64 (p2 : Int), .slice aC i5 cC, .slice aD i6 cD] 46)) (w.heap.size + 1 + 1) [.slice ak k ck, .slice ap j cp]) := MV.below b7 (by omega)
                          have L7 : Hid (Lone 26 2 (wr.alloc (.cells #[.int .i64 (p1 : Int), .int .i64 (p2 : Int), .slice aC i5 cC, .slice aD i6 cD] 46)) w.heap.size [.slice none 0 0, .slice none 0 0]) := LV.below b7 (by omega)
                          have S7 : Hid (Sq w av cv bs (wr.alloc (.cells #[.int .i64 (p1 : Int), .int .i64 (p2 : Int), .slice aC i5 cC, .slice aD i6 cD] 46)) (w.heap.size + 1) none) := Si.out.keep b7
                          have K7 : Hid (BK (wr.alloc (.cells #[.int .i64 (p1 : Int), .int .i64 (p2 : Int), .slice aC i5 cC, .slice aD i6 cD] 46)) (w.heap.size + 3) (.slice ak k ck) k (fun j => l.getD j cn0) ut) := KV.hold (fun b h1 h2 => b7.block b h2)
                          have P7 : Hid (BP (wr.alloc (.cells #[.int .i64 (p1 : Int), .int .i64 (p2 : Int), .slice aC i5 cC, .slice aD i6 cD] 46)) Bp (.slice ap j cp) j (fun i => ps.getD i pr0) uc ud) := PV.hold (fun b h1 h2 => b7.block b h2)
                          have C7 : Hid (RwC (wr.alloc (.cells #[.int .i64 (p1 : Int), .int .i64 (p2 : Int), .slice aC i5 cC, .slice aD i6 cD] 46)) Bp (.slice aC i5 cC) cs) := (Oc.out.2.weaken (by omega)).hold (fun b h1 h2 _ => b7.block b h2)
                          have I7 : Hid (RwI (wr.alloc (.cells #[.int .i64 (p1 : Int), .int .i64 (p2 : Int), .slice aC i5 cC, .slice aD i6 cD] 46)) Bp (.slice aD i6 cD) ds) := (Oi.out.2.weaken (by have := Zm.out; omega)).hold (fun b h1 h2 _ => b7.block b h2)
                          have q0 : wr.cell? ⟨w.heap.size + 1 + 1, 1, none⟩ = some (.slice ap j cp) := MV.at (j := 1) (by omega)
                          have t0 : wr.cell? ⟨F, 0, none⟩ = some (.int .i64 (p1 : Int)) := Ci.out.at (j := 0) (by omega)
                          have t1 : wr.cell? ⟨F, 1, none⟩ = some (.int .i64 (p2 : Int)) := Ci.out.at (j := 1) (by omega)
                          have t2 : wr.cell? ⟨F, 2, none⟩ = some (.slice aC i5 cC) := Ci.out.at (j := 2) (by omega)
                          have t3 : wr.cell? ⟨F, 3, none⟩ = some (.slice aD i6 cD) := Ci.out.at (j := 3) (by omega)
                          clear hus hx b7 KV PV LV MV
                          go_wp2_with (at_builtin; refine wpList_append_row rfl _ _ _ rfl 46 ip (.agg #[.int .i64 0, .int .i64 0, .slice none 0 0, .slice none 0 0]) 4 64 Tryd.underlying24 hip hpz0 hpz1 hpz2 rfl (by omega) Bp ap j cp us rfl HUS.out (some ⟨wr.heap.size, 0, none⟩) 1 1 [.int .i64 (p1 : Int), .int .i64 (p2 : Int), .slice aC i5 cC, .slice aD i6 cD] rfl rfl NW.out (by simp [Value.oneCell']) (by unfold maxLen; omega) (by omega) (by simp; omega) ?_; intro ap5 cp5 w5 hA; have HA5 : Hid (AppR 46 4 (wr.alloc (.cells #[.int .i64 (p1 : Int), .int .i64 (p2 : Int), .slice aC i5 cC, .slice aD i6 cD] 46)) Bp ap j cp (us ++ [.int .i64 (p1 : Int), .int .i64 (p2 : Int), .slice aC i5 cC, .slice aD i6 cD]) ap5 (j + 1) cp5 w5) := hA; have hrow : ∀ b, (Value.slice ap j cp).ownBlock = some b → Bp ≤ b := fun b e => (HUS.out.lt b e).1; have M8 : Hid (Lone 26 2 w5 (w.heap.size + 1 + 1) [.slice ak k ck, .slice ap j cp]) := (lone_grown M7.out hA.grow (fun e => by have := hrow _ e; omega)); have p8 := M8.out.at (j := 1) (by omega); have f8 := M8.out.free 1; simp only [List.getElem?_cons_zero, List.getElem?_cons_succ] at p8; clear hA)
                          have hO9 := olp_snoc (M := F) (L := M2) HLp.out (by omega) HPK.out P7.out SP.out.1 SP.out.2.1 SP.out.2.2 C7.out I7.out (fun b e => by have := (Oc.out.2.lt b e).1; omega) (fun b e => by have := (Oi.out.2.lt b e).1; have := Zm.out; omega) SPc.out (fun b e => (Oi.out.2.lt b e).1) (by rw [← Oc.out.1]; omega) (by rw [← Oi.out.1]; omega) HUS.out HX.out HA5.out
                          have z9 : Bp ≤ w5.heap.size := by have := HA5.out.grow.size; simp at this; omega
                          have L9 : Lone 26 2 w5 w.heap.size [.slice none 0 0, .slice none 0 0] := lone_grown L7.out HA5.out.grow (fun e => by have := hrow _ e; omega)
                          have S9 : Sq w av cv bs w5 (w.heap.size + 1) none := S7.out.app HA5.out.grow (fun b e => by have := hrow b e; omega)
                          have K9 : BK w5 (w.heap.size + 3) (.slice ak k ck) k (fun j => l.getD j cn0) ut := bk_grown K7.out HA5.out.grow (fun b e => by have := hrow b e; exact ⟨fun e' => by have := UKb.out.1 b e'; omega, fun i hi e' => by have := UKb.out.2 i hi b e'; omega⟩)
                          refine ⟨⟨j + 1, cp5, ap5, ps ++ [(⟨(p1 : Int), (p2 : Int), cs, ds⟩ : Pr)], none, by omega, by omega, by go_num, by show (ps ++ [_]).length = j + 1; simp [HLp.out], OLp.hold hO9 (set_other (by omega)), M8.out.set 1 _, L9.other (by omega), K9.hold (set_other (by omega)), list_next hlt2 HNp.out HGP.out, ?_, S9.far (by omega), by show _ ≤ _; simp; omega⟩, by simp [intOf]; omega⟩
                          exact fun ys e => by
                            have h := HGP.out
                            rw [e] at h
                            exact got_less (fun h => by have := protoD_len lum_len flagL_len h; omega) HZp.out h
                        | false =>
                          clear hbd6
                          go_wp2_with fail
                          clear cb6
                          refine (BY.out _ _ Si.out).mono ?_
                          rintro e w11 ⟨z11, s11, rfl, hz11, g11, h11, q11⟩
                          have Ca : Hid (Lone 46 4 w11 F [.int .i64 (p1 : Int), .int .i64 (p2 : Int), .slice aC i5 cC, .slice aD i6 cD]) := q11.lone Ci.out (by omega)
                          have LWa : Hid (Lo2 (w.heap.size + 1) F V0 w11) := LWi.out.fq q11 (Nat.le_of_lt (heap_lt Ci.out.back))
                          have Oia : Hid (OLi w11 M2 aD i6 cD ds) := Oi.out.hold (fun b h1 h2 => q11.keep b h2 (by have := Zm.out; omega))
                          have Oca : Hid (OLc w11 (F + 1) aC i5 cC cs) := Oc.out.hold (fun b h1 h2 => q11.keep b h2 (by omega))
                          have Sa : Hid (Sq w av cv bs w11 (w.heap.size + 1) s11) := h11
                          have HGa : Hid (Got (s10.bind byteD) (z11 : Int) s11) := g11
                          have Za : Hid (M2 ≤ w11.heap.size) := Nat.le_trans Zi.out q11.below.size
                          clear g11 h11 q11 Ci LWi Oi Oc Si
                          go_wp2_with fail
                          refine (NM.out _ _ Sa.out).mono ?_
                          rintro e w12 ⟨x12, s12, rfl, hx12, g12, h12, q12⟩
                          have Cb : Hid (Lone 46 4 w12 F [.int .i64 (p1 : Int), .int .i64 (p2 : Int), .slice aC i5 cC, .slice aD i6 cD]) := q12.lone Ca.out (by omega)
                          have LWb : Hid (Lo2 (w.heap.size + 1) F V0 w12) := LWa.out.fq q12 (Nat.le_of_lt (heap_lt Ca.out.back))
                          have Oib : Hid (OLi w12 M2 aD i6 cD ds) := Oia.out.hold (fun b h1 h2 => q12.keep b h2 (by have := Zm.out; omega))
                          have Ocb : Hid (OLc w12 (F + 1) aC i5 cC cs) := Oca.out.hold (fun b h1 h2 => q12.keep b h2 (by omega))
                          have Sb : Hid (Sq w av cv bs w12 (w.heap.size + 1) s12) := h12
                          have HGb : Hid (Got (s11.bind lum) x12 s12) := g12
                          have Zb : Hid (M2 ≤ w12.heap.size) := Nat.le_trans Za.out q12.below.size
                          clear g12 h12 q12 Ca LWa Oia Oca Sa
                          go_wp2_with fail
                          refine (NM.out _ _ Sb.out).mono ?_
                          rintro e w13 ⟨y13, s13, rfl, hy13, g13, h13, q13⟩
                          have Cc : Hid (Lone 46 4 w13 F [.int .i64 (p1 : Int), .int .i64 (p2 : Int), .slice aC i5 cC, .slice aD i6 cD]) := q13.lone Cb.out (by omega)
                          have LWc : Hid (Lo2 (w.heap.size + 1) F V0 w13) := LWb.out.fq q13 (Nat.le_of_lt (heap_lt Cb.out.back))
                          have Oic : Hid (OLi w13 M2 aD i6 cD ds) := Oib.out.hold (fun b h1 h2 => q13.keep b h2 (by have := Zm.out; omega))
                          have Occ : Hid (OLc w13 (F + 1) aC i5 cC cs) := Ocb.out.hold (fun b h1 h2 => q13.keep b h2 (by omega))
                          have Sc : Hid (Sq w av cv bs w13 (w.heap.size + 1) s13) := h13
                          have hzM : F + 1 ≤ w13.heap.size := heap_lt Cc.out.back
                          have hM13 : M2 ≤ w13.heap.size := Nat.le_trans Zb.out q13.below.size
                          have HGi : Hid (Got (s10.bind (insD lum)) (⟨(z11 : Int), (x12 : Int), (y13 : Int)⟩ : In) s13) := by
                            have g5 := got_then (e := fun (y : Nat) (ys : List Int) => (lum ys).map fun x : Nat × List Int => ((⟨(z11 : Int), (y : Int), (x.1 : Int)⟩ : In), x.2)) HGb.out (got_map (fun m : Nat => (⟨(z11 : Int), (x12 : Int), (m : Int)⟩ : In)) g13)
                            have g4 := got_then (e := fun (z : Int) (ys : List Int) => (lum ys).bind fun y => (lum y.2).map fun x : Nat × List Int => ((⟨z, (y.1 : Int), (x.1 : Int)⟩ : In), x.2)) HGa.out g5
                            exact g4
                          clear g13 h13 q13 Cb LWb Oib Ocb Sb HGa HGb
                          obtain ⟨us, hus, hx⟩ := Oic.out.row
                          have b7 : Below w13.heap.size w13 (w13.alloc (.cells #[.int .i64 (z11 : Int), .int .i64 (x12 : Int), .int .i64 (y13 : Int)] 50)) := (Below.refl _ _).alloc (Nat.le_refl _) _
                          have HUS : Hid ((w13.alloc (.cells #[.int .i64 (z11 : Int), .int .i64 (x12 : Int), .int .i64 (y13 : Int)] 50)).ownsRow M2 50 3 (.slice aD i6 cD) i6 us) := th.own_hold hus (fun b h1 h2 _ => b7.block b h2)
                          have HX : Hid (∀ i, i < i6 → InAt us i (ds.getD i in0)) := hx
                          have NW : Hid (0 < 1 → ∃ ad, (some ⟨w13.heap.size, 0, none⟩ : Option Addr) = some ad ∧ ∀ ix ux, [.int .i64 (z11 : Int), .int .i64 (x12 : Int), .int .i64 (y13 : Int)][ix]? = some ux → (w13.alloc (.cells #[.int .i64 (z11 : Int), .int .i64 (x12 : Int), .int .i64 (y13 : Int)] 50)).cell? (ad.add ix) = some ux) := fun _ => ⟨_, rfl, fun ix ux e => by
                            rw [plainAt, Nat.zero_add]
                            exact cellNew (w := w13) (cs := #[.int .i64 (z11 : Int), .int .i64 (x12 : Int), .int .i64 (y13 : Int)]) (t := 50) (j := ix) (v := ux) (by simpa using e)⟩
                          have C7 : Hid (Lone 46 4 (w13.alloc (.cells #[.int .i64 (z11 : Int), .int .i64 (x12 : Int), .int .i64 (y13 : Int)] 50)) F [.int .i64 (p1 : Int), .int .i64 (p2 : Int), .slice aC i5 cC, .slice aD i6 cD]) := Cc.out.below b7 (by omega)
                          have LW7 : Hid (Lo2 (w.heap.size + 1) F V0 (w13.alloc (.cells #[.int .i64 (z11 : Int), .int .i64 (x12 : Int), .int .i64 (y13 : Int)] 50))) := LWc.out.bel b7 (by omega)
                          have Oc7 : Hid (OLc (w13.alloc (.cells #[.int .i64 (z11 : Int), .int .i64 (x12 : Int), .int .i64 (y13 : Int)] 50)) (F + 1) aC i5 cC cs) := Occ.out.hold (fun b h1 h2 => b7.block b h2)
                          have S7 : Hid (Sq w av cv bs (w13.alloc (.cells #[.int .i64 (z11 : Int), .int .i64 (x12 : Int), .int .i64 (y13 : Int)] 50)) (w.heap.size + 1) s13) := Sc.out.keep b7
                          have t3 : w13.cell? ⟨F, 3, none⟩ = some (.slice aD i6 cD) := Cc.out.at (j := 3) (by omega)
                          have zmm := Zm.out
                          clear hus hx b7 Cc LWc Oic Occ Sc
                          go_wp2_with (at_builtin; refine wpList_append_row rfl _ _ _ rfl 50 ii (.agg #[.int .i64 0, .int .i64 0, .int .i64 0]) 3 24 Tryd.underlying44 hii hiz0 hiz1 hiz2 rfl (by omega) M2 aD i6 cD us rfl HUS.out (some ⟨w13.heap.size, 0, none⟩) 1 1 [.int .i64 (z11 : Int), .int .i64 (x12 : Int), .int .i64 (y13 : Int)] rfl rfl NW.out (by simp [Value.oneCell']) (by unfold maxLen; omega) (by omega) (by simp; omega) ?_; intro aD5 cD5 w14 hA; have HA5 : Hid (AppR 50 3 (w13.alloc (.cells #[.int .i64 (z11 : Int), .int .i64 (x12 : Int), .int .i64 (y13 : Int)] 50)) M2 aD i6 cD (us ++ [.int .i64 (z11 : Int), .int .i64 (x12 : Int), .int .i64 (y13 : Int)]) aD5 (i6 + 1) cD5 w14) := hA; have hrow : ∀ b, (Value.slice aD i6 cD).ownBlock = some b → M2 ≤ b := fun b e => (HUS.out.lt b e).1; have C8 : Hid (Lone 46 4 w14 F [.int .i64 (p1 : Int), .int .i64 (p2 : Int), .slice aC i5 cC, .slice aD i6 cD]) := (lone_grown C7.out hA.grow (fun e => by have := hrow _ e; omega)); have p8 := C8.out.at (j := 3) (by omega); have f8 := C8.out.free 3; simp only [List.getElem?_cons_zero, List.getElem?_cons_succ] at p8; clear hA)
                          have hO9 := oli_snoc HLd.out HUS.out HX.out HA5.out
                          have z9 : M2 ≤ w14.heap.size := by have := HA5.out.grow.size; simp at this; omega
                          have S9 : Sq w av cv bs w14 (w.heap.size + 1) s13 := S7.out.app HA5.out.grow (fun b e => by have := hrow b e; omega)
                          have LW9 : Lo2 (w.heap.size + 1) F V0 w14 := LW7.out.app HA5.out.grow (by simp; omega) (fun b e => by have := hrow b e; omega)
                          have Oc9 : OLc w14 (F + 1) aC i5 cC cs := ⟨Oc7.out.1, Oc7.out.2.hold (fun b h1 h2 e => HA5.out.grow.block b h2 (fun e' => by have := hrow b e'.symm; have := SPc.out b e; omega))⟩
                          exact ⟨⟨i6 + 1, cD5, aD5, ds ++ [(⟨(z11 : Int), (x12 : Int), (y13 : Int)⟩ : In)], s13, by omega, by go_num, by show (ds ++ [_]).length = i6 + 1; simp [HLd.out], hO9.hold (set_other (by omega)), Oc9.hold (set_other (by omega)), C8.out.set 3 _, LW9.set (Nat.le_refl _), list_next hl6 HNd.out HGi.out, S9.far (by omega), by show _ ≤ _; simp; omega⟩, by simp [intOf]; omega⟩
                      · obtain rfl : i6 = m6 := by omega
                        have HGP : Hid (Got (s2p.bind (protoD lum flagL)) (⟨(p1 : Int), (p2 : Int), cs, ds⟩ : Pr) s10) := by
                          have e5 := got_then (e := fun (n : Nat) (ys : List Int) => listD (insD lum) n ys) HGm.out (list_end HNd.out)
                          have e5' : Got (none.bind (manyD lum (insD lum))) ds s10 := e5
                          have e4 := got_then (e := fun (n : Nat) (ys : List Int) => listD (capD lum flagL) n ys) HGc.out ((.inl ⟨list_bad rfl HNc.out, rfl⟩ : Got (s7.bind (listD (capD lum flagL) m5)) cs none))
                          have e4' : Got (s6.bind (manyD lum (capD lum flagL))) cs none := e4
                          have e6 := got_then (e := fun (c : List Cp) (ys : List Int) => (manyD lum (insD lum) ys).map fun d : List In × List Int => ((⟨(p1 : Int), (p2 : Int), c, d.1⟩ : Pr), d.2)) e4' (got_map (fun l : List In => (⟨(p1 : Int), (p2 : Int), cs, l⟩ : Pr)) e5')
                          have e7 := got_then (e := fun (b : Nat) (ys : List Int) => (manyD lum (capD lum flagL) ys).bind fun c => (manyD lum (insD lum) c.2).map fun d : List In × List Int => ((⟨(p1 : Int), (b : Int), c.1, d.1⟩ : Pr), d.2)) HG6.out e6
                          have e8 := got_then (e := fun (a : Nat) (ys : List Int) => (lum ys).bind fun b => (manyD lum (capD lum flagL) b.2).bind fun c => (manyD lum (insD lum) c.2).map fun d : List In × List Int => ((⟨(a : Int), (b.1 : Int), c.1, d.1⟩ : Pr), d.2)) HG5.out e7
                          exact e8
                        have hsF : F + 1 ≤ wr.heap.size := by have h1 := Zi.out; have h2 := Zm.out; omega
                        have KV := KP.out.1.hold (fun b h1 h2 => LWi.out b (by have := HF.out; omega) (by omega))
                        have PV := KP.out.2.1.hold (fun b h1 h2 => LWi.out b (by have := HF.out; omega) (by omega))
                        have LV : Lone 26 2 wr w.heap.size [.slice none 0 0, .slice none 0 0] := own_far LM.out.1 (fun b e => by cases e; exact LWi.out _ (by show w.heap.size < F; omega) (by show w.heap.size ≠ w.heap.size + 1; omega))
                        have MV : Lone 26 2 wr (w.heap.size + 1 + 1) [.slice ak k ck, .slice ap j cp] := own_far LM.out.2 (fun b e => by cases e; exact LWi.out _ (by show w.heap.size + 1 + 1 < F; omega) (by show w.heap.size + 1 + 1 ≠ w.heap.size + 1; omega))
                        obtain ⟨us, hus, hx⟩ := PV.row
                        have b7 : Below wr.heap.size wr (wr.alloc (.cells #[.int .i64 (p1 : Int), .int .i64 (p2 : Int), .slice aC i5 cC, .slice aD i6 cD] 46)) := (Below.refl _ _).alloc (Nat.le_refl _) _
                        have HUS : Hid ((wr.alloc (.cells #[.int .i64 (p1 : Int), .int .i64 (p2 : Int), .slice aC i5 cC, .slice aD i6 cD] 46)).ownsRow Bp 46 4 (.slice ap j cp) j us) := th.own_hold hus (fun b h1 h2 _ => b7.block b h2)
                        have HX : Hid (∀ i, i < j → us[i * 4]? = some (.int .i64 (ps.getD i pr0).params) ∧ us[i * 4 + 1]? = some (.int .i64 (ps.getD i pr0).slots) ∧ us[i * 4 + 2]? = some (uc i) ∧ us[i * 4 + 3]? = some (ud i)) := hx
                        have NW : Hid (0 < 1 → ∃ ad, (some ⟨wr.heap.size, 0, none⟩ : Option Addr) = some ad ∧ ∀ ix ux, [.int .i64 (p1 : Int), .int .i64 (p2 : Int), .slice aC i5 cC, .slice aD i6 cD][ix]? = some ux → (wr.alloc (.cells #[.int .i64 (p1 : Int), .int .i64 (p2 : Int), .slice aC i5 cC, .slice aD i6 cD] 46)).cell? (ad.add ix) = some ux) := fun _ => ⟨_, rfl, fun ix ux e => by
                          rw [plainAt, Nat.zero_add]
                          exact cellNew (w := wr) (cs := #[.int .i64 (p1 : Int), .int .i64 (p2 : Int), .slice aC i5 cC, .slice aD i6 cD]) (t := 46) (j := ix) (v := ux) (by simpa using e)⟩
                        have M7 : Hid (Lone 26 2 (wr.alloc (.cells #[.int .i64 (p1 : Int), .int .i64 (p2 : Int), .slice aC i5 cC, .slice aD i6 cD] 46)) (w.heap.size + 1 + 1) [.slice ak k ck, .slice ap j cp]) := MV.below b7 (by omega)
                        have L7 : Hid (Lone 26 2 (wr.alloc (.cells #[.int .i64 (p1 : Int), .int .i64 (p2 : Int), .slice aC i5 cC, .slice aD i6 cD] 46)) w.heap.size [.slice none 0 0, .slice none 0 0]) := LV.below b7 (by omega)
                        have S7 : Hid (Sq w av cv bs (wr.alloc (.cells #[.int .i64 (p1 : Int), .int .i64 (p2 : Int), .slice aC i5 cC, .slice aD i6 cD] 46)) (w.heap.size + 1) s10) := Si.out.keep b7
                        have K7 : Hid (BK (wr.alloc (.cells #[.int .i64 (p1 : Int), .int .i64 (p2 : Int), .slice aC i5 cC, .slice aD i6 cD] 46)) (w.heap.size + 3) (.slice ak k ck) k (fun j => l.getD j cn0) ut) := KV.hold (fun b h1 h2 => b7.block b h2)
                        have P7 : Hid (BP (wr.alloc (.cells #[.int .i64 (p1 : Int), .int .i64 (p2 : Int), .slice aC i5 cC, .slice aD i6 cD] 46)) Bp (.slice ap j cp) j (fun i => ps.getD i pr0) uc ud) := PV.hold (fun b h1 h2 => b7.block b h2)
                        have C7 : Hid (RwC (wr.alloc (.cells #[.int .i64 (p1 : Int), .int .i64 (p2 : Int), .slice aC i5 cC, .slice aD i6 cD] 46)) Bp (.slice aC i5 cC) cs) := (Oc.out.2.weaken (by omega)).hold (fun b h1 h2 _ => b7.block b h2)
                        have I7 : Hid (RwI (wr.alloc (.cells #[.int .i64 (p1 : Int), .int .i64 (p2 : Int), .slice aC i5 cC, .slice aD i6 cD] 46)) Bp (.slice aD i6 cD) ds) := (Oi.out.2.weaken (by have := Zm.out; omega)).hold (fun b h1 h2 _ => b7.block b h2)
                        have q0 : wr.cell? ⟨w.heap.size + 1 + 1, 1, none⟩ = some (.slice ap j cp) := MV.at (j := 1) (by omega)
                        have t0 : wr.cell? ⟨F, 0, none⟩ = some (.int .i64 (p1 : Int)) := Ci.out.at (j := 0) (by omega)
                        have t1 : wr.cell? ⟨F, 1, none⟩ = some (.int .i64 (p2 : Int)) := Ci.out.at (j := 1) (by omega)
                        have t2 : wr.cell? ⟨F, 2, none⟩ = some (.slice aC i5 cC) := Ci.out.at (j := 2) (by omega)
                        have t3 : wr.cell? ⟨F, 3, none⟩ = some (.slice aD i6 cD) := Ci.out.at (j := 3) (by omega)
                        clear hus hx b7 KV PV LV MV
                        go_wp2_with (at_builtin; refine wpList_append_row rfl _ _ _ rfl 46 ip (.agg #[.int .i64 0, .int .i64 0, .slice none 0 0, .slice none 0 0]) 4 64 Tryd.underlying24 hip hpz0 hpz1 hpz2 rfl (by omega) Bp ap j cp us rfl HUS.out (some ⟨wr.heap.size, 0, none⟩) 1 1 [.int .i64 (p1 : Int), .int .i64 (p2 : Int), .slice aC i5 cC, .slice aD i6 cD] rfl rfl NW.out (by simp [Value.oneCell']) (by unfold maxLen; omega) (by omega) (by simp; omega) ?_; intro ap5 cp5 w5 hA; have HA5 : Hid (AppR 46 4 (wr.alloc (.cells #[.int .i64 (p1 : Int), .int .i64 (p2 : Int), .slice aC i5 cC, .slice aD i6 cD] 46)) Bp ap j cp (us ++ [.int .i64 (p1 : Int), .int .i64 (p2 : Int), .slice aC i5 cC, .slice aD i6 cD]) ap5 (j + 1) cp5 w5) := hA; have hrow : ∀ b, (Value.slice ap j cp).ownBlock = some b → Bp ≤ b := fun b e => (HUS.out.lt b e).1; have M8 : Hid (Lone 26 2 w5 (w.heap.size + 1 + 1) [.slice ak k ck, .slice ap j cp]) := (lone_grown M7.out hA.grow (fun e => by have := hrow _ e; omega)); have p8 := M8.out.at (j := 1) (by omega); have f8 := M8.out.free 1; simp only [List.getElem?_cons_zero, List.getElem?_cons_succ] at p8; clear hA)
                        have hO9 := olp_snoc (M := F) (L := M2) HLp.out (by omega) HPK.out P7.out SP.out.1 SP.out.2.1 SP.out.2.2 C7.out I7.out (fun b e => by have := (Oc.out.2.lt b e).1; omega) (fun b e => by have := (Oi.out.2.lt b e).1; have := Zm.out; omega) SPc.out (fun b e => (Oi.out.2.lt b e).1) (by rw [← Oc.out.1]; omega) (by rw [← Oi.out.1]; omega) HUS.out HX.out HA5.out
                        have z9 : Bp ≤ w5.heap.size := by have := HA5.out.grow.size; simp at this; omega
                        have L9 : Lone 26 2 w5 w.heap.size [.slice none 0 0, .slice none 0 0] := lone_grown L7.out HA5.out.grow (fun e => by have := hrow _ e; omega)
                        have S9 : Sq w av cv bs w5 (w.heap.size + 1) s10 := S7.out.app HA5.out.grow (fun b e => by have := hrow b e; omega)
                        have K9 : BK w5 (w.heap.size + 3) (.slice ak k ck) k (fun j => l.getD j cn0) ut := bk_grown K7.out HA5.out.grow (fun b e => by have := hrow b e; exact ⟨fun e' => by have := UKb.out.1 b e'; omega, fun i hi e' => by have := UKb.out.2 i hi b e'; omega⟩)
                        refine ⟨⟨j + 1, cp5, ap5, ps ++ [(⟨(p1 : Int), (p2 : Int), cs, ds⟩ : Pr)], s10, by omega, by omega, by go_num, by show (ps ++ [_]).length = j + 1; simp [HLp.out], OLp.hold hO9 (set_other (by omega)), M8.out.set 1 _, L9.other (by omega), K9.hold (set_other (by omega)), list_next hlt2 HNp.out HGP.out, ?_, S9.far (by omega), by show _ ≤ _; simp; omega⟩, by simp [intOf]; omega⟩
                        exact fun ys e => by
                          have h := HGP.out
                          rw [e] at h
                          exact got_less (fun h => by have := protoD_len lum_len flagL_len h; omega) HZp.out h
                  | false =>
                    clear hbd5
                    go_wp2_with fail
                    clear cb5
                    refine (BY.out _ _ S5i.out).mono ?_
                    rintro e w11 ⟨z11, s11, rfl, hz11, g11, h11, q11⟩
                    have Ca : Hid (Lone 46 4 w11 F [.int .i64 (p1 : Int), .int .i64 (p2 : Int), .slice aC i5 cC, .slice none 0 0]) := q11.lone C5i.out (by omega)
                    have LWa : Hid (Lo2 (w.heap.size + 1) F V0 w11) := LW5i.out.fq q11 (Nat.le_of_lt (heap_lt C5i.out.back))
                    have Oca : Hid (OLc w11 (F + 1) aC i5 cC cs) := Oc5.out.hold (fun b h1 h2 => q11.keep b h2 (by omega))
                    have Sa : Hid (Sq w av cv bs w11 (w.heap.size + 1) s11) := h11
                    have HGa : Hid (Got (s8.bind flagL) ((z11 : Int) == 1) s11) := got_flagL g11
                    clear g11 h11 q11 C5i LW5i Oc5 S5i
                    go_wp2_with fail
                    refine (NM.out _ _ Sa.out).mono ?_
                    rintro e w12 ⟨x12, s12, rfl, hx12, g12, h12, q12⟩
                    have Cb : Hid (Lone 46 4 w12 F [.int .i64 (p1 : Int), .int .i64 (p2 : Int), .slice aC i5 cC, .slice none 0 0]) := q12.lone Ca.out (by omega)
                    have LWb : Hid (Lo2 (w.heap.size + 1) F V0 w12) := LWa.out.fq q12 (Nat.le_of_lt (heap_lt Ca.out.back))
                    have Ocb : Hid (OLc w12 (F + 1) aC i5 cC cs) := Oca.out.hold (fun b h1 h2 => q12.keep b h2 (by omega))
                    have Sb : Hid (Sq w av cv bs w12 (w.heap.size + 1) s12) := h12
                    have hz12 : F + 1 ≤ w12.heap.size := heap_lt Cb.out.back
                    have HGi : Hid (Got (s8.bind (capD lum flagL)) (⟨(z11 : Int) == 1, (x12 : Int)⟩ : Cp) s12) := by
                      have g4 := got_then (e := fun (b : Bool) (ys : List Int) => (lum ys).map fun y : Nat × List Int => ((⟨b, (y.1 : Int)⟩ : Cp), y.2)) HGa.out (got_map (fun n : Nat => (⟨(z11 : Int) == 1, (n : Int)⟩ : Cp)) g12)
                      exact g4
                    clear g12 h12 q12 Ca LWa Oca Sa HGa
                    obtain ⟨us, hus, hx⟩ := Ocb.out.row
                    have b7 : Below w12.heap.size w12 (w12.alloc (.cells #[.bool ((z11 : Int) == 1), .int .i64 (x12 : Int)] 48)) := (Below.refl _ _).alloc (Nat.le_refl _) _
                    have HUS : Hid ((w12.alloc (.cells #[.bool ((z11 : Int) == 1), .int .i64 (x12 : Int)] 48)).ownsRow (F + 1) 48 2 (.slice aC i5 cC) i5 us) := th.own_hold hus (fun b h1 h2 _ => b7.block b h2)
                    have HX : Hid (∀ i, i < i5 → CpAt us i (cs.getD i cp0)) := hx
                    have NW : Hid (0 < 1 → ∃ ad, (some ⟨w12.heap.size, 0, none⟩ : Option Addr) = some ad ∧ ∀ ix ux, [.bool ((z11 : Int) == 1), .int .i64 (x12 : Int)][ix]? = some ux → (w12.alloc (.cells #[.bool ((z11 : Int) == 1), .int .i64 (x12 : Int)] 48)).cell? (ad.add ix) = some ux) := fun _ => ⟨_, rfl, fun ix ux e => by
                      rw [plainAt, Nat.zero_add]
                      exact cellNew (w := w12) (cs := #[.bool ((z11 : Int) == 1), .int .i64 (x12 : Int)]) (t := 48) (j := ix) (v := ux) (by simpa using e)⟩
                    have C7 : Hid (Lone 46 4 (w12.alloc (.cells #[.bool ((z11 : Int) == 1), .int .i64 (x12 : Int)] 48)) F [.int .i64 (p1 : Int), .int .i64 (p2 : Int), .slice aC i5 cC, .slice none 0 0]) := Cb.out.below b7 (by omega)
                    have LW7 : Hid (Lo2 (w.heap.size + 1) F V0 (w12.alloc (.cells #[.bool ((z11 : Int) == 1), .int .i64 (x12 : Int)] 48))) := LWb.out.bel b7 (by omega)
                    have S7 : Hid (Sq w av cv bs (w12.alloc (.cells #[.bool ((z11 : Int) == 1), .int .i64 (x12 : Int)] 48)) (w.heap.size + 1) s12) := Sb.out.keep b7
                    have t2 : w12.cell? ⟨F, 2, none⟩ = some (.slice aC i5 cC) := Cb.out.at (j := 2) (by omega)
                    clear hus hx b7 Cb LWb Ocb Sb
                    go_wp2_with (at_builtin; refine wpList_append_row rfl _ _ _ rfl 48 ic0 (.agg #[.bool false, .int .i64 0]) 2 16 Tryd.underlying43 hic hcz0 hcz1 hcz2 rfl (by omega) (F + 1) aC i5 cC us rfl HUS.out (some ⟨w12.heap.size, 0, none⟩) 1 1 [.bool ((z11 : Int) == 1), .int .i64 (x12 : Int)] rfl rfl NW.out (by simp [Value.oneCell']) (by unfold maxLen; omega) (by omega) (by simp; omega) ?_; intro aC5 cC5 w14 hA; have HA5 : Hid (AppR 48 2 (w12.alloc (.cells #[.bool ((z11 : Int) == 1), .int .i64 (x12 : Int)] 48)) (F + 1) aC i5 cC (us ++ [.bool ((z11 : Int) == 1), .int .i64 (x12 : Int)]) aC5 (i5 + 1) cC5 w14) := hA; have hrow : ∀ b, (Value.slice aC i5 cC).ownBlock = some b → F + 1 ≤ b := fun b e => (HUS.out.lt b e).1; have C8 : Hid (Lone 46 4 w14 F [.int .i64 (p1 : Int), .int .i64 (p2 : Int), .slice aC i5 cC, .slice none 0 0]) := (lone_grown C7.out hA.grow (fun e => by have := hrow _ e; omega)); have p8 := C8.out.at (j := 2) (by omega); have f8 := C8.out.free 2; simp only [List.getElem?_cons_zero, List.getElem?_cons_succ] at p8; clear hA)
                    have hO9 := olc_snoc HLc.out HUS.out HX.out HA5.out
                    have S9 : Sq w av cv bs w14 (w.heap.size + 1) s12 := S7.out.app HA5.out.grow (fun b e => by have := hrow b e; omega)
                    have LW9 : Lo2 (w.heap.size + 1) F V0 w14 := LW7.out.app HA5.out.grow (by simp; omega) (fun b e => by have := hrow b e; omega)
                    exact ⟨⟨i5 + 1, cC5, aC5, cs ++ [(⟨(z11 : Int) == 1, (x12 : Int)⟩ : Cp)], s12, by omega, by go_num, by show (cs ++ [_]).length = i5 + 1; simp [HLc.out], hO9.hold (set_other (by omega)), C8.out.set 2 _, LW9.set (Nat.le_refl _), list_next hl5 HNc.out HGi.out, S9.far (by omega)⟩, by simp [intOf]; omega⟩
                · obtain rfl : i5 = m5 := by omega
                  go_wp2_with fail
                  refine (NM.out _ _ S5i.out).mono ?_
                  rintro e w8 ⟨m6, s9, rfl, hm6, gg, hh, qq⟩
                  have Cm : Hid (Lone 46 4 w8 F [.int .i64 (p1 : Int), .int .i64 (p2 : Int), .slice aC i5 cC, .slice none 0 0]) := qq.lone C5i.out (by omega)
                  have HGm : Hid (Got (s8.bind lum) m6 s9) := gg
                  have Sm : Hid (Sq w av cv bs w8 (w.heap.size + 1) s9) := hh
                  have LWm : Hid (Lo2 (w.heap.size + 1) F V0 w8) := LW5i.out.fq qq (Nat.le_of_lt (heap_lt C5i.out.back))
                  have Ocm : Hid (OLc w8 (F + 1) aC i5 cC cs) := Oc5.out.hold (fun b h1 h2 => qq.keep b h2 (by omega))
                  clear gg hh qq S5i C5i LW5i
                  obtain ⟨M2, hM2⟩ : ∃ M2, M2 = w8.heap.size := ⟨_, rfl⟩
                  have Zm : Hid (F + 1 ≤ M2) := by
                    show F + 1 ≤ M2
                    rw [hM2]
                    exact heap_lt Cm.out.back
                  have SPc : Hid (∀ b, (Value.slice aC i5 cC).ownBlock = some b → b < M2) := fun b e => by rw [hM2]; exact (Ocm.out.2.lt b e).2
                  have hM2' : M2 ≤ w8.heap.size := by omega
                  clear hM2
                  go_wp2_with fail
                  go_loopw [21] (fun x wr => ∃ (i6 cD : Nat) (aD : Option Addr) (ds : List In) (s' : Option (List Int)), i6 ≤ m6 ∧ x = .int .i64 (i6 : Int) ∧ Hid (ds.length = i6) ∧ Hid (OLi wr M2 aD i6 cD ds) ∧ Hid (OLc wr (F + 1) aC i5 cC cs) ∧ Hid (Lone 46 4 wr F [.int .i64 (p1 : Int), .int .i64 (p2 : Int), .slice aC i5 cC, .slice aD i6 cD]) ∧ Hid (Lo2 (w.heap.size + 1) F V0 wr) ∧ Hid (s9.bind (listD (insD lum) m6) = (s'.bind (listD (insD lum) (m6 - i6))).map fun y => (ds ++ y.1, y.2)) ∧ Hid (Sq w av cv bs wr (w.heap.size + 1) s') ∧ Hid (M2 ≤ wr.heap.size)) (fun x _ => m6 - (intOf x).toNat)
                  case atStart => exact ⟨0, 0, none, [], s9, by omega, rfl, rfl, oli_nil _ _, Ocm.out, Cm.out, LWm.out, list_start, Sm.out, hM2'⟩
                  case round =>
                    obtain ⟨i6, cD, aD, ds, s10, hi6, rfl, HLd, Oi, Oc, Ci, LWi, HNd, Si, Zi⟩ := hrel
                    clear Ocm Cm LWm Sm hM2'
                    obtain ⟨bd6, cb6, hbd6⟩ := Si.out.bad
                    by_cases hl6 : i6 < m6
                    · have hl6' : (i6 : Int) < (m6 : Int) := by omega
                      cases bd6 with
                      | true =>
                        obtain rfl : s10 = none := hbd6.1 rfl
                        clear hbd6
                        have HGP : Hid (Got (s2p.bind (protoD lum flagL)) (⟨(p1 : Int), (p2 : Int), cs, ds⟩ : Pr) none) := by
                          have e5 := got_then (e := fun (n : Nat) (ys : List Int) => listD (insD lum) n ys) HGm.out ((.inl ⟨list_bad rfl HNd.out, rfl⟩ : Got (s9.bind (listD (insD lum) m6)) ds none))
                          have e5' : Got (s8.bind (manyD lum (insD lum))) ds none := e5
                          have e4 := got_then (e := fun (n : Nat) (ys : List Int) => listD (capD lum flagL) n ys) HGc.out (list_end HNc.out)
                          have e4' : Got (s6.bind (manyD lum (capD lum flagL))) cs s8 := e4
                          have e6 := got_then (e := fun (c : List Cp) (ys : List Int) => (manyD lum (insD lum) ys).map fun d : List In × List Int => ((⟨(p1 : Int), (p2 : Int), c, d.1⟩ : Pr), d.2)) e4' (got_map (fun l : List In => (⟨(p1 : Int), (p2 : Int), cs, l⟩ : Pr)) e5')
                          have e7 := got_then (e := fun (b : Nat) (ys : List Int) => (manyD lum (capD lum flagL) ys).bind fun c => (manyD lum (insD lum) c.2).map fun d : List In × List Int => ((⟨(p1 : Int), (b : Int), c.1, d.1⟩ : Pr), d.2)) HG6.out e6
                          have e8 := got_then (e := fun (a : Nat) (ys : List Int) => (lum ys).bind fun b => (manyD lum (capD lum flagL) b.2).bind fun c => (manyD lum (insD lum) c.2).map fun d : List In × List Int => ((⟨(a : Int), (b.1 : Int), c.1, d.1⟩ : Pr), d.2)) HG5.out e7
                          exact e8
                        have hsF : F + 1 ≤ wr.heap.size := by have h1 := Zi.out; have h2 := Zm.out; omega
                        have KV := KP.out.1.hold (fun b h1 h2 => LWi.out b (by have := HF.out; omega) (by omega))
                        have PV := KP.out.2.1.hold (fun b h1 h2 => LWi.out b (by have := HF.out; omega) (by omega))
                        have LV : Lone 26 2 wr w.heap.size [.slice none 0 0, .slice none 0 0] := own_far LM.out.1 (fun b e => by cases e; exact LWi.out _ (by show w.heap.size < F; omega) (by show w.heap.size ≠ w.heap.size + 1; omega))
                        have MV : Lone 26 2 wr (w.heap.size + 1 + 1) [.slice ak k ck, .slice ap j cp] := own_far LM.out.2 (fun b e => by cases e; exact LWi.out _ (by show w.heap.size + 1 + 1 < F; omega) (by show w.heap.size + 1 + 1 ≠ w.heap.size + 1; omega))
                        obtain ⟨us, hus, hx⟩ := PV.row
                        have b7 : Below wr.heap.size wr (wr.alloc (.cells #[.int .i64 (p1 : Int), .int .i64 (p2 : Int), .slice aC i5 cC, .slice aD i6 cD] 46)) := (Below.refl _ _).alloc (Nat.le_refl _) _
                        have HUS : Hid ((wr.alloc (.cells #[.int .i64 (p1 : Int), .int .i64 (p2 : Int), .slice aC i5 cC, .slice aD i6 cD] 46)).ownsRow Bp 46 4 (.slice ap j cp) j us) := th.own_hold hus (fun b h1 h2 _ => b7.block b h2)
                        have HX : Hid (∀ i, i < j → us[i * 4]? = some (.int .i64 (ps.getD i pr0).params) ∧ us[i * 4 + 1]? = some (.int .i64 (ps.getD i pr0).slots) ∧ us[i * 4 + 2]? = some (uc i) ∧ us[i * 4 + 3]? = some (ud i)) := hx
                        have NW : Hid (0 < 1 → ∃ ad, (some ⟨wr.heap.size, 0, none⟩ : Option Addr) = some ad ∧ ∀ ix ux, [.int .i64 (p1 : Int), .int .i64 (p2 : Int), .slice aC i5 cC, .slice aD i6 cD][ix]? = some ux → (wr.alloc (.cells #[.int .i64 (p1 : Int), .int .i64 (p2 : Int), .slice aC i5 cC, .slice aD i6 cD] 46)).cell? (ad.add ix) = some ux) := fun _ => ⟨_, rfl, fun ix ux e => by
                          rw [plainAt, Nat.zero_add]
                          exact cellNew (w := wr) (cs := #[.int .i64 (p1 : Int), .int .i64 (p2 : Int), .slice aC i5 cC, .slice aD i6 cD]) (t := 46) (j := ix) (v := ux) (by simpa using e)⟩
                        have M7 : Hid (Lone 26 2 (wr.alloc (.cells #[.int .i64 (p1 : Int), .int .i64 (p2 : Int), .slice aC i5 cC, .slice aD i6 cD] 46)) (w.heap.size + 1 + 1) [.slice ak k ck, .slice ap j cp]) := MV.below b7 (by omega)
                        have L7 : Hid (Lone 26 2 (wr.alloc (.cells #[.int .i64 (p1 : Int), .int .i64 (p2 : Int), .slice aC i5 cC, .slice aD i6 cD] 46)) w.heap.size [.slice none 0 0, .slice none 0 0]) := LV.below b7 (by omega)
                        have S7 : Hid (Sq w av cv bs (wr.alloc (.cells #[.int .i64 (p1 : Int), .int .i64 (p2 : Int), .slice aC i5 cC, .slice aD i6 cD] 46)) (w.heap.size + 1) none) := Si.out.keep b7
                        have K7 : Hid (BK (wr.alloc (.cells #[.int .i64 (p1 : Int), .int .i64 (p2 : Int), .slice aC i5 cC, .slice aD i6 cD] 46)) (w.heap.size + 3) (.slice ak k ck) k (fun j => l.getD j cn0) ut) := KV.hold (fun b h1 h2 => b7.block b h2)
                        have P7 : Hid (BP (wr.alloc (.cells #[.int .i64 (p1 : Int), .int .i64 (p2 : Int), .slice aC i5 cC, .slice aD i6 cD] 46)) Bp (.slice ap j cp) j (fun i => ps.getD i pr0) uc ud) := PV.hold (fun b h1 h2 => b7.block b h2)
                        have C7 : Hid (RwC (wr.alloc (.cells #[.int .i64 (p1 : Int), .int .i64 (p2 : Int), .slice aC i5 cC, .slice aD i6 cD] 46)) Bp (.slice aC i5 cC) cs) := (Oc.out.2.weaken (by omega)).hold (fun b h1 h2 _ => b7.block b h2)
                        have I7 : Hid (RwI (wr.alloc (.cells #[.int .i64 (p1 : Int), .int .i64 (p2 : Int), .slice aC i5 cC, .slice aD i6 cD] 46)) Bp (.slice aD i6 cD) ds) := (Oi.out.2.weaken (by have := Zm.out; omega)).hold (fun b h1 h2 _ => b7.block b h2)
                        have q0 : wr.cell? ⟨w.heap.size + 1 + 1, 1, none⟩ = some (.slice ap j cp) := MV.at (j := 1) (by omega)
                        have t0 : wr.cell? ⟨F, 0, none⟩ = some (.int .i64 (p1 : Int)) := Ci.out.at (j := 0) (by omega)
                        have t1 : wr.cell? ⟨F, 1, none⟩ = some (.int .i64 (p2 : Int)) := Ci.out.at (j := 1) (by omega)
                        have t2 : wr.cell? ⟨F, 2, none⟩ = some (.slice aC i5 cC) := Ci.out.at (j := 2) (by omega)
                        have t3 : wr.cell? ⟨F, 3, none⟩ = some (.slice aD i6 cD) := Ci.out.at (j := 3) (by omega)
                        clear hus hx b7 KV PV LV MV
                        go_wp2_with (at_builtin; refine wpList_append_row rfl _ _ _ rfl 46 ip (.agg #[.int .i64 0, .int .i64 0, .slice none 0 0, .slice none 0 0]) 4 64 Tryd.underlying24 hip hpz0 hpz1 hpz2 rfl (by omega) Bp ap j cp us rfl HUS.out (some ⟨wr.heap.size, 0, none⟩) 1 1 [.int .i64 (p1 : Int), .int .i64 (p2 : Int), .slice aC i5 cC, .slice aD i6 cD] rfl rfl NW.out (by simp [Value.oneCell']) (by unfold maxLen; omega) (by omega) (by simp; omega) ?_; intro ap5 cp5 w5 hA; have HA5 : Hid (AppR 46 4 (wr.alloc (.cells #[.int .i64 (p1 : Int), .int .i64 (p2 : Int), .slice aC i5 cC, .slice aD i6 cD] 46)) Bp ap j cp (us ++ [.int .i64 (p1 : Int), .int .i64 (p2 : Int), .slice aC i5 cC, .slice aD i6 cD]) ap5 (j + 1) cp5 w5) := hA; have hrow : ∀ b, (Value.slice ap j cp).ownBlock = some b → Bp ≤ b := fun b e => (HUS.out.lt b e).1; have M8 : Hid (Lone 26 2 w5 (w.heap.size + 1 + 1) [.slice ak k ck, .slice ap j cp]) := (lone_grown M7.out hA.grow (fun e => by have := hrow _ e; omega)); have p8 := M8.out.at (j := 1) (by omega); have f8 := M8.out.free 1; simp only [List.getElem?_cons_zero, List.getElem?_cons_succ] at p8; clear hA)
                        have hO9 := olp_snoc (M := F) (L := M2) HLp.out (by omega) HPK.out P7.out SP.out.1 SP.out.2.1 SP.out.2.2 C7.out I7.out (fun b e => by have := (Oc.out.2.lt b e).1; omega) (fun b e => by have := (Oi.out.2.lt b e).1; have := Zm.out; omega) SPc.out (fun b e => (Oi.out.2.lt b e).1) (by rw [← Oc.out.1]; omega) (by rw [← Oi.out.1]; omega) HUS.out HX.out HA5.out
                        have z9 : Bp ≤ w5.heap.size := by have := HA5.out.grow.size; simp at this; omega
                        have L9 : Lone 26 2 w5 w.heap.size [.slice none 0 0, .slice none 0 0] := lone_grown L7.out HA5.out.grow (fun e => by have := hrow _ e; omega)
                        have S9 : Sq w av cv bs w5 (w.heap.size + 1) none := S7.out.app HA5.out.grow (fun b e => by have := hrow b e; omega)
                        have K9 : BK w5 (w.heap.size + 3) (.slice ak k ck) k (fun j => l.getD j cn0) ut := bk_grown K7.out HA5.out.grow (fun b e => by have := hrow b e; exact ⟨fun e' => by have := UKb.out.1 b e'; omega, fun i hi e' => by have := UKb.out.2 i hi b e'; omega⟩)
                        refine ⟨⟨j + 1, cp5, ap5, ps ++ [(⟨(p1 : Int), (p2 : Int), cs, ds⟩ : Pr)], none, by omega, by omega, by go_num, by show (ps ++ [_]).length = j + 1; simp [HLp.out], OLp.hold hO9 (set_other (by omega)), M8.out.set 1 _, L9.other (by omega), K9.hold (set_other (by omega)), list_next hlt2 HNp.out HGP.out, ?_, S9.far (by omega), by show _ ≤ _; simp; omega⟩, by simp [intOf]; omega⟩
                        exact fun ys e => by
                          have h := HGP.out
                          rw [e] at h
                          exact got_less (fun h => by have := protoD_len lum_len flagL_len h; omega) HZp.out h
                      | false =>
                        clear hbd6
                        go_wp2_with fail
                        clear cb6
                        refine (BY.out _ _ Si.out).mono ?_
                        rintro e w11 ⟨z11, s11, rfl, hz11, g11, h11, q11⟩
                        have Ca : Hid (Lone 46 4 w11 F [.int .i64 (p1 : Int), .int .i64 (p2 : Int), .slice aC i5 cC, .slice aD i6 cD]) := q11.lone Ci.out (by omega)
                        have LWa : Hid (Lo2 (w.heap.size + 1) F V0 w11) := LWi.out.fq q11 (Nat.le_of_lt (heap_lt Ci.out.back))
                        have Oia : Hid (OLi w11 M2 aD i6 cD ds) := Oi.out.hold (fun b h1 h2 => q11.keep b h2 (by have := Zm.out; omega))
                        have Oca : Hid (OLc w11 (F + 1) aC i5 cC cs) := Oc.out.hold (fun b h1 h2 => q11.keep b h2 (by omega))
                        have Sa : Hid (Sq w av cv bs w11 (w.heap.size + 1) s11) := h11
                        have HGa : Hid (Got (s10.bind byteD) (z11 : Int) s11) := g11
                        have Za : Hid (M2 ≤ w11.heap.size) := Nat.le_trans Zi.out q11.below.size
                        clear g11 h11 q11 Ci LWi Oi Oc Si
                        go_wp2_with fail
                        refine (NM.out _ _ Sa.out).mono ?_
                        rintro e w12 ⟨x12, s12, rfl, hx12, g12, h12, q12⟩
                        have Cb : Hid (Lone 46 4 w12 F [.int .i64 (p1 : Int), .int .i64 (p2 : Int), .slice aC i5 cC, .slice aD i6 cD]) := q12.lone Ca.out (by omega)
                        have LWb : Hid (Lo2 (w.heap.size + 1) F V0 w12) := LWa.out.fq q12 (Nat.le_of_lt (heap_lt Ca.out.back))
                        have Oib : Hid (OLi w12 M2 aD i6 cD ds) := Oia.out.hold (fun b h1 h2 => q12.keep b h2 (by have := Zm.out; omega))
                        have Ocb : Hid (OLc w12 (F + 1) aC i5 cC cs) := Oca.out.hold (fun b h1 h2 => q12.keep b h2 (by omega))
                        have Sb : Hid (Sq w av cv bs w12 (w.heap.size + 1) s12) := h12
                        have HGb : Hid (Got (s11.bind lum) x12 s12) := g12
                        have Zb : Hid (M2 ≤ w12.heap.size) := Nat.le_trans Za.out q12.below.size
                        clear g12 h12 q12 Ca LWa Oia Oca Sa
                        go_wp2_with fail
                        refine (NM.out _ _ Sb.out).mono ?_
                        rintro e w13 ⟨y13, s13, rfl, hy13, g13, h13, q13⟩
                        have Cc : Hid (Lone 46 4 w13 F [.int .i64 (p1 : Int), .int .i64 (p2 : Int), .slice aC i5 cC, .slice aD i6 cD]) := q13.lone Cb.out (by omega)
                        have LWc : Hid (Lo2 (w.heap.size + 1) F V0 w13) := LWb.out.fq q13 (Nat.le_of_lt (heap_lt Cb.out.back))
                        have Oic : Hid (OLi w13 M2 aD i6 cD ds) := Oib.out.hold (fun b h1 h2 => q13.keep b h2 (by have := Zm.out; omega))
                        have Occ : Hid (OLc w13 (F + 1) aC i5 cC cs) := Ocb.out.hold (fun b h1 h2 => q13.keep b h2 (by omega))
                        have Sc : Hid (Sq w av cv bs w13 (w.heap.size + 1) s13) := h13
                        have hzM : F + 1 ≤ w13.heap.size := heap_lt Cc.out.back
                        have hM13 : M2 ≤ w13.heap.size := Nat.le_trans Zb.out q13.below.size
                        have HGi : Hid (Got (s10.bind (insD lum)) (⟨(z11 : Int), (x12 : Int), (y13 : Int)⟩ : In) s13) := by
                          have g5 := got_then (e := fun (y : Nat) (ys : List Int) => (lum ys).map fun x : Nat × List Int => ((⟨(z11 : Int), (y : Int), (x.1 : Int)⟩ : In), x.2)) HGb.out (got_map (fun m : Nat => (⟨(z11 : Int), (x12 : Int), (m : Int)⟩ : In)) g13)
                          have g4 := got_then (e := fun (z : Int) (ys : List Int) => (lum ys).bind fun y => (lum y.2).map fun x : Nat × List Int => ((⟨z, (y.1 : Int), (x.1 : Int)⟩ : In), x.2)) HGa.out g5
                          exact g4
                        clear g13 h13 q13 Cb LWb Oib Ocb Sb HGa HGb
                        obtain ⟨us, hus, hx⟩ := Oic.out.row
                        have b7 : Below w13.heap.size w13 (w13.alloc (.cells #[.int .i64 (z11 : Int), .int .i64 (x12 : Int), .int .i64 (y13 : Int)] 50)) := (Below.refl _ _).alloc (Nat.le_refl _) _
                        have HUS : Hid ((w13.alloc (.cells #[.int .i64 (z11 : Int), .int .i64 (x12 : Int), .int .i64 (y13 : Int)] 50)).ownsRow M2 50 3 (.slice aD i6 cD) i6 us) := th.own_hold hus (fun b h1 h2 _ => b7.block b h2)
                        have HX : Hid (∀ i, i < i6 → InAt us i (ds.getD i in0)) := hx
                        have NW : Hid (0 < 1 → ∃ ad, (some ⟨w13.heap.size, 0, none⟩ : Option Addr) = some ad ∧ ∀ ix ux, [.int .i64 (z11 : Int), .int .i64 (x12 : Int), .int .i64 (y13 : Int)][ix]? = some ux → (w13.alloc (.cells #[.int .i64 (z11 : Int), .int .i64 (x12 : Int), .int .i64 (y13 : Int)] 50)).cell? (ad.add ix) = some ux) := fun _ => ⟨_, rfl, fun ix ux e => by
                          rw [plainAt, Nat.zero_add]
                          exact cellNew (w := w13) (cs := #[.int .i64 (z11 : Int), .int .i64 (x12 : Int), .int .i64 (y13 : Int)]) (t := 50) (j := ix) (v := ux) (by simpa using e)⟩
                        have C7 : Hid (Lone 46 4 (w13.alloc (.cells #[.int .i64 (z11 : Int), .int .i64 (x12 : Int), .int .i64 (y13 : Int)] 50)) F [.int .i64 (p1 : Int), .int .i64 (p2 : Int), .slice aC i5 cC, .slice aD i6 cD]) := Cc.out.below b7 (by omega)
                        have LW7 : Hid (Lo2 (w.heap.size + 1) F V0 (w13.alloc (.cells #[.int .i64 (z11 : Int), .int .i64 (x12 : Int), .int .i64 (y13 : Int)] 50))) := LWc.out.bel b7 (by omega)
                        have Oc7 : Hid (OLc (w13.alloc (.cells #[.int .i64 (z11 : Int), .int .i64 (x12 : Int), .int .i64 (y13 : Int)] 50)) (F + 1) aC i5 cC cs) := Occ.out.hold (fun b h1 h2 => b7.block b h2)
                        have S7 : Hid (Sq w av cv bs (w13.alloc (.cells #[.int .i64 (z11 : Int), .int .i64 (x12 : Int), .int .i64 (y13 : Int)] 50)) (w.heap.size + 1) s13) := Sc.out.keep b7
                        have t3 : w13.cell? ⟨F, 3, none⟩ = some (.slice aD i6 cD) := Cc.out.at (j := 3) (by omega)
                        have zmm := Zm.out
                        clear hus hx b7 Cc LWc Oic Occ Sc
                        go_wp2_with (at_builtin; refine wpList_append_row rfl _ _ _ rfl 50 ii (.agg #[.int .i64 0, .int .i64 0, .int .i64 0]) 3 24 Tryd.underlying44 hii hiz0 hiz1 hiz2 rfl (by omega) M2 aD i6 cD us rfl HUS.out (some ⟨w13.heap.size, 0, none⟩) 1 1 [.int .i64 (z11 : Int), .int .i64 (x12 : Int), .int .i64 (y13 : Int)] rfl rfl NW.out (by simp [Value.oneCell']) (by unfold maxLen; omega) (by omega) (by simp; omega) ?_; intro aD5 cD5 w14 hA; have HA5 : Hid (AppR 50 3 (w13.alloc (.cells #[.int .i64 (z11 : Int), .int .i64 (x12 : Int), .int .i64 (y13 : Int)] 50)) M2 aD i6 cD (us ++ [.int .i64 (z11 : Int), .int .i64 (x12 : Int), .int .i64 (y13 : Int)]) aD5 (i6 + 1) cD5 w14) := hA; have hrow : ∀ b, (Value.slice aD i6 cD).ownBlock = some b → M2 ≤ b := fun b e => (HUS.out.lt b e).1; have C8 : Hid (Lone 46 4 w14 F [.int .i64 (p1 : Int), .int .i64 (p2 : Int), .slice aC i5 cC, .slice aD i6 cD]) := (lone_grown C7.out hA.grow (fun e => by have := hrow _ e; omega)); have p8 := C8.out.at (j := 3) (by omega); have f8 := C8.out.free 3; simp only [List.getElem?_cons_zero, List.getElem?_cons_succ] at p8; clear hA)
                        have hO9 := oli_snoc HLd.out HUS.out HX.out HA5.out
                        have z9 : M2 ≤ w14.heap.size := by have := HA5.out.grow.size; simp at this; omega
                        have S9 : Sq w av cv bs w14 (w.heap.size + 1) s13 := S7.out.app HA5.out.grow (fun b e => by have := hrow b e; omega)
                        have LW9 : Lo2 (w.heap.size + 1) F V0 w14 := LW7.out.app HA5.out.grow (by simp; omega) (fun b e => by have := hrow b e; omega)
                        have Oc9 : OLc w14 (F + 1) aC i5 cC cs := ⟨Oc7.out.1, Oc7.out.2.hold (fun b h1 h2 e => HA5.out.grow.block b h2 (fun e' => by have := hrow b e'.symm; have := SPc.out b e; omega))⟩
                        exact ⟨⟨i6 + 1, cD5, aD5, ds ++ [(⟨(z11 : Int), (x12 : Int), (y13 : Int)⟩ : In)], s13, by omega, by go_num, by show (ds ++ [_]).length = i6 + 1; simp [HLd.out], hO9.hold (set_other (by omega)), Oc9.hold (set_other (by omega)), C8.out.set 3 _, LW9.set (Nat.le_refl _), list_next hl6 HNd.out HGi.out, S9.far (by omega), by show _ ≤ _; simp; omega⟩, by simp [intOf]; omega⟩
                    · obtain rfl : i6 = m6 := by omega
                      have HGP : Hid (Got (s2p.bind (protoD lum flagL)) (⟨(p1 : Int), (p2 : Int), cs, ds⟩ : Pr) s10) := by
                        have e5 := got_then (e := fun (n : Nat) (ys : List Int) => listD (insD lum) n ys) HGm.out (list_end HNd.out)
                        have e5' : Got (s8.bind (manyD lum (insD lum))) ds s10 := e5
                        have e4 := got_then (e := fun (n : Nat) (ys : List Int) => listD (capD lum flagL) n ys) HGc.out (list_end HNc.out)
                        have e4' : Got (s6.bind (manyD lum (capD lum flagL))) cs s8 := e4
                        have e6 := got_then (e := fun (c : List Cp) (ys : List Int) => (manyD lum (insD lum) ys).map fun d : List In × List Int => ((⟨(p1 : Int), (p2 : Int), c, d.1⟩ : Pr), d.2)) e4' (got_map (fun l : List In => (⟨(p1 : Int), (p2 : Int), cs, l⟩ : Pr)) e5')
                        have e7 := got_then (e := fun (b : Nat) (ys : List Int) => (manyD lum (capD lum flagL) ys).bind fun c => (manyD lum (insD lum) c.2).map fun d : List In × List Int => ((⟨(p1 : Int), (b : Int), c.1, d.1⟩ : Pr), d.2)) HG6.out e6
                        have e8 := got_then (e := fun (a : Nat) (ys : List Int) => (lum ys).bind fun b => (manyD lum (capD lum flagL) b.2).bind fun c => (manyD lum (insD lum) c.2).map fun d : List In × List Int => ((⟨(a : Int), (b.1 : Int), c.1, d.1⟩ : Pr), d.2)) HG5.out e7
                        exact e8
                      have hsF : F + 1 ≤ wr.heap.size := by have h1 := Zi.out; have h2 := Zm.out; omega
                      have KV := KP.out.1.hold (fun b h1 h2 => LWi.out b (by have := HF.out; omega) (by omega))
                      have PV := KP.out.2.1.hold (fun b h1 h2 => LWi.out b (by have := HF.out; omega) (by omega))
                      have LV : Lone 26 2 wr w.heap.size [.slice none 0 0, .slice none 0 0] := own_far LM.out.1 (fun b e => by cases e; exact LWi.out _ (by show w.heap.size < F; omega) (by show w.heap.size ≠ w.heap.size + 1; omega))
                      have MV : Lone 26 2 wr (w.heap.size + 1 + 1) [.slice ak k ck, .slice ap j cp] := own_far LM.out.2 (fun b e => by cases e; exact LWi.out _ (by show w.heap.size + 1 + 1 < F; omega) (by show w.heap.size + 1 + 1 ≠ w.heap.size + 1; omega))
                      obtain ⟨us, hus, hx⟩ := PV.row
                      have b7 : Below wr.heap.size wr (wr.alloc (.cells #[.int .i64 (p1 : Int), .int .i64 (p2 : Int), .slice aC i5 cC, .slice aD i6 cD] 46)) := (Below.refl _ _).alloc (Nat.le_refl _) _
                      have HUS : Hid ((wr.alloc (.cells #[.int .i64 (p1 : Int), .int .i64 (p2 : Int), .slice aC i5 cC, .slice aD i6 cD] 46)).ownsRow Bp 46 4 (.slice ap j cp) j us) := th.own_hold hus (fun b h1 h2 _ => b7.block b h2)
                      have HX : Hid (∀ i, i < j → us[i * 4]? = some (.int .i64 (ps.getD i pr0).params) ∧ us[i * 4 + 1]? = some (.int .i64 (ps.getD i pr0).slots) ∧ us[i * 4 + 2]? = some (uc i) ∧ us[i * 4 + 3]? = some (ud i)) := hx
                      have NW : Hid (0 < 1 → ∃ ad, (some ⟨wr.heap.size, 0, none⟩ : Option Addr) = some ad ∧ ∀ ix ux, [.int .i64 (p1 : Int), .int .i64 (p2 : Int), .slice aC i5 cC, .slice aD i6 cD][ix]? = some ux → (wr.alloc (.cells #[.int .i64 (p1 : Int), .int .i64 (p2 : Int), .slice aC i5 cC, .slice aD i6 cD] 46)).cell? (ad.add ix) = some ux) := fun _ => ⟨_, rfl, fun ix ux e => by
                        rw [plainAt, Nat.zero_add]
                        exact cellNew (w := wr) (cs := #[.int .i64 (p1 : Int), .int .i64 (p2 : Int), .slice aC i5 cC, .slice aD i6 cD]) (t := 46) (j := ix) (v := ux) (by simpa using e)⟩
                      have M7 : Hid (Lone 26 2 (wr.alloc (.cells #[.int .i64 (p1 : Int), .int .i64 (p2 : Int), .slice aC i5 cC, .slice aD i6 cD] 46)) (w.heap.size + 1 + 1) [.slice ak k ck, .slice ap j cp]) := MV.below b7 (by omega)
                      have L7 : Hid (Lone 26 2 (wr.alloc (.cells #[.int .i64 (p1 : Int), .int .i64 (p2 : Int), .slice aC i5 cC, .slice aD i6 cD] 46)) w.heap.size [.slice none 0 0, .slice none 0 0]) := LV.below b7 (by omega)
                      have S7 : Hid (Sq w av cv bs (wr.alloc (.cells #[.int .i64 (p1 : Int), .int .i64 (p2 : Int), .slice aC i5 cC, .slice aD i6 cD] 46)) (w.heap.size + 1) s10) := Si.out.keep b7
                      have K7 : Hid (BK (wr.alloc (.cells #[.int .i64 (p1 : Int), .int .i64 (p2 : Int), .slice aC i5 cC, .slice aD i6 cD] 46)) (w.heap.size + 3) (.slice ak k ck) k (fun j => l.getD j cn0) ut) := KV.hold (fun b h1 h2 => b7.block b h2)
                      have P7 : Hid (BP (wr.alloc (.cells #[.int .i64 (p1 : Int), .int .i64 (p2 : Int), .slice aC i5 cC, .slice aD i6 cD] 46)) Bp (.slice ap j cp) j (fun i => ps.getD i pr0) uc ud) := PV.hold (fun b h1 h2 => b7.block b h2)
                      have C7 : Hid (RwC (wr.alloc (.cells #[.int .i64 (p1 : Int), .int .i64 (p2 : Int), .slice aC i5 cC, .slice aD i6 cD] 46)) Bp (.slice aC i5 cC) cs) := (Oc.out.2.weaken (by omega)).hold (fun b h1 h2 _ => b7.block b h2)
                      have I7 : Hid (RwI (wr.alloc (.cells #[.int .i64 (p1 : Int), .int .i64 (p2 : Int), .slice aC i5 cC, .slice aD i6 cD] 46)) Bp (.slice aD i6 cD) ds) := (Oi.out.2.weaken (by have := Zm.out; omega)).hold (fun b h1 h2 _ => b7.block b h2)
                      have q0 : wr.cell? ⟨w.heap.size + 1 + 1, 1, none⟩ = some (.slice ap j cp) := MV.at (j := 1) (by omega)
                      have t0 : wr.cell? ⟨F, 0, none⟩ = some (.int .i64 (p1 : Int)) := Ci.out.at (j := 0) (by omega)
                      have t1 : wr.cell? ⟨F, 1, none⟩ = some (.int .i64 (p2 : Int)) := Ci.out.at (j := 1) (by omega)
                      have t2 : wr.cell? ⟨F, 2, none⟩ = some (.slice aC i5 cC) := Ci.out.at (j := 2) (by omega)
                      have t3 : wr.cell? ⟨F, 3, none⟩ = some (.slice aD i6 cD) := Ci.out.at (j := 3) (by omega)
                      clear hus hx b7 KV PV LV MV
                      go_wp2_with (at_builtin; refine wpList_append_row rfl _ _ _ rfl 46 ip (.agg #[.int .i64 0, .int .i64 0, .slice none 0 0, .slice none 0 0]) 4 64 Tryd.underlying24 hip hpz0 hpz1 hpz2 rfl (by omega) Bp ap j cp us rfl HUS.out (some ⟨wr.heap.size, 0, none⟩) 1 1 [.int .i64 (p1 : Int), .int .i64 (p2 : Int), .slice aC i5 cC, .slice aD i6 cD] rfl rfl NW.out (by simp [Value.oneCell']) (by unfold maxLen; omega) (by omega) (by simp; omega) ?_; intro ap5 cp5 w5 hA; have HA5 : Hid (AppR 46 4 (wr.alloc (.cells #[.int .i64 (p1 : Int), .int .i64 (p2 : Int), .slice aC i5 cC, .slice aD i6 cD] 46)) Bp ap j cp (us ++ [.int .i64 (p1 : Int), .int .i64 (p2 : Int), .slice aC i5 cC, .slice aD i6 cD]) ap5 (j + 1) cp5 w5) := hA; have hrow : ∀ b, (Value.slice ap j cp).ownBlock = some b → Bp ≤ b := fun b e => (HUS.out.lt b e).1; have M8 : Hid (Lone 26 2 w5 (w.heap.size + 1 + 1) [.slice ak k ck, .slice ap j cp]) := (lone_grown M7.out hA.grow (fun e => by have := hrow _ e; omega)); have p8 := M8.out.at (j := 1) (by omega); have f8 := M8.out.free 1; simp only [List.getElem?_cons_zero, List.getElem?_cons_succ] at p8; clear hA)
                      have hO9 := olp_snoc (M := F) (L := M2) HLp.out (by omega) HPK.out P7.out SP.out.1 SP.out.2.1 SP.out.2.2 C7.out I7.out (fun b e => by have := (Oc.out.2.lt b e).1; omega) (fun b e => by have := (Oi.out.2.lt b e).1; have := Zm.out; omega) SPc.out (fun b e => (Oi.out.2.lt b e).1) (by rw [← Oc.out.1]; omega) (by rw [← Oi.out.1]; omega) HUS.out HX.out HA5.out
                      have z9 : Bp ≤ w5.heap.size := by have := HA5.out.grow.size; simp at this; omega
                      have L9 : Lone 26 2 w5 w.heap.size [.slice none 0 0, .slice none 0 0] := lone_grown L7.out HA5.out.grow (fun e => by have := hrow _ e; omega)
                      have S9 : Sq w av cv bs w5 (w.heap.size + 1) s10 := S7.out.app HA5.out.grow (fun b e => by have := hrow b e; omega)
                      have K9 : BK w5 (w.heap.size + 3) (.slice ak k ck) k (fun j => l.getD j cn0) ut := bk_grown K7.out HA5.out.grow (fun b e => by have := hrow b e; exact ⟨fun e' => by have := UKb.out.1 b e'; omega, fun i hi e' => by have := UKb.out.2 i hi b e'; omega⟩)
                      refine ⟨⟨j + 1, cp5, ap5, ps ++ [(⟨(p1 : Int), (p2 : Int), cs, ds⟩ : Pr)], s10, by omega, by omega, by go_num, by show (ps ++ [_]).length = j + 1; simp [HLp.out], OLp.hold hO9 (set_other (by omega)), M8.out.set 1 _, L9.other (by omega), K9.hold (set_other (by omega)), list_next hlt2 HNp.out HGP.out, ?_, S9.far (by omega), by show _ ≤ _; simp; omega⟩, by simp [intOf]; omega⟩
                      exact fun ys e => by
                        have h := HGP.out
                        rw [e] at h
                        exact got_less (fun h => by have := protoD_len lum_len flagL_len h; omega) HZp.out h
          · obtain rfl : j = n2 := by omega
            cases s2p with
            | none =>
              have HPN : Hid (progL bs = none) := (progL_got HK.out (got_then (e := fun (n : Nat) (ys : List Int) => listD (protoD lum flagL) n ys) HG3.out (list_end HNp.out))).1 rfl
              have L3 : Hid (Lone 26 2 wr w.heap.size [.slice none 0 0, .slice none 0 0]) := Lp.out
              have S3 : Hid (Sq w av cv bs wr (w.heap.size + 1) none) := Sp.out
              obtain rfl : bd4 = true := hbd4.2 rfl
              go_wp2_with fail
              go_quiet (fail)
              have Lq := drew_lone L3.out nq
              have r0 := Lq.at (j := 0) (by omega)
              have r1 := Lq.at (j := 1) (by omega)
              have u0 := Lq.free 0
              have u1 := Lq.free 1
              simp only [List.getElem?_cons_zero, List.getElem?_cons_succ] at r0 r1
              have BD : Hid (Lone 26 2 (((wr.drewN nq).setCell ⟨w.heap.size, 0, none⟩ (.slice none 0 0)).setCell ⟨w.heap.size, 1, none⟩ (.slice none 0 0)) w.heap.size [.slice none 0 0, .slice none 0 0] ∧ Below w.heap.size w (((wr.drewN nq).setCell ⟨w.heap.size, 0, none⟩ (.slice none 0 0)).setCell ⟨w.heap.size, 1, none⟩ (.slice none 0 0))) := ⟨(Lq.set 0 _).set 1 _, ((bel_drewN S3.out.1 nq).setCell (p := ⟨w.heap.size, 0, none⟩) (Nat.le_refl _) _).setCell (p := ⟨w.heap.size, 1, none⟩) (Nat.le_refl _) _⟩
              have FN : Hid (∀ W, W = (((wr.drewN nq).setCell ⟨w.heap.size, 0, none⟩ (.slice none 0 0)).setCell ⟨w.heap.size, 1, none⟩ (.slice none 0 0)) → PL w q c (.returned (.tuple #[.agg #[.slice none 0 0, .slice none 0 0], .int .i64 1])) W) := fun W e => by
                obtain ⟨rfl, rfl⟩ : q = ⟨[], []⟩ ∧ c = 1 := by
                  rcases HA.out with ⟨h, _⟩ | ⟨_, h⟩
                  · exact absurd (lo_some HBS.out.2.1 HBS.out.2.2 h).1 (by rw [HPN.out]; simp)
                  · exact h
                rw [e]
                exact ⟨none, none, 0, 0, 0, 0, rfl, prg_nil BD.out.2.size, BD.out.2⟩
              clear Lq
              generalize wr.drewN nq = Wq at r0 r1 u0 u1 BD FN ⊢
              go_wp2
              refine bodyPost_ret (res2 Tryd.results4 _ _ w.heap.size 26 _ _ _ rfl (Lone.back BD.out.1) Tryd.underlying26 rfl rfl) rfl ?_
              exact FN.out _ rfl
            | some us2 =>
              obtain rfl : bd4 = false := by
                cases bd4 with
                | false => rfl
                | true => exact absurd (hbd4.1 rfl) (by simp)
              have HPS : Hid (progL bs = some ⟨l, ps⟩) := (progL_got HK.out (got_then (e := fun (n : Nat) (ys : List Int) => listD (protoD lum flagL) n ys) HG3.out (list_end HNp.out))).2 (by simp)
              have hsz : sizePg ⟨l, ps⟩ ≤ 1048576 := by have := (progL_size HPS.out).1; have := HBS.out.2.2; omega
              obtain ⟨bS, hbS⟩ : ∃ b : Bool, b = true ↔ Sound ⟨l, ps⟩ := by
                by_cases h : Sound ⟨l, ps⟩
                · exact ⟨true, ⟨fun _ => h, fun _ => rfl⟩⟩
                · exact ⟨false, ⟨fun e => (by cases e), fun h' => absurd h' h⟩⟩
              obtain ⟨hpn, hpk, uc, ud, hbp⟩ := HOp.out
              have PA : Hid (PrgAt (w.alloc (.cells #[.slice none 0 0, .slice none 0 0] 26)) wr ak ap k ck j cp l ps) := ⟨Bp, ut, uc, ud, BK.weaken Kp.out (by simp), ⟨UKb.out.1, UKb.out.2⟩, hbp, by simp; omega, Zp.out, HOK.out.2, hpn, HOK.out.1, hpk⟩
              have RK := PA.out.rd
              have CK : Hid (∀ W, Below wr.heap.size wr W → Calls Tryd.prog 14 #[.agg #[.slice ak k ck, .slice ap j cp]] W fun e w' => e = .returned (.bool bS) ∧ Below wr.heap.size wr w') := fun W hW => (specCheck_any ⟨l, ps⟩ _ _ W (RK.1.below hW) (RK.2.below hW) hsz bS hbS).mono (by
                rintro e w' ⟨rfl, b⟩
                exact ⟨rfl, hW.trans (b.mono hW.size)⟩)
              have HCV : Hid (∀ W, Below wr.heap.size wr W → W.cell? ⟨w.heap.size + 1, 2, none⟩ = some (.bool false) ∧ W.cell? ⟨w.heap.size + 1 + 1, 0, none⟩ = some (.slice ak k ck) ∧ W.cell? ⟨w.heap.size + 1 + 1, 1, none⟩ = some (.slice ap j cp)) := fun W h => ⟨cellB cb4 h, cellB (Mp.out.at (j := 0) (by omega)) h, cellB (Mp.out.at (j := 1) (by omega)) h⟩
              have LW : Hid (∀ W, Below wr.heap.size wr W → Lone 26 2 W w.heap.size [.slice none 0 0, .slice none 0 0] ∧ Below w.heap.size w W) := fun W h => ⟨Lp.out.below h (heap_lt Lp.out.back), Sp.out.1.trans (h.mono Sp.out.1.size)⟩
              clear hpn hpk hbp
              obtain ⟨N7, HN7⟩ : ∃ N7, Hid (N7 = (save ⟨l, ps⟩).length) := ⟨_, rfl⟩
              obtain ⟨TA, hTA⟩ : ∃ TA, TA = strOfNums (save ⟨l, ps⟩) := ⟨_, rfl⟩
              obtain ⟨TB, hTB⟩ : ∃ TB, TB = strOfNums bs := ⟨_, rfl⟩
              have LS : Hid (bS = true → ∀ W, Below wr.heap.size wr W → Calls Tryd.prog 15 #[.agg #[.slice ak k ck, .slice ap j cp]] W fun e w' => ∃ aS cS, e = .returned (.slice aS N7 cS) ∧ (∀ d, (convert 22 9 (.slice aS N7 cS)).run Tryd.prog (w'.drewN d) = .ok (.string TA) (w'.drewN d)) ∧ (convert 22 9 (.slice aS N7 cS)).run Tryd.prog w' = .ok (.string TA) w' ∧ Below wr.heap.size wr w') := by
                intro hb W hW
                refine (l5save_any ⟨l, ps⟩ _ _ W (RK.1.below hW) (RK.2.below hW) hsz (sound_small (hbS.1 hb) hsz)).mono ?_
                rintro e w' ⟨aS, cS, rfl, hO, hB⟩
                have hrd := rd_own hO
                refine ⟨aS, cS, by rw [HN7.out], fun d => ?_, ?_, hW.trans (hB.mono hW.size)⟩
                · rw [HN7.out, hTA]
                  exact conv_rd _ _ _ _ _ rfl (hrd.below (bel_drewN (Below.refl _ _) d)) (save_pos _)
                · rw [HN7.out, hTA]
                  exact conv_rd _ _ _ _ _ rfl hrd (save_pos _)
              have CVB : Hid (∀ W, Below wr.heap.size wr W → (convert 22 9 (.slice av n0 cv)).run Tryd.prog W = .ok (.string TB) W) := by
                intro W hW
                rw [hTB]
                exact conv_rd _ _ _ _ _ HN0.out (HBS.out.1.below (Sp.out.1.trans (hW.mono Sp.out.1.size))) (progL_pos HPS.out)
              obtain ⟨y0, y1, y2⟩ := HCV.out wr (Below.refl _ _)
              go_upto_region 46 with fail
              rename_i _ _ _ _ a3 _ _ _ a2 _ _ _ _
              clear a3 a2
              go_cut [195] from 179 to 194 (fun s wx => ∃ bb : Bool, s = .bool bb ∧ Hid ((bb = true → q = ⟨[], []⟩ ∧ c = 1) ∧ (bb = false → q = ⟨l, ps⟩ ∧ c = 0)) ∧ Hid (Below wr.heap.size wr wx))
              case first =>
                cases bS with
                | false =>
                  have HR : Hid (∀ W, Below wr.heap.size wr W → ∃ bb : Bool, Value.bool true = .bool bb ∧ Hid ((bb = true → q = ⟨[], []⟩ ∧ c = 1) ∧ (bb = false → q = ⟨l, ps⟩ ∧ c = 0)) ∧ Hid (Below wr.heap.size wr W)) := fun W h => ⟨true, rfl, ⟨fun _ => by
                    rcases HA.out with ⟨h, _⟩ | ⟨_, h⟩
                    · obtain ⟨h1, h2, _⟩ := lo_some HBS.out.2.1 HBS.out.2.2 h
                      rw [HPS.out] at h1
                      cases h1
                      have := hbS.2 h2
                      cases this
                    · exact h, fun e => (by cases e)⟩, h⟩
                  clear hTA hTB hbS hsz RK HN7 LS CVB
                  first
                    | (go_region_with (first | (go_at_call 14; refine (CK.out _ ?_).mono ?_; (repeat (first | assumption | exact Below.refl _ _ | refine Below.drew ?_ | refine bel_drewN ?_ _)); rintro e w6 ⟨rfl, b6⟩)))
                    | fail
                  all_goals
                    go_wp2_with fail
                    go_meet
                    exact HR.out _ b6
                | true =>
                  by_cases heq : save ⟨l, ps⟩ = bs
                  · have HR : Hid (∀ W, Below wr.heap.size wr W → ∃ bb : Bool, Value.bool false = .bool bb ∧ Hid ((bb = true → q = ⟨[], []⟩ ∧ c = 1) ∧ (bb = false → q = ⟨l, ps⟩ ∧ c = 0)) ∧ Hid (Below wr.heap.size wr W)) := fun W h => ⟨false, rfl, ⟨fun e => (by cases e), fun _ => by
                      rcases HA.out with ⟨h, hc⟩ | ⟨h, _⟩
                      · obtain ⟨h1, _⟩ := lo_some HBS.out.2.1 HBS.out.2.2 h
                        rw [HPS.out] at h1
                        cases h1
                        exact ⟨rfl, hc⟩
                      · exact absurd heq (lo_none HBS.out.2.2 h HPS.out (hbS.1 rfl))⟩, h⟩
                    obtain rfl : TA = TB := by rw [hTA, hTB, heq]
                    clear hTA hTB heq hbS hsz RK HN7
                    first
                      | (go_region_with (first | (go_at_call 14; refine (CK.out _ ?_).mono ?_; (repeat (first | assumption | exact Below.refl _ _ | refine Below.drew ?_ | refine bel_drewN ?_ _)); rintro e w6 ⟨rfl, b6⟩; obtain ⟨y0', y1', y2'⟩ := HCV.out w6 b6; have hcb6 := CVB.out w6 b6) | (go_at_call 15; refine (LS.out (by trivial) _ ?_).mono ?_; (repeat (first | assumption | exact Below.refl _ _ | refine Below.drew ?_ | refine bel_drewN ?_ _)); rintro e w7 ⟨as7, cs7, rfl, hcv7, hcv7', b7⟩; have hcb7 := CVB.out w7 b7)))
                      | fail
                    all_goals
                      go_wp2_with fail
                      go_meet
                      exact HR.out _ (by first | assumption | exact Below.drew (by assumption) | exact bel_drewN (by assumption) _)
                  · have hne : (TA.toList == TB.toList) = false := by
                      refine beq_eq_false_iff_ne.2 fun e => heq (str_inj (save_bb (sound_small (hbS.1 rfl) hsz) HOK.out.1 hsz) HBS.out.2.1 ?_)
                      rw [hTA, hTB, str_list, str_list] at e
                      unfold strOfNums
                      rw [e]
                    have HR : Hid (∀ W, Below wr.heap.size wr W → ∃ bb : Bool, (Value.bool !TA.toList == TB.toList) = .bool bb ∧ Hid ((bb = true → q = ⟨[], []⟩ ∧ c = 1) ∧ (bb = false → q = ⟨l, ps⟩ ∧ c = 0)) ∧ Hid (Below wr.heap.size wr W)) := fun W h => ⟨true, by rw [hne]; rfl, ⟨fun _ => by
                      rcases HA.out with ⟨h, _⟩ | ⟨_, h⟩
                      · obtain ⟨h1, _, h3, _⟩ := lo_some HBS.out.2.1 HBS.out.2.2 h
                        rw [HPS.out] at h1
                        cases h1
                        exact absurd h3 heq
                      · exact h, fun e => (by cases e)⟩, h⟩
                    clear hTA hTB heq hbS hsz RK HN7 hne
                    first
                      | (go_region_with (first | (go_at_call 14; refine (CK.out _ ?_).mono ?_; (repeat (first | assumption | exact Below.refl _ _ | refine Below.drew ?_ | refine bel_drewN ?_ _)); rintro e w6 ⟨rfl, b6⟩; obtain ⟨y0', y1', y2'⟩ := HCV.out w6 b6; have hcb6 := CVB.out w6 b6) | (go_at_call 15; refine (LS.out (by trivial) _ ?_).mono ?_; (repeat (first | assumption | exact Below.refl _ _ | refine Below.drew ?_ | refine bel_drewN ?_ _)); rintro e w7 ⟨as7, cs7, rfl, hcv7, hcv7', b7⟩; have hcb7 := CVB.out w7 b7)))
                      | fail
                    all_goals
                      go_wp2_with fail
                      go_meet
                      exact HR.out _ (by first | assumption | exact Below.drew (by assumption) | exact bel_drewN (by assumption) _)
              case rest =>
                obtain ⟨bb, rfl, HBB, BW⟩ := hcut
                clear hTA hTB hbS hsz RK HN7 LS CVB CK y0 y1 y2
                obtain ⟨Lq, Bq⟩ := LW.out wc BW.out
                obtain ⟨y0, y1, y2⟩ := HCV.out wc BW.out
                have r0 := Lq.at (j := 0) (by omega)
                have r1 := Lq.at (j := 1) (by omega)
                have u0 := Lq.free 0
                have u1 := Lq.free 1
                simp only [List.getElem?_cons_zero, List.getElem?_cons_succ] at r0 r1
                cases bb with
                | true =>
                  have BD : Hid (Lone 26 2 ((wc.setCell ⟨w.heap.size, 0, none⟩ (.slice none 0 0)).setCell ⟨w.heap.size, 1, none⟩ (.slice none 0 0)) w.heap.size [.slice none 0 0, .slice none 0 0] ∧ Below w.heap.size w ((wc.setCell ⟨w.heap.size, 0, none⟩ (.slice none 0 0)).setCell ⟨w.heap.size, 1, none⟩ (.slice none 0 0))) := ⟨(Lq.set 0 _).set 1 _, (Bq.setCell (p := ⟨w.heap.size, 0, none⟩) (Nat.le_refl _) _).setCell (p := ⟨w.heap.size, 1, none⟩) (Nat.le_refl _) _⟩
                  have FN : Hid (∀ W, W = ((wc.setCell ⟨w.heap.size, 0, none⟩ (.slice none 0 0)).setCell ⟨w.heap.size, 1, none⟩ (.slice none 0 0)) → PL w q c (.returned (.tuple #[.agg #[.slice none 0 0, .slice none 0 0], .int .i64 1])) W) := fun W e => by
                    obtain ⟨rfl, rfl⟩ := HBB.out.1 rfl
                    rw [e]
                    exact ⟨none, none, 0, 0, 0, 0, rfl, prg_nil BD.out.2.size, BD.out.2⟩
                  clear Lq Bq
                  go_wp2
                  refine bodyPost_ret (res2 Tryd.results4 _ _ w.heap.size 26 _ _ _ rfl (Lone.back BD.out.1) Tryd.underlying26 rfl rfl) rfl ?_
                  exact FN.out _ rfl
                | false =>
                  have BD : Hid (Lone 26 2 ((wc.setCell ⟨w.heap.size, 0, none⟩ (.slice ak k ck)).setCell ⟨w.heap.size, 1, none⟩ (.slice ap j cp)) w.heap.size [.slice ak k ck, .slice ap j cp] ∧ Below w.heap.size w ((wc.setCell ⟨w.heap.size, 0, none⟩ (.slice ak k ck)).setCell ⟨w.heap.size, 1, none⟩ (.slice ap j cp))) := ⟨(Lq.set 0 _).set 1 _, (Bq.setCell (p := ⟨w.heap.size, 0, none⟩) (Nat.le_refl _) _).setCell (p := ⟨w.heap.size, 1, none⟩) (Nat.le_refl _) _⟩
                  have FN : Hid (∀ W, W = ((wc.setCell ⟨w.heap.size, 0, none⟩ (.slice ak k ck)).setCell ⟨w.heap.size, 1, none⟩ (.slice ap j cp)) → PL w q c (.returned (.tuple #[.agg #[.slice ak k ck, .slice ap j cp], .int .i64 0])) W) := fun W e => by
                    obtain ⟨rfl, rfl⟩ := HBB.out.2 rfl
                    rw [e]
                    have hz : (w.alloc (.cells #[.slice none 0 0, .slice none 0 0] 26)).heap.size = w.heap.size + 1 := by simp
                    have P3 := PA.out.hold BW.out.size (fun b _ h => BW.out.block b h)
                    refine ⟨ak, ap, k, ck, j, cp, rfl, (P3.hold (by simp) (fun b h1 _ => ?_)).weaken (by omega), BD.out.2⟩
                    rw [Below.heap_setCell _ ⟨w.heap.size, 1, none⟩ _ b (by show b ≠ w.heap.size; omega), Below.heap_setCell _ ⟨w.heap.size, 0, none⟩ _ b (by show b ≠ w.heap.size; omega)]
                  clear Lq Bq
                  go_wp2
                  refine bodyPost_ret (res2 Tryd.results4 _ _ w.heap.size 26 _ _ _ rfl (Lone.back BD.out.1) Tryd.underlying26 rfl rfl) rfl ?_
                  exact FN.out _ rfl
end Go.Proofs.YteagakplhfiodaaDoor.ld
