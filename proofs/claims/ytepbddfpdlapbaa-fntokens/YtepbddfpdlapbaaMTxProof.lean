import Derived.Test.YtepbddfpdlapbaaRows
import Derived.WalkKit
import Derived.ProofKit
import Derived.OpenShut
import Derived.ShutString
import Derived.ChangeOld
import Derived.Below
import Derived.Test.YtepbddfpdlapbaaMLexToks
import Derived.Test.YtepbddfpdlapbaaMTxAt
namespace Go.Proofs.Ytepbddfpdlapbaa.lex
open Go.RowKit Go.Proofs.Ytepbddfpdlapbaa.bts Go.Proofs.Ytepbddfpdlapbaa.scn Go.Proofs.Ytepbddfpdlapbaa.lit Go.Proofs.Ytepbddfpdlapbaa.tk
set_option maxRecDepth 100000 in
set_option maxHeartbeats 8000000 in
theorem core (ao : Option Addr) (cap : Nat) (zs : List Int) (w : World) (hr : Rd w ao zs) (hb : Bts zs) (hcap : zs.length ≤ cap) (hcm : cap ≤ 9223372036854775807) :
    Calls Try.prog 3 #[.slice ao zs.length cap] w fun e w' => e = .returned (.bool true) ∧ Below w.heap.size w w' := by
  obtain ⟨i0, hi0, hz0, hz1, hz2⟩ := info_parts info_byte
  obtain ⟨nz, hnz⟩ : ∃ n, n = zs.length := ⟨_, rfl⟩
  by_cases hn : 1048576 < nz
  · rw [← hnz]
    clear hnz
    go_enter Try.func3, Try.ntmps3
    go_wp2_with fail
    go_ret
    exact ⟨rfl, Below.refl _ _⟩
  · have hn' : nz ≤ 1048576 := by omega
    clear hn
    obtain ⟨ys, hyl, hyb, HD⟩ := drawLex_any hb
    have DL : Hid (∀ W, Below w.heap.size w W → Calls Try.prog 4 #[.slice ao nz cap] W fun e w' => ∃ av c, e = .returned (.slice av ys.length c) ∧ OwB w' W.heap.size (.slice av ys.length c) ys ∧ ys.length ≤ c ∧ c ≤ maxLen ∧ Below W.heap.size W w') := fun W hW => by
      have := HD W ao cap (hr.below hW) hcap hcm
      rw [← hnz] at this
      refine this.mono ?_
      rintro e w' ⟨v, rfl, hO, hB⟩
      obtain ⟨av, c, rfl, h1, h2, _⟩ := hO.rd
      exact ⟨av, c, rfl, hO, h1, h2, hB⟩
    obtain ⟨T, hT⟩ : ∃ T, T = (lexR ys).1 := ⟨_, rfl⟩
    obtain ⟨ec, hec⟩ : ∃ x, x = (lexR ys).2.1 := ⟨_, rfl⟩
    obtain ⟨pl, hpl⟩ : ∃ x, x = (lexR ys).2.2 := ⟨_, rfl⟩
    have HT : Hid (Toks ys 0 T) := by rw [hT]; exact lexR_toks hyb
    have HTL := HT.out.len (Nat.zero_le _)
    obtain ⟨N, hN⟩ : ∃ N, N = T.length := ⟨_, rfl⟩
    obtain ⟨ny, hny⟩ : ∃ n, n = ys.length := ⟨_, rfl⟩
    have SL : Hid (∀ W B v, OwB W B v ys → Calls Try.prog 5 #[v] W fun e w' => ∃ av c, e = .returned (.tuple #[.slice av N c, .int .i64 ec, .int .i64 pl]) ∧ Below W.heap.size W w') := fun W B v h => by
      refine (specLex_owb h hyb).mono ?_
      rintro e w' ⟨hB, av, c, rfl, hO⟩
      rw [← hT, ← hec, ← hpl, ← hN]
      exact ⟨av, c, rfl, hB⟩
    have IL : Hid (∀ W B v, OwB W B v ys → Calls Try.prog 6 #[v] W fun e w' => ∃ av c, e = .returned (.tuple #[.slice av N c, .int .i64 ec, .int .i64 pl]) ∧ RdT w' av T ∧ Below W.heap.size W w') := fun W B v h => by
      refine (implLex_owb h hyb).mono ?_
      rintro e w' ⟨hB, av, c, rfl, hO⟩
      rw [← hT] at hO
      rw [← hT, ← hec, ← hpl, ← hN]
      exact ⟨av, c, rfl, RdT.own hO rfl, hB⟩
    rw [← hny] at DL hyl HTL
    rw [← hN] at HTL
    obtain ⟨hTL1, hTL2⟩ := HTL
    have HN : Hid (N = T.length) := hN
    have HNY : Hid (ny = ys.length) := hny
    have HY : Hid (Bts ys) := hyb
    have HR : Hid (Rd w ao zs) := hr
    rw [← hnz]
    clear hnz hT hec hpl hN hny HD hr hb hcap hyb
    go_enter Try.func3, Try.ntmps3
    go_wp2_with (first
      | (go_at_call 6; refine Calls.mono (IL.out _ _ _ O3.out) ?_; rintro e w4 ⟨aI, cI, rfl, hI, hB4⟩; have RI : Hid (RdT w4 aI T) := hI; have B4 : Hid (Below w1.heap.size w1 w4) := B3.out.trans (hB4.mono B3.out.size); clear hI hB4)
      | (go_at_call 4; refine Calls.mono (DL.out _ (vt.bup B1.out B2.out)) ?_; rintro e w3 ⟨av3, c3, rfl, hO3, hc3, hm3, hB3⟩; have O3 : Hid (OwB w3 w2.heap.size (.slice av3 ny c3) ys) := hO3; have B3 : Hid (Below w1.heap.size w1 w3) := vt.bup B2.out hB3; clear hO3 hc3 hm3 hB3)
      | (go_at_call 5; refine Calls.mono (SL.out _ _ _ O1.out) ?_; rintro e w2 ⟨aS, cS, rfl, hB2⟩; have B2 : Hid (Below w1.heap.size w1 w2) := hB2; clear hB2)
      | (go_at_call 4; refine Calls.mono (DL.out _ (Below.refl _ _)) ?_; rintro e w1 ⟨av1, c1, rfl, hO1, hc1, hm1, hB1⟩; have O1 : Hid (OwB w1 w.heap.size (.slice av1 ny c1) ys) := hO1; have B1 : Hid (Below w.heap.size w w1) := hB1; clear hO1 hB1))
    have RY : Hid (∀ W, Below w1.heap.size w1 W → Rd W av1 ys) := fun W hW => by
      obtain ⟨a9, c9, e9, _, _, h9, _⟩ := O1.out.rd
      simp only [Value.slice.injEq] at e9
      obtain ⟨rfl, _, _⟩ := e9
      exact h9.below hW
    have S1 : Hid (w1.heap.size ≤ w4.heap.size) := B4.out.size
    unfold maxLen at hm1
    have JB : Hid (∀ k, (joinT ys (T.take k)).length ≤ 2 * ny) := fun k => by
      have e : joinT ys T = joinT ys (T.take k) ++ joinT ys (T.drop k) := by rw [← joinT_app, List.take_append_drop]
      rw [e, List.length_append] at hTL2
      omega
    go_loopw [10, 11, 12] (fun p q i wr => ∃ (k cp : Nat) (aj : Option Addr), k ≤ N ∧ p = .slice aj (joinT ys (T.take k)).length cp ∧ q = .int .i64 (endT 0 (T.take k) : Int) ∧ i = .int .i64 (k : Int) ∧ Hid (wr.ownsRow w4.heap.size 5 1 (.slice aj (joinT ys (T.take k)).length cp) (joinT ys (T.take k)).length (bcells (joinT ys (T.take k)))) ∧ Hid (Below w4.heap.size w4 wr)) (fun _ _ i _ => N - (intOf i).toNat)
    case atStart => exact ⟨0, 0, none, Nat.zero_le _, rfl, rfl, rfl, World.ownsRow_nil _ _ _ _, Below.refl _ _⟩
    case round =>
      obtain ⟨k, cp, aj, hk, rfl, rfl, rfl, HO, HB⟩ := hrel
      by_cases hlt : k < N
      · have HK : Hid (k < T.length) := by rw [← HN.out]; exact hlt
        have hAt := HT.out.at k HK.out
        have hTk := RI.out.below HB.out k HK.out
        obtain ⟨l, hll⟩ : ∃ l, l = joinT ys (T.take k) := ⟨_, rfl⟩
        obtain ⟨en, hen⟩ : ∃ e, e = endT 0 (T.take k) := ⟨_, rfl⟩
        have HJ : Hid (joinT ys (T.take (k + 1)) = l ++ part ys (T.getD k (0, 0, 0)).2.1 (T.getD k (0, 0, 0)).2.2 ++ [10]) := by show _ = _; rw [take_snoc HK.out, joinT_snoc, hll]
        have HE : Hid (endT 0 (T.take (k + 1)) = (T.getD k (0, 0, 0)).2.1 + (T.getD k (0, 0, 0)).2.2) := by show _ = _; rw [take_snoc HK.out, endT_snoc]
        have hlb := JB.out k
        rw [← hll] at HO hlb ⊢
        rw [← hen] at hAt ⊢
        clear hll hen
        obtain ⟨⟨kd, a, m⟩, ht⟩ : ∃ t, t = T.getD k (0, 0, 0) := ⟨_, rfl⟩
        rw [← ht] at hAt hTk HJ HE
        simp only at hAt hTk HJ HE
        clear ht
        rw [← HNY.out] at hAt
        obtain ⟨hA1, hA2, hA3⟩ := hAt
        obtain ⟨gI, rfl, t0, t1, t2⟩ := hTk
        obtain ⟨g1, rfl, hg1⟩ : ∃ g, av1 = some ⟨g, 0, none⟩ ∧ g < w1.heap.size := by
          obtain ⟨a9, c9, e9, _, _, _, ⟨_, h9⟩ | ⟨g, h9, _, h8⟩⟩ := O1.out.rd
          · rw [h9] at HNY
            have := HNY.out
            simp at this
            omega
          · simp only [Value.slice.injEq] at e9
            exact ⟨g, e9.1.trans h9, h8⟩
        have n1 : ¬ ((a : Int) < (en : Int)) := by omega
        have n2 : ¬ ((m : Int) < 1) := by omega
        have n3 : ¬ ((ny : Int) < (a : Int) + (m : Int)) := by omega
        have d1 : decide ((a : Int) < (en : Int)) = false := decide_eq_false n1
        have d2 : decide ((m : Int) < 1) = false := decide_eq_false n2
        have d3 : decide ((ny : Int) < (a : Int) + (m : Int)) = false := decide_eq_false n3
        have i1 : (k : Int) < (N : Int) := by omega
        have i2 : (a : Int) ≤ (a : Int) + (m : Int) := by omega
        have i3 : (a : Int) + (m : Int) ≤ (c1 : Int) := by omega
        have i4 : ¬ c1 = a := by omega
        have hpl : (part ys a m).length = m := part_len (by rw [← HNY.out]; exact hA3)
        have HP : Hid (∀ W, Below w4.heap.size w4 W → Rd W (some ⟨g1, a, none⟩) (part ys a m)) := fun W hW => rd_take (rd_drop0 (RY.out W (B4.out.trans (hW.mono S1.out))) a) m
        go_wp2_with (first
          | (at_builtin; refine wpList_append_row rfl _ _ 22 rfl 5 i0 (.int .u8 0) 1 1 Try.underlying22 hi0 hz0 hz1 hz2 rfl (by omega) w4.heap.size a6 (l.length + m) c6 _ rfl (own_far O6.out (fun b e => heap_alloc_old _ _ (O6.out.lt b e).2)) (some ⟨w6.heap.size, 0, none⟩) 1 1 [.int .u8 10] rfl rfl sub_lt (by simp [Value.oneCell']) (by unfold maxLen; omega) (by omega) (by have := B6.out.size; simp; omega) ?_; intro a7 c7 w7 hA; have O7 : Hid (w7.ownsRow w4.heap.size 5 1 (.slice a7 (l.length + m + 1) c7) (l.length + m + 1) (bcells (l ++ part ys a m ++ [10]))) := (by rw [bcells_app]; exact hA.own); have B7 : Hid (Below w4.heap.size w4 w7) := (B6.out.alloc B6.out.size _).grown hA.grow (by have := B6.out.size; simp; omega) (fun q hq => (O6.out.lt q hq).1); clear hA)
          | (at_builtin; refine wpList_append_row rfl _ _ 22 rfl 5 i0 (.int .u8 0) 1 1 Try.underlying22 hi0 hz0 hz1 hz2 rfl (by omega) w4.heap.size aj l.length cp _ rfl (own_far HO.out (fun b e => heap_alloc_old _ _ (HO.out.lt b e).2)) _ _ _ (bcells (part ys a m)) rfl (by rw [bcells_length, hpl]; omega) (fun h => rd_news (HP.out _ (HB.out.alloc HB.out.size _)) (by omega) h) (bcells_one _) (by unfold maxLen; omega) (by omega) (by have := HB.out.size; simp; omega) ?_; intro a6 c6 w6 hA; have hO6 := hA.own; have eq6 : l.length + (a + m - a) = l.length + m := (by omega); (try rw [eq6] at hO6); (try rw [eq6]); have O6 : Hid (w6.ownsRow w4.heap.size 5 1 (.slice a6 (l.length + m) c6) (l.length + m) (bcells (l ++ part ys a m))) := (by rw [bcells_app]; exact hO6); have B6 : Hid (Below w4.heap.size w4 w6) := (HB.out.alloc HB.out.size _).grown hA.grow (by have := HB.out.size; simp; omega) (fun q hq => (HO.out.lt q hq).1); clear hA hO6 eq6))
        have e3 : (l ++ part ys a m ++ [10]).length = l.length + m + 1 := by rw [List.length_append, List.length_append, hpl]; rfl
        go_roundw
        case rel => exact ⟨k + 1, c7, a7, by omega, by rw [HJ.out, e3], by rw [HE.out]; go_num, by go_num, by rw [HJ.out, e3]; exact O7.out, B7.out⟩
        case measure => simp [intOf]; omega
      · obtain rfl : k = N := by omega
        have eT : T.take k = T := by rw [HN.out]; exact List.take_length
        rw [eT] at HO ⊢
        obtain ⟨jn, hjn⟩ : ∃ l, l = joinT ys T := ⟨_, rfl⟩
        have HJN : Hid (jn = joinT ys T) := hjn
        have hjb : jn.length ≤ 2 * ny := by rw [hjn]; omega
        rw [← hjn] at HO ⊢
        clear hjn eT
        have BW : Hid (Below w.heap.size w wr) := vt.bup B1.out (B4.out.trans (HB.out.mono S1.out))
        by_cases hbig : 6000 < jn.length
        · have i6 : (6000 : Int) < (jn.length : Int) := by omega
          go_wp2
          go_returns
          exact ⟨rfl, BW.out⟩
        · have i6 : ¬ ((6000 : Int) < (jn.length : Int)) := by omega
          have i7 : decide ((6000 : Int) < (jn.length : Int)) = false := decide_eq_false i6
          have HLX : Hid (lexR jn = (placed 0 T, 0, 0)) := by show _ = _; rw [HJN.out]; exact lexR_join HY.out HT.out (by rw [← HJN.out]; omega)
          have HYJ : Hid (Bts jn) := by rw [HJN.out]; exact joinT_bts HY.out T
          have IL2 : Hid (∀ W B v, OwB W B v jn → Calls Try.prog 6 #[v] W fun e w' => ∃ av c, e = .returned (.tuple #[.slice av k c, .int .i64 0, .int .i64 0]) ∧ RdT w' av (placed 0 T) ∧ Below W.heap.size W w') := fun W B v h => by
            refine (implLex_owb h HYJ.out).mono ?_
            rintro e w' ⟨hB, av, c, rfl, hO⟩
            rw [HLX.out] at hO ⊢
            simp only at hO ⊢
            rw [placed_length, ← HN.out] at hO ⊢
            exact ⟨av, c, rfl, RdT.own hO (by rw [placed_length, HN.out]), hB⟩
          have O0 : Hid ((wr.alloc (.cells #[] 5)).ownsRow wr.heap.size 5 1 (.slice (some ⟨wr.heap.size, 0, none⟩) 0 0) 0 []) := ⟨rfl, .inr ⟨wr.heap.size, 0, #[], rfl, Nat.le_refl _, heap_alloc_new _ _, Nat.le_refl _, by unfold maxLen; omega, rfl, rfl⟩⟩
          have RJ : Hid (∀ W, Below wr.heap.size wr W → Rd W aj jn) := fun W hW => by
            obtain ⟨a9, c9, e9, _, _, h9, _⟩ := (OwB.own HO.out rfl).rd
            simp only [Value.slice.injEq] at e9
            obtain ⟨rfl, _, _⟩ := e9
            exact h9.below hW
          go_wp2_with (first
            | (go_at_call 6; refine Calls.mono (IL2.out _ _ _ (OwB.own O5.out rfl)) ?_; rintro e w6 ⟨a6, c6, rfl, hR6, hB6⟩; have R6 : Hid (RdT w6 a6 (placed 0 T)) := hR6; have B6 : Hid (Below wr.heap.size wr w6) := B5.out.trans (hB6.mono B5.out.size); clear hR6 hB6)
            | (at_builtin; refine wpList_append_row rfl _ _ 22 rfl 5 i0 (.int .u8 0) 1 1 Try.underlying22 hi0 hz0 hz1 hz2 rfl (by omega) wr.heap.size (some ⟨wr.heap.size, 0, none⟩) 0 0 [] rfl O0.out aj jn.length cp (bcells jn) rfl (by rw [bcells_length]; omega) (fun h => rd_news (RJ.out _ ((Below.refl _ _).alloc (Nat.le_refl _) _)) rfl h) (bcells_one _) (by unfold maxLen; omega) (by omega) (by simp) ?_; intro a5 c5 w5 hA; have hO5 := hA.own; rw [Nat.zero_add, List.nil_append] at hO5; (try rw [Nat.zero_add]); have O5 : Hid (w5.ownsRow wr.heap.size 5 1 (.slice a5 jn.length c5) jn.length (bcells jn)) := hO5; have B5 : Hid (Below wr.heap.size wr w5) := ((Below.refl _ _).alloc (Nat.le_refl _) _).grown hA.grow (by simp) (fun q hq => by simp only [Value.ownBlock, Option.some.injEq] at hq; omega); clear hA hO5))
          have B46 : Hid (Below w4.heap.size w4 w6) := HB.out.trans (B6.out.mono HB.out.size)
          have BW6 : Hid (Below w.heap.size w w6) := vt.bup BW.out B6.out
          clear IL IL2 SL DL O0 i7
          go_loopw [17] (fun i wt => ∃ (q : Nat), q ≤ k ∧ i = .int .i64 (q : Int) ∧ Hid (Below w6.heap.size w6 wt)) (fun i _ => k - (intOf i).toNat)
          case atStart => exact ⟨0, Nat.zero_le _, rfl, Below.refl _ _⟩
          case round =>
            rename World => wt
            obtain ⟨q, hq, rfl, HC⟩ := hrel
            by_cases hlq : q < k
            · have HK : Hid (q < T.length) := by rw [← HN.out]; exact hlq
              have hAt := HT.out.at q HK.out
              have hTk := RI.out.below (vt.bup B46.out HC.out) q HK.out
              have hPk := R6.out.below HC.out q (by rw [placed_length]; exact HK.out)
              rw [placed_at HT.out q HK.out, Nat.zero_add] at hPk
              have hJP := join_part HT.out HK.out
              obtain ⟨P, hP⟩ : ∃ P, P = (joinT ys (T.take q)).length := ⟨_, rfl⟩
              rw [← hP] at hPk hJP
              clear hP
              obtain ⟨⟨kd, a, m⟩, ht⟩ : ∃ t, t = T.getD q (0, 0, 0) := ⟨_, rfl⟩
              rw [← ht] at hAt hTk hPk hJP
              simp only at hAt hTk hPk hJP
              rw [← HNY.out] at hAt
              rw [← HJN.out] at hJP
              clear ht
              obtain ⟨_, hA2, hA3⟩ := hAt
              obtain ⟨hJ1, hJ2⟩ := hJP
              obtain ⟨gI, rfl, t0, t1, t2⟩ := hTk
              obtain ⟨gP, rfl, p0, p1, p2⟩ := hPk
              obtain ⟨g1, rfl⟩ : ∃ g, av1 = some ⟨g, 0, none⟩ := by
                obtain ⟨a9, c9, e9, _, _, _, ⟨_, h9⟩ | ⟨g, h9, _, h8⟩⟩ := O1.out.rd
                · rw [h9] at HNY
                  have := HNY.out
                  simp at this
                  omega
                · simp only [Value.slice.injEq] at e9
                  exact ⟨g, e9.1.trans h9⟩
              obtain ⟨gj, rfl, hcj, hcjm⟩ : ∃ g, aj = some ⟨g, 0, none⟩ ∧ jn.length ≤ cp ∧ cp ≤ maxLen := by
                obtain ⟨a9, c9, e9, h7, h6, _, ⟨_, h9⟩ | ⟨g, h9, _, h8⟩⟩ := (OwB.own HO.out rfl).rd
                · rw [h9] at hJ1
                  simp at hJ1
                  omega
                · simp only [Value.slice.injEq] at e9
                  exact ⟨g, e9.1.trans h9, by rw [e9.2.2]; exact h7, by rw [e9.2.2]; exact h6⟩
              unfold maxLen at hcjm
              have hpl : (part ys a m).length = m := part_len (by rw [← HNY.out]; exact hA3)
              have SB : Hid (∀ W, Below wt.heap.size wt W → Calls Try.prog 7 #[.slice (some ⟨g1, a, none⟩) m (c1 - a), .slice (some ⟨gj, P, none⟩) m (cp - P)] W fun e w' => e = .returned (.bool true) ∧ ∃ n, w' = W.drewN n) := fun W hW => by
                refine sameB_any _ _ _ _ m (part ys a m) W hpl ?_ ?_ (by omega)
                · exact rd_take (rd_drop0 (RY.out W (B4.out.trans ((vt.bup (vt.bup HB.out B6.out) (vt.bup HC.out hW)).mono S1.out))) a) m
                · rw [← hJ2]
                  exact rd_take (rd_drop0 (RJ.out W (vt.bup (vt.bup B6.out HC.out) hW)) P) m
              have x1 : decide ((P : Int) < 0) = false := decide_eq_false (by omega)
              have x2 : decide ((jn.length : Int) < (P : Int) + (m : Int)) = false := decide_eq_false (by omega)
              have j1 : (q : Int) < (k : Int) := by omega
              have j2 : (a : Int) ≤ (a : Int) + (m : Int) := by omega
              have j3 : (a : Int) + (m : Int) ≤ (c1 : Int) := by omega
              have j4 : ¬ c1 = a := by omega
              have j5 : (P : Int) ≤ (P : Int) + (m : Int) := by omega
              have j6 : (P : Int) + (m : Int) ≤ (cp : Int) := by omega
              have j7 : ¬ cp = P := by omega
              clear hJ2 HLX HYJ
              have r0 := cellB p0 ((Below.refl _ _).alloc (Nat.le_refl _) (.cells #[.int .i64 kd, .int .i64 (a : Int), .int .i64 (m : Int)] 28))
              have r1 := cellB p1 ((Below.refl _ _).alloc (Nat.le_refl _) (.cells #[.int .i64 kd, .int .i64 (a : Int), .int .i64 (m : Int)] 28))
              have r2 := cellB p2 ((Below.refl _ _).alloc (Nat.le_refl _) (.cells #[.int .i64 kd, .int .i64 (a : Int), .int .i64 (m : Int)] 28))
              go_wp2_with fail
              go_quiet ((go_at_call 7; with_reducible exact Calls.quiet_of (SB.out _ (bel_drewN (((Below.refl _ _).alloc (Nat.le_refl _) _).alloc (by simp) _) _))))
              go_wp2
              go_roundw
              case rel => exact ⟨q + 1, by omega, by go_num, bel_drewN (vt.bup HC.out (((Below.refl _ _).alloc (Nat.le_refl _) _).alloc (by simp) _)) _⟩
              case measure => simp [intOf]; omega
            · obtain rfl : q = k := by omega
              go_wp2
              go_returns
              exact ⟨rfl, vt.bup BW6.out HC.out⟩
end Go.Proofs.Ytepbddfpdlapbaa.lex
namespace Go.Proofs.Ytepbddfpdlapbaa.fnTokens
open Go.ChangeShapes Go.WideShapes Go.ChangeAt Go.RowKit Go.Proofs.Ytepbddfpdlapbaa.bts Go.Proofs.Ytepbddfpdlapbaa.scn Go.Proofs.Ytepbddfpdlapbaa.lit Go.Proofs.Ytepbddfpdlapbaa.lex
set_option linter.unusedVariables false
theorem own : ownKnob Try.prog.godebug = none := by kernel_rfl
theorem laidOut : laidOutB Try.prog = true := by kernel_rfl
theorem walk (a0 : Option Addr) (len0 cap0 : Nat) (z0 : List Int) (w : World) (w0 : IsRow .u8 w a0 len0 cap0 z0) :
    Calls Try.prog 3 #[.slice a0 len0 cap0] w fun e w' => e = .returned (.bool true) ∧ Below w.heap.size w w' := by
  have hc : len0 ≤ cap0 ∧ cap0 ≤ 9223372036854775807 := by
    rcases w0 with ⟨_, rfl, rfl, _⟩ | ⟨x, _, hl, hm, _⟩
    · omega
    · unfold maxLen at hm; omega
  obtain ⟨ys, rfl, hr, hb⟩ := isRow_rd w0
  exact lex.core a0 cap0 ys w hr hb hc.1 hc.2
set_option maxRecDepth 100000 in
theorem lifted (os : Os) (started : os.Started) (H : Type) (enc : TypeId × Value → H) :
    ReturnsInHanded {} Try.checked os 3 .any (Rows.fnTokensSpec.pre6 enc Try.prog Try.f3 Rows.fnTokensRow.domain false) (Rows.fnTokensSpec.post enc Try.prog Try.f3 false true false false) := by
  refine returnsInHanded_of_change (C := Try.checked) own started (by kernel_rfl) Try.func3
    (ChangeSpec.witness6 (enc := enc) (C := Try.checked) false ⟨#[], #[.slice none 0 0], []⟩ 8 (by kernel_rfl) (by kernel_rfl) (by kernel_rfl) (by kernel_rfl)) ?_
  intro W base args ds gs before hval0 hW hcnd _
  have hval : ∀ (j : Nat) t v, Try.f3.params[j]? = some t → args[j]? = some v → Value.okWide Try.prog W .any base t v := hval0
  have hW' := hW
  obtain ⟨p, q, hA0, hV, rfl, hfz, hnd⟩ := hW
  have hA : DataW.TrodAll enc Try.prog W 0 (fun _ => true) true Try.f3.params.toList args.toList ds p := hA0
  rw [Try.params3] at hA hval
  obtain ⟨v0, vs0, d0, ds0, p0, q0, hargs, rfl, rfl, h0, r0⟩ := trodAll_cons hA
  obtain ⟨rfl, rfl, rfl⟩ := trodAll_nil r0
  obtain rfl : args = #[v0] := by cases args; simp_all
  obtain ⟨rfl, rfl⟩ := trodVars_none hV
  obtain ⟨a0, len0, cap0, rfl⟩ := okWide_slice Try.underlying22 (hval 0 22 v0 rfl rfl)
  have k0 := h0
  have lt0 : ∀ x ∈ p0, x.block < W.heap.size := by obtain ⟨m, hm⟩ := k0; exact DataW.trod_lt m _ _ _ hm
  obtain ⟨z0, w0⟩ : ∃ zs, IsRow .u8 W a0 len0 cap0 zs := by
    obtain ⟨fuel, hf⟩ := h0
    rcases open_ints Try.underlying22 Try.underlying5 (by kernel_rfl) hf with ⟨hcs, _⟩ | ⟨x, l, c, zs, hcs, _, hl, hm, hz, _, hcell, hwz⟩
    · simp [Value.cells] at hcs
      obtain ⟨rfl, rfl, rfl⟩ := hcs
      exact ⟨[], .inl ⟨rfl, rfl, rfl, rfl⟩⟩
    · simp [Value.cells] at hcs
      obtain ⟨rfl, rfl, rfl⟩ := hcs
      exact ⟨zs, .inr ⟨_, rfl, hl, hm, by simpa using hz, hcell, hwz⟩⟩
  clear hA0 hval0
  refine (walk a0 len0 cap0 z0 W w0).mono fun e W' ⟨he, bel⟩ => ?_
  subst he
  exact ⟨_, rfl, _, _, _, [], _, [], hW', trodAll_mk1 (shut_bool Try.underlying4 _), (trodAll_cons_mk (Below.trod laidOut (by kernel_rfl) (of_decide_eq_true (by kernel_rfl)) k0 bel lt0) trodAll_mk0), rfl, bel.frame _, fun h => by cases h⟩
theorem over : Rows.fnTokensRow.holds Try.pinned (OpenSpec.ofChange Rows.fnTokensSpec) :=
  OpenClaim.holds_of_wide 3 Try.f3 rfl rfl rfl rfl rfl rfl rfl ⟨rfl, rfl, rfl, rfl, rfl⟩ rfl rfl rfl rfl rfl (by kernel_rfl) Try.func3 (by kernel_rfl)
    (of_decide_eq_true (by kernel_rfl)) (by unfold Func.isWrapper; first | (rw [if_pos (by decide +kernel)]; kernel_rfl) | (rw [if_neg (by decide +kernel)]; exact ⟨rfl, rfl⟩))
    (fun os started H enc _ => lifted os started H enc)
theorem proved : Rows.FnTokensSaid := over
#print axioms proved
end Go.Proofs.Ytepbddfpdlapbaa.fnTokens
