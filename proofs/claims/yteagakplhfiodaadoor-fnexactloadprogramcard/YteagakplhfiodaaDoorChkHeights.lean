import Derived.Test.YteagakplhfiodaaDoorChkReach
import Derived.Deep.LoopGhost
namespace Go.Proofs.YteagakplhfiodaaDoor.chk
open Go.RowKit Go.Proofs.YteagakplhfiodaaDoor.bts Go.Proofs.YteagakplhfiodaaDoor.pg

theorem own_take {w : World} {B E g n cap : Nat} {xs : List Value} {x : Value} (h : w.ownsRow B E 1 (.slice (some ⟨g, 0, none⟩) (n + 1) cap) (n + 1) (xs ++ [x])) : w.ownsRow B E 1 (.slice (some ⟨g, 0, none⟩) n cap) n xs := by
  obtain ⟨h1, h2⟩ := h
  have hl : xs.length = n := by simp at h1; omega
  refine ⟨by omega, ?_⟩
  rcases h2 with ⟨h, _⟩ | ⟨g', cap', cur, e, hb', hh, hn, hm, hs, ht⟩
  · simp at h
  · simp only [Value.slice.injEq, Option.some.injEq, Addr.mk.injEq, and_true, true_and] at e
    obtain ⟨rfl, rfl⟩ := e
    refine .inr ⟨g, cap, cur, rfl, hb', hh, by omega, hm, hs, ?_⟩
    have e2 : cur.toList.take (n * 1) = (cur.toList.take ((n + 1) * 1)).take n := by rw [List.take_take]; congr 1; omega
    rw [e2, ht, List.take_left' hl]

theorem replicate_getD (N i : Nat) : (List.replicate N (-1 : Int)).getD i (-1) = -1 := by
  simp only [List.getD_eq_getElem?_getD, List.getElem?_replicate]
  split <;> rfl

theorem ic_of {us : List Value} {hs : List Int} (hl : us.length = hs.length) (h : ∀ j, j < hs.length → us[j]? = some (.int .i64 (hs.getD j (-1)))) : us = ic hs := by
  apply List.ext_getElem?
  intro j
  by_cases hj : j < hs.length
  · rw [h j hj, ic_at hj]
  · rw [List.getElem?_eq_none (by omega), List.getElem?_eq_none (by simp [ic]; omega)]

theorem reachAll_append : ∀ (xs ys : List (Nat × Int)) (hs : List Int) (t : List Nat), reachAll hs t (xs ++ ys) = match reachAll hs t xs with | none => none | some (h1, t1) => reachAll h1 t1 ys
  | [], ys, hs, t => rfl
  | e :: xs, ys, hs, t => by
    simp only [List.cons_append, reachAll]
    cases reach hs t e.1 e.2 with
    | none => rfl
    | some q => exact reachAll_append xs ys q.1 q.2
theorem reachAll_one (hs : List Int) (t : List Nat) (a : Nat) (n : Int) : reachAll hs t [(a, n)] = reach hs t a n := by
  simp only [reachAll]
  cases reach hs t a n with
  | none => rfl
  | some q => rfl

theorem reach_len {hs hs' : List Int} {t t' : List Nat} {a : Nat} {n : Int} (h : reach hs t a n = some (hs', t')) : t'.length ≤ t.length + 1 := by
  unfold reach at h
  split at h
  · split at h
    · simp only [Option.some.injEq, Prod.mk.injEq] at h; obtain ⟨rfl, rfl⟩ := h; simp
    · split at h
      · simp only [Option.some.injEq, Prod.mk.injEq] at h; obtain ⟨rfl, rfl⟩ := h; omega
      · cases h
  · cases h

theorem bad_n {code : List In} {N a : Nat} {hs : List Int} {t : List Nat} (I : Inv (suN code) N hs (t ++ [a])) (h : hs.getD a (-1) - tkI (code.getD a in0) < 0 ∨ 300 < hs.getD a (-1) - tkI (code.getD a in0) + lvI (code.getD a in0)) : ¬ Good (suN code) N :=
  inv_bad I (fun es he => by unfold suN at he; rw [if_pos h] at he; cases he)
theorem bad_next {code : List In} {N a : Nat} {hs : List Int} {t : List Nat} (I : Inv (suN code) N hs (t ++ [a])) (h : reachAll hs t (nxt (code.getD a in0) a (hs.getD a (-1) - tkI (code.getD a in0))) = none) : ¬ Good (suN code) N :=
  inv_bad I (fun es he => by
    unfold suN at he
    split at he
    · cases he
    · simp only [Option.some.injEq] at he
      subst he
      rw [reachAll_append, h])
theorem bad_tgt {code : List In} {N a : Nat} {hs hs1 : List Int} {t t1 : List Nat} (I : Inv (suN code) N hs (t ++ [a])) (h : reachAll hs t (nxt (code.getD a in0) a (hs.getD a (-1) - tkI (code.getD a in0))) = some (hs1, t1))
    (h2 : reachAll hs1 t1 (tgt (code.getD a in0) (hs.getD a (-1) - tkI (code.getD a in0))) = none) : ¬ Good (suN code) N :=
  inv_bad I (fun es he => by
    unfold suN at he
    split at he
    · cases he
    · simp only [Option.some.injEq] at he
      subst he
      rw [reachAll_append, h]
      exact h2)
theorem ok_all {code : List In} {N a : Nat} {hs hs1 hs2 : List Int} {t t1 t2 : List Nat} (pos : ∀ a h es, 0 ≤ h → h ≤ 300 → suN code a h = some es → ∀ e ∈ es, 0 ≤ e.2 ∧ e.2 ≤ 300) (I : Inv (suN code) N hs (t ++ [a]))
    (hn : ¬ (hs.getD a (-1) - tkI (code.getD a in0) < 0 ∨ 300 < hs.getD a (-1) - tkI (code.getD a in0) + lvI (code.getD a in0)))
    (h : reachAll hs t (nxt (code.getD a in0) a (hs.getD a (-1) - tkI (code.getD a in0))) = some (hs1, t1))
    (h2 : reachAll hs1 t1 (tgt (code.getD a in0) (hs.getD a (-1) - tkI (code.getD a in0))) = some (hs2, t2)) : Inv (suN code) N hs2 t2 ∧ left hs2 t2 < left hs (t ++ [a]) :=
  inv_next pos I (by unfold suN; rw [if_neg hn]) (by rw [reachAll_append, h]; exact h2)

theorem Fl.shrink {w : World} {base g N gT cT a : Nat} {hs : List Int} {t : List Nat} (F : Fl w base g N hs (.slice (some ⟨gT, 0, none⟩) (t.length + 1) cT) (t ++ [a])) : Fl w base g N hs (.slice (some ⟨gT, 0, none⟩) t.length cT) t := by
  refine ⟨F.own, own_take (x := .int .i64 (a : Int)) ?_, F.apart, F.len⟩
  have := F.todo
  rw [nc_snoc, List.length_append, List.length_singleton] at this
  exact this

set_option maxRecDepth 100000 in
set_option maxHeartbeats 4000000 in
theorem l4heights_any (f : Pr) (uc ud : Value) (w : World) (hd : RdIV w ud f.code) (hok : ∀ i, i < f.code.length → XOk f.code.length (f.code.getD i in0)) (h0 : 0 < f.code.length) (h1 : f.code.length ≤ 1048576) :
    Calls Tryd.prog 26 #[.agg #[.int .i64 f.params, .int .i64 f.slots, uc, ud]] w fun e w' => ∃ b : Bool, e = .returned (.bool b) ∧ (b = true ↔ Good (suN f.code) f.code.length) ∧ Below w.heap.size w w' := by
  obtain ⟨i0, hi, hz0, hz1, hz2⟩ := info_parts info_int
  obtain ⟨fp, fs, fc, code⟩ := f
  simp only at hd hok h0 h1 ⊢
  obtain ⟨ad, cd, rfl, _, rd⟩ := hd
  obtain ⟨N, hN⟩ : ∃ N, N = code.length := ⟨_, rfl⟩
  have HN : Hid (code.length = N) := hN.symm
  have HP : Hid (∀ a h es, 0 ≤ h → h ≤ 300 → suN code a h = some es → ∀ e ∈ es, 0 ≤ e.2 ∧ e.2 ≤ 300) := su_pos hok
  have HOK : Hid (∀ i, i < N → XOk N (code.getD i in0)) := by rw [hN]; exact hok
  have HRD : Hid (RdI w ad code) := rd
  rw [← hN] at h0 h1 ⊢
  clear hok rd hN
  have hmx : N ≤ maxLen := by unfold maxLen; omega
  obtain ⟨W0, hW0⟩ : ∃ W0, W0 = w.alloc (.cells #[.int .i64 fp, .int .i64 fs, uc, .slice ad N cd] 46) := ⟨_, rfl⟩
  have hW0s : W0.heap.size = w.heap.size + 1 := by rw [hW0]; simp
  have cF : W0.cell? ⟨w.heap.size, 3, none⟩ = some (.slice ad N cd) := by rw [hW0]; exact cellNew rfl
  have HW0 : Hid (Below w.heap.size w W0) := by rw [hW0]; exact (Below.refl _ _).alloc (Nat.le_refl _) _
  have HRD0 : Hid (RdI W0 ad code) := HRD.out.below HW0.out
  go_enter Tryd.func26, Tryd.ntmps26
  go_wp2_with (at_make; refine wpList_make_full _ rfl _ _ 79 rfl (w.heap.size + 1) 3 i0 (.int .i64 0) 1 Tryd.underlying79 hi hz0 hz1 .i64 .i64 _ _ N rfl rfl rfl rfl (by rw [hz2]; omega) hmx (by simp) ?_; intro w1 hown hgrow)
  rw [← hW0] at hown hgrow
  rw [hW0s] at hown
  have hb1 : Below (w.heap.size + 1) W0 w1 := (Below.refl _ _).grown hgrow (by omega) (by intro k hk; cases hk)
  clear hgrow HRD
  have HB1 : Hid (Below (w.heap.size + 1) W0 w1) := hb1
  have HO1 : Hid _ := hown
  clear hb1 hown hW0
  go_loopw [4] (fun i wr => ∃ (k : Nat) (us : List Value), k ≤ N ∧ i = .int .i64 k ∧ wr.ownsRow (w.heap.size + 1) 3 1 (.slice (some ⟨w.heap.size + 1, 0, none⟩) N N) N us ∧ (∀ j, j < k → us[j]? = some (.int .i64 (-1))) ∧ Below (w.heap.size + 1) W0 wr) (fun i _ => N - (intOf i).toNat)
  case atStart => exact ⟨0, _, Nat.zero_le _, rfl, HO1.out, fun j hj => absurd hj (by omega), HB1.out⟩
  case round =>
    clear HO1 HB1
    obtain ⟨k, us, hk, rfl, hown, hus, hb⟩ := hrel
    by_cases hlt : k < N
    · have hfr := hown.frozenAt k
      have hct := hown.cellAt k (by omega)
      have hxl : us.length = N := by have := hown.1; omega
      obtain ⟨u, hu⟩ : ∃ u, us[k]? = some u := ⟨_, List.getElem?_eq_getElem (by omega)⟩
      rw [hu] at hct
      have hst := hown.stored k (.int .i64 (-1))
      have H : Hid (_ ∧ _) := hst
      have HX : Hid (∀ j, j < k → us[j]? = some (.int .i64 (-1))) := hus
      have HL : Hid (us.length = N) := hxl
      clear hst hus hown hxl hu
      go_wp2
      go_roundw
      case rel =>
        refine ⟨k + 1, us.set k (.int .i64 (-1)), by omega, by go_num, H.out.1, ?_, hb.setCell (p := ⟨w.heap.size + 1, k, none⟩) (Nat.le_refl _) _⟩
        intro j hj
        have hl := HL.out
        by_cases e : j = k
        · subst e; rw [List.getElem?_set_self (by omega)]
        · rw [List.getElem?_set_ne (by omega), HX.out j (by omega)]
      case measure => simp [intOf]; omega
    · have hkn : k = N := by omega
      subst hkn
      have e := ic_of (us := us) (hs := List.replicate k (-1)) (by have := hown.1; simp; omega) (by intro j hj; rw [replicate_getD]; exact hus j (by simpa using hj))
      rw [e] at hown
      have F0 : Fl wr (w.heap.size + 1) (w.heap.size + 1) k (List.replicate k (-1)) (.slice none 0 0) [] := ⟨hown, ⟨rfl, .inl ⟨rfl, rfl⟩⟩, by simp [Value.ownBlock], by simp⟩
      have hr0 : reach (List.replicate k (-1)) [] 0 0 = some ((List.replicate k (-1)).set 0 0, [0]) := by
        unfold reach
        rw [if_pos (by simpa using h0), replicate_getD, if_pos (by omega)]; rfl
      have C := l4reach_ok (w.heap.size + 1) (w.heap.size + 1) k 0 0 _ _ none 0 [] [0] wr F0 h1 (by simp) (by omega) (by have := hb.size; omega) hr0
      have HB : Hid (Below (w.heap.size + 1) W0 wr) := hb
      clear F0 hr0 hown hus e hb
      go_wp2_with fail
      refine C.mono ?_
      rintro e w2 ⟨aT, cT, rfl, F2, hb2, _⟩
      clear C
      have HB2 : Hid (Below (w.heap.size + 1) W0 w2) := HB.out.trans hb2
      have HF2 : Hid (Fl w2 (w.heap.size + 1) (w.heap.size + 1) k ((List.replicate k (-1)).set 0 0) (.slice aT 1 cT) [0]) := F2
      clear F2 hb2
      simp only [List.length_singleton]
      go_wp2_with fail
      -- LOOP
      go_loopg [5] (left ((List.replicate k (-1)).set 0 0) [0]) (fun gk v wr => ∃ (t : List Nat) (aT : Option Addr) (cT : Nat) (hs : List Int), v = .slice aT t.length cT ∧ Fl wr (w.heap.size + 1) (w.heap.size + 1) k hs (.slice aT t.length cT) t ∧ Inv (suN code) k hs t ∧ left hs t = gk ∧ gk ≤ 2 * k + 1 ∧ Below (w.heap.size + 1) W0 wr)
      case atStart =>
        refine ⟨[0], aT, cT, _, rfl, HF2.out, inv_start h0, rfl, ?_, HB2.out⟩
        unfold left
        have := List.length_filter_le (fun z : Int => decide (z < 0)) ((List.replicate k (-1)).set 0 0)
        simp only [List.length_set, List.length_replicate, List.length_singleton] at this ⊢
        omega
      case round =>
        clear HF2 HB2 HB
        obtain ⟨t, aT, cT, hs, rfl, F, I, hgk, hgb, hb⟩ := hrel
        have hsw : w.heap.size + 1 ≤ wr.heap.size := by have := hb.size; omega
        have HBW : Hid (Below w.heap.size w wr) := HW0.out.trans (hb.mono (by omega))
        rcases List.eq_nil_or_concat t with rfl | ⟨t, a, rfl⟩
        · have HG : Hid (Good (suN code) k) := inv_end I
          clear I F hb hgk
          simp only [List.length_nil]
          go_wp2_with fail
          go_returns
          exact ⟨true, rfl, ⟨fun _ => HG.out, fun _ => rfl⟩, HBW.out⟩
        · rw [List.concat_eq_append] at F I hgk ⊢
          have hll : (t ++ [a]).length = t.length + 1 := by simp
          rw [hll] at F ⊢
          obtain ⟨gT, rfl⟩ : ∃ gT, aT = some ⟨gT, 0, none⟩ := by
            rcases F.todo.2 with ⟨h, _⟩ | ⟨g', c', cur, h, _⟩
            · simp at h
            · simp only [Value.slice.injEq] at h; exact ⟨g', h.1⟩
          have hcap : t.length + 1 ≤ cT := by
            rcases F.todo.2 with ⟨h, _⟩ | ⟨g', c', cur, h, _, _, hn, _⟩
            · simp at h
            · simp only [Value.slice.injEq] at h
              rw [hll] at hn
              omega
          have hat := I.todo a (by simp)
          have htop := (I.top a)
          have cT1 : wr.cell? ⟨gT, t.length, none⟩ = some (.int .i64 (a : Int)) := by
            have ht2 := F.todo
            rw [hll] at ht2
            rw [ht2.cellAt t.length (by omega), nc_snoc, List.getElem?_append_right (by simp [nc])]
            simp [nc]
          have htl : t.length ≤ 4194304 := by
            unfold left at hgk
            rw [hll] at hgk
            omega
          have F1 := F.shrink
          have cF1 : wr.cell? ⟨w.heap.size, 3, none⟩ = some (.slice ad k cd) := (hb.cell (p := ⟨w.heap.size, 3, none⟩) (by show w.heap.size < w.heap.size + 1; omega)).trans cF
          obtain ⟨bI, offI, rfl, i0', i1', i2'⟩ := (HRD0.out.below (by rw [hW0s]; exact hb)) a (by rw [HN.out]; exact hat.1)
          have hx := HOK.out a hat.1
          have htk := hx.takes
          have HI : Hid (Inv (suN code) k hs (t ++ [a])) := I
          have HGK : Hid (left hs (t ++ [a]) = gk) := hgk
          have BN : Hid (hs.getD a (-1) - tkI (code.getD a in0) < 0 ∨ 300 < hs.getD a (-1) - tkI (code.getD a in0) + lvI (code.getD a in0) → ¬ Good (suN code) k) := fun h => bad_n HI.out h
          have BX : Hid (reachAll hs t (nxt (code.getD a in0) a (hs.getD a (-1) - tkI (code.getD a in0))) = none → ¬ Good (suN code) k) := fun h => bad_next HI.out h
          have BT : Hid (∀ hs1 t1, reachAll hs t (nxt (code.getD a in0) a (hs.getD a (-1) - tkI (code.getD a in0))) = some (hs1, t1) → reachAll hs1 t1 (tgt (code.getD a in0) (hs.getD a (-1) - tkI (code.getD a in0))) = none → ¬ Good (suN code) k) := fun _ _ h h2 => bad_tgt HI.out h h2
          have BO : Hid (¬ (hs.getD a (-1) - tkI (code.getD a in0) < 0 ∨ 300 < hs.getD a (-1) - tkI (code.getD a in0) + lvI (code.getD a in0)) → ∀ hs1 t1 hs2 t2, reachAll hs t (nxt (code.getD a in0) a (hs.getD a (-1) - tkI (code.getD a in0))) = some (hs1, t1) → reachAll hs1 t1 (tgt (code.getD a in0) (hs.getD a (-1) - tkI (code.getD a in0))) = some (hs2, t2) → Inv (suN code) k hs2 t2 ∧ left hs2 t2 < gk) := fun hn _ _ _ _ h h2 => by rw [← HGK.out]; exact ok_all HP.out HI.out hn h h2
          have CTK := fun W => l4takes_any (code.getD a in0) k hx W
          have cH := F1.own.cellAt a (by omega)
          rw [ic_at (by rw [F1.len]; exact hat.1)] at cH
          generalize hz : hs.getD a (-1) = z at *
          generalize hX : code.getD a in0 = X at *
          have hlo := hx.lo
          have hhi := hx.hi
          have hxj := hx.jmp
          have hxl := hx.loop
          have hNX : Hid (∀ n, nxt X a n = if X.op = 18 ∨ X.op = 23 ∨ X.op = 24 then [] else [(a + 1, n + lvI X)]) := fun _ => rfl
          have hTG : Hid (∀ n, tgt X n = if X.op = 18 ∨ X.op = 19 then [(X.a.toNat, n)] else if X.op = 20 ∨ X.op = 21 then [(X.a.toNat, n + 1)] else if X.op = 26 ∨ X.op = 27 then [(X.b.toNat, n)] else []) := fun _ => rfl
          have hT1 : (X.op = 20 ∨ X.op = 21) → tkI X = 1 := by
            intro h
            unfold tkI
            rw [if_neg (by omega)]
            exact tk_and (by omega)
          have hL0 : (X.op = 18 ∨ X.op = 23 ∨ X.op = 24) → lvI X = 0 := by
            intro h
            unfold lvI
            rw [if_neg (by omega)]
            rcases h with h | h | h <;> rw [h] <;> rfl
          generalize tkI X = T at *
          generalize lvI X = L at *
          obtain ⟨xo, xa, xb⟩ := X
          simp only at i0' i1' i2' CTK hlo hhi hxj hxl hT1 hL0 hNX hTG
          have HF1 : Hid (Fl wr (w.heap.size + 1) (w.heap.size + 1) k hs (.slice (some ⟨gT, 0, none⟩) t.length cT) t) := F1
          have HBr : Hid (Below (w.heap.size + 1) W0 wr) := hb
          have ha' : (a : Int) < (k : Int) := by omega
          obtain ⟨m, hm⟩ : ∃ m, m = t.length := ⟨_, rfl⟩
          have HM : Hid (t.length = m) := hm.symm
          rw [← hm] at cT1 htl hcap ⊢
          have HOWN0 : Hid (w.heap.size + 1 < wr.heap.size) := (F1.own.lt _ rfl).2
          have HOWT0 : Hid (gT < wr.heap.size) := (F1.todo.lt gT rfl).2
          clear F F1 I hgk hb hx hz hX hll hm
          go_wp2_with fail
          refine (CTK _).mono ?_
          rintro e w3 ⟨rfl, hb3⟩
          have HB3 : Hid (Below wr.heap.size wr w3) := ((Below.refl _ _).alloc (Nat.le_refl _) _).trans (hb3.mono (by simp))
          have x0 := cellB (cellNew (w := wr) (cs := #[.int .i64 xo, .int .i64 xa, .int .i64 xb]) (t := 50) (j := 0) (v := .int .i64 xo) rfl) hb3
          have x1 := cellB (cellNew (w := wr) (cs := #[.int .i64 xo, .int .i64 xa, .int .i64 xb]) (t := 50) (j := 1) (v := .int .i64 xa) rfl) hb3
          have x2 := cellB (cellNew (w := wr) (cs := #[.int .i64 xo, .int .i64 xa, .int .i64 xb]) (t := 50) (j := 2) (v := .int .i64 xb) rfl) hb3
          have HX : Hid (w3.heap.size ≥ wr.heap.size + 1) := by have := hb3.size; simp at this; exact this
          have cH3 := cellB cH HB3.out
          have F3 : Hid (Fl w3 (w.heap.size + 1) (w.heap.size + 1) k hs (.slice (some ⟨gT, 0, none⟩) t.length cT) t) := HF1.out.below HB3.out (Nat.le_refl _)
          have HBr3 : Hid (Below (w.heap.size + 1) W0 w3) := HBr.out.trans (HB3.out.mono hsw)
          clear hb3 HF1 CTK i0' i1' i2' cT1 cF1 cH
          by_cases hneg : z - T < 0
          · have BAD : Hid (¬ Good (suN code) k) := BN.out (.inl hneg)
            clear BN BX BT BO
            go_wp2_with fail
            go_returns
            exact ⟨false, rfl, ⟨fun h => (by cases h), fun h => absurd h BAD.out⟩, HBW.out.trans (HB3.out.mono HBW.out.size)⟩
          -- CLASSES
          have hzb : 0 ≤ z ∧ z ≤ 300 := by omega
          have HOWN : Hid (w.heap.size + 1 < wr.heap.size) := HOWN0.out
          have HOWT : Hid (gT < wr.heap.size) := HOWT0.out
          by_cases hop : xo = 18
          · subst hop
            have HT2 : Hid (z - T ≤ 300) := by show _ ≤ _; omega
            have hja := hxj (by omega) (by omega)
            have hL1 := hL0 (by omega)
            have HTG : Hid (tgt ⟨18, xa, xb⟩ (z - T) = [(xa.toNat, z - T)]) := by show _ = _; rw [hTG.out]; simp
            have HR1 : Hid (reachAll hs t (nxt ⟨18, xa, xb⟩ a (z - T)) = some (hs, t)) := by show _ = _; rw [hNX.out]; rfl
            have HT4 : Hid (m = t.length) := HM.out.symm
            have HTB : Hid (t.length ≤ 4194304) := by show _ ≤ _; rw [HM.out]; exact htl
            have HTG2 : Hid (tgt ⟨18, xa, xb⟩ (z - T) = [(xa.toNat, z - T)]) := HTG.out
            by_cases hf2 : reach hs t xa.toNat (z - T) = none
            · have BAD : Hid (¬ Good (suN code) k) := BT.out _ _ HR1.out (by rw [HTG2.out, reachAll_one]; exact hf2)
              have C := l4reach_no (w.heap.size + 1) (w.heap.size + 1) k (xa.toNat) (z - T) hs (some ⟨gT, 0, none⟩) cT t w3 (F3.out) h1 (.inr hf2)
              rw [(show ((xa.toNat : Nat) : Int) = xa by omega)] at C
              rw [← HT4.out] at C
              clear BN BX BT BO hf2
              go_wp2_with fail
              refine C.mono ?_
              rintro e w5 ⟨rfl, hb5⟩
              have HB4 : Hid (Below w.heap.size w w5) := (HW0.out.trans (HBr3.out.mono (by omega))).trans (hb5.mono (by have := (HW0.out.trans (HBr3.out.mono (by omega))).size; exact this))
              clear hb5 C
              go_wp2_with fail
              go_returns
              exact ⟨false, rfl, ⟨fun h => (by cases h), fun h => absurd h BAD.out⟩, HB4.out⟩
            · obtain ⟨hs2, t2, hr2⟩ : ∃ hs2 t2, reach hs t xa.toNat (z - T) = some (hs2, t2) := by
                cases h : reach hs t xa.toNat (z - T) with
                | none => exact absurd h hf2
                | some q => exact ⟨q.1, q.2, rfl⟩
              have HR2 : Hid (reachAll hs t (tgt ⟨18, xa, xb⟩ (z - T)) = some (hs2, t2)) := by show _ = _; rw [HTG2.out, reachAll_one]; exact hr2
              have hnext := BO.out (by omega) _ _ _ _ HR1.out HR2.out
              have HNEXT : Hid _ := hnext
              have hlt4 := hnext.2
              have C := l4reach_ok (w.heap.size + 1) (w.heap.size + 1) k (xa.toNat) (z - T) hs hs2 (some ⟨gT, 0, none⟩) cT t t2 w3 (F3.out) h1 (by have := HTB.out; omega) (by have := HT2.out; omega) (by have := HBr3.out.size; omega) hr2
              rw [(show ((xa.toNat : Nat) : Int) = xa by omega)] at C
              rw [← HT4.out] at C
              clear BN BX BT BO hf2 hnext hr2 HR2
              go_wp2_with fail
              refine C.mono ?_
              rintro e w5 ⟨aT5, cT5, rfl, F5, hb5, _⟩
              have HF5 : Hid _ := F5
              have HBr5 : Hid (Below (w.heap.size + 1) W0 w5) := HBr3.out.trans hb5
              clear F5 hb5 C
              go_wp2_with fail
              go_roundg (left hs2 t2)
              case measure => exact hlt4
              case rel => exact ⟨t2, _, _, hs2, rfl, HF5.out, HNEXT.out.1, rfl, by omega, HBr5.out⟩
          by_cases hop : xo = 23 ∨ xo = 24
          · rcases hop with rfl | rfl
            · have hL1 := hL0 (by omega)
              have HTG : Hid (tgt ⟨23, xa, xb⟩ (z - T) = []) := by show _ = _; rw [hTG.out]; simp
              have HR1 : Hid (reachAll hs t (nxt ⟨23, xa, xb⟩ a (z - T)) = some (hs, t)) := by show _ = _; rw [hNX.out]; rfl
              have HT4 : Hid (m = t.length) := HM.out.symm
              have HTB : Hid (t.length ≤ 4194304) := by show _ ≤ _; rw [HM.out]; exact htl
              have HR2 : Hid (reachAll hs t (tgt ⟨23, xa, xb⟩ (z - T)) = some (hs, t)) := by show _ = _; rw [HTG.out]; rfl
              have hnext := BO.out (by omega) _ _ _ _ HR1.out HR2.out
              have HNEXT : Hid _ := hnext
              have hlt4 := hnext.2
              clear BN BX BT BO hnext HR2
              go_wp2_with fail
              go_roundg (left hs t)
              case measure => exact hlt4
              case rel => exact ⟨t, _, _, hs, by rw [← HT4.out], F3.out, HNEXT.out.1, rfl, by omega, HBr3.out⟩
            · have hL1 := hL0 (by omega)
              have HTG : Hid (tgt ⟨24, xa, xb⟩ (z - T) = []) := by show _ = _; rw [hTG.out]; simp
              have HR1 : Hid (reachAll hs t (nxt ⟨24, xa, xb⟩ a (z - T)) = some (hs, t)) := by show _ = _; rw [hNX.out]; rfl
              have HT4 : Hid (m = t.length) := HM.out.symm
              have HTB : Hid (t.length ≤ 4194304) := by show _ ≤ _; rw [HM.out]; exact htl
              have HR2 : Hid (reachAll hs t (tgt ⟨24, xa, xb⟩ (z - T)) = some (hs, t)) := by show _ = _; rw [HTG.out]; rfl
              have hnext := BO.out (by omega) _ _ _ _ HR1.out HR2.out
              have HNEXT : Hid _ := hnext
              have hlt4 := hnext.2
              clear BN BX BT BO hnext HR2
              go_wp2_with fail
              go_roundg (left hs t)
              case measure => exact hlt4
              case rel => exact ⟨t, _, _, hs, by rw [← HT4.out], F3.out, HNEXT.out.1, rfl, by omega, HBr3.out⟩
          by_cases hop : xo = 19
          · subst hop
            have HT2 : Hid (z - T ≤ 300) := by show _ ≤ _; omega
            have hja := hxj (by omega) (by omega)
            have HTG : Hid (tgt ⟨19, xa, xb⟩ (z - T) = [(xa.toNat, z - T)]) := by show _ = _; rw [hTG.out]; simp
            have HNX : Hid (nxt ⟨19, xa, xb⟩ a (z - T) = [(a + 1, z - T + L)]) := by show _ = _; rw [hNX.out]; simp [*]
            have eC : ((a + 1 : Nat) : Int) = (a : Int) + 1 := by omega
            by_cases hf : 300 < z - T + L ∨ reach hs t (a + 1) (z - T + L) = none
            · have BAD : Hid (¬ Good (suN code) k) := by
                show ¬ _
                rcases hf with h | h
                · exact BN.out (.inr h)
                · exact BX.out (by rw [HNX.out, reachAll_one]; exact h)
              have C := l4reach_no (w.heap.size + 1) (w.heap.size + 1) k (a + 1) (z - T + L) hs (some ⟨gT, 0, none⟩) cT t w3 F3.out h1 hf
              rw [eC, HM.out] at C
              clear BN BX BT BO hf
              go_wp2_with fail
              refine C.mono ?_
              rintro e w4 ⟨rfl, hb4⟩
              have HB4 : Hid (Below w.heap.size w w4) := (HBW.out.trans (HB3.out.mono HBW.out.size)).trans (hb4.mono (HBW.out.trans (HB3.out.mono HBW.out.size)).size)
              clear hb4 C
              go_wp2_with fail
              go_returns
              exact ⟨false, rfl, ⟨fun h => (by cases h), fun h => absurd h BAD.out⟩, HB4.out⟩
            · obtain ⟨hs1, t1, hr1⟩ : ∃ hs1 t1, reach hs t (a + 1) (z - T + L) = some (hs1, t1) := by
                cases h : reach hs t (a + 1) (z - T + L) with
                | none => exact absurd (.inr h) hf
                | some q => exact ⟨q.1, q.2, rfl⟩
              have hLe : z - T + L ≤ 300 := by omega
              have HR1 : Hid (reachAll hs t (nxt ⟨19, xa, xb⟩ a (z - T)) = some (hs1, t1)) := by show _ = _; rw [HNX.out, reachAll_one]; exact hr1
              have HTB : Hid (t1.length ≤ 4194305) := by show _ ≤ _; have := reach_len hr1; have := HM.out; omega
              have C := l4reach_ok (w.heap.size + 1) (w.heap.size + 1) k (a + 1) (z - T + L) hs hs1 (some ⟨gT, 0, none⟩) cT t t1 w3 F3.out h1 (by have := HM.out; omega) hLe (by have := HBr3.out.size; omega) hr1
              rw [eC, HM.out] at C
              clear hf hr1
              go_wp2_with fail
              refine C.mono ?_
              rintro e w4 ⟨aT4, cT4, rfl, F4, hb4, hk4⟩
              have hxb := hk4 wr.heap.size (by have := HX.out; omega) (by have := HOWN.out; omega) (by have := HOWT.out; simp only [Value.ownBlock]; intro e; simp at e; omega)
              have y0 := (World.cell?_of_block (a := ⟨wr.heap.size, 0, none⟩) hxb).trans x0
              have y1 := (World.cell?_of_block (a := ⟨wr.heap.size, 1, none⟩) hxb).trans x1
              have y2 := (World.cell?_of_block (a := ⟨wr.heap.size, 2, none⟩) hxb).trans x2
              obtain ⟨m4, hm4⟩ : ∃ m4, m4 = t1.length := ⟨_, rfl⟩
              have HT4 : Hid (m4 = t1.length) := hm4
              have hm4b : m4 ≤ 4194305 := by rw [hm4]; exact HTB.out
              have F4 : Hid (Fl w4 (w.heap.size + 1) (w.heap.size + 1) k hs1 (.slice aT4 t1.length cT4) t1) := F4
              rw [← hm4]
              have HBr4 : Hid (Below (w.heap.size + 1) W0 w4) := HBr3.out.trans hb4
              clear hb4 C hk4 hxb x0 x1 x2 hm4
              have HTG2 : Hid (tgt ⟨19, xa, xb⟩ (z - T) = [(xa.toNat, z - T)]) := HTG.out
              by_cases hf2 : reach hs1 t1 xa.toNat (z - T) = none
              · have BAD : Hid (¬ Good (suN code) k) := BT.out _ _ HR1.out (by rw [HTG2.out, reachAll_one]; exact hf2)
                have C := l4reach_no (w.heap.size + 1) (w.heap.size + 1) k (xa.toNat) (z - T) hs1 aT4 cT4 t1 w4 (F4.out) h1 (.inr hf2)
                rw [(show ((xa.toNat : Nat) : Int) = xa by omega)] at C
                rw [← HT4.out] at C
                clear BN BX BT BO hf2
                go_wp2_with fail
                refine C.mono ?_
                rintro e w5 ⟨rfl, hb5⟩
                have HB4 : Hid (Below w.heap.size w w5) := (HW0.out.trans (HBr4.out.mono (by omega))).trans (hb5.mono (by have := (HW0.out.trans (HBr4.out.mono (by omega))).size; exact this))
                clear hb5 C
                go_wp2_with fail
                go_returns
                exact ⟨false, rfl, ⟨fun h => (by cases h), fun h => absurd h BAD.out⟩, HB4.out⟩
              · obtain ⟨hs2, t2, hr2⟩ : ∃ hs2 t2, reach hs1 t1 xa.toNat (z - T) = some (hs2, t2) := by
                  cases h : reach hs1 t1 xa.toNat (z - T) with
                  | none => exact absurd h hf2
                  | some q => exact ⟨q.1, q.2, rfl⟩
                have HR2 : Hid (reachAll hs1 t1 (tgt ⟨19, xa, xb⟩ (z - T)) = some (hs2, t2)) := by show _ = _; rw [HTG2.out, reachAll_one]; exact hr2
                have hnext := BO.out (by omega) _ _ _ _ HR1.out HR2.out
                have HNEXT : Hid _ := hnext
                have hlt4 := hnext.2
                have C := l4reach_ok (w.heap.size + 1) (w.heap.size + 1) k (xa.toNat) (z - T) hs1 hs2 aT4 cT4 t1 t2 w4 (F4.out) h1 (by have := HTB.out; omega) (by have := HT2.out; omega) (by have := HBr4.out.size; omega) hr2
                rw [(show ((xa.toNat : Nat) : Int) = xa by omega)] at C
                rw [← HT4.out] at C
                clear BN BX BT BO hf2 hnext hr2 HR2
                go_wp2_with fail
                refine C.mono ?_
                rintro e w5 ⟨aT5, cT5, rfl, F5, hb5, _⟩
                have HF5 : Hid _ := F5
                have HBr5 : Hid (Below (w.heap.size + 1) W0 w5) := HBr4.out.trans hb5
                clear F5 hb5 C
                go_wp2_with fail
                go_roundg (left hs2 t2)
                case measure => exact hlt4
                case rel => exact ⟨t2, _, _, hs2, rfl, HF5.out, HNEXT.out.1, rfl, by omega, HBr5.out⟩
          by_cases hop : xo = 20 ∨ xo = 21
          · rcases hop with rfl | rfl
            · have hja := hxj (by omega) (by omega)
              have HT2 : Hid (T = 1) := hT1 (by omega)
              clear hT1 hL0
              have HTG : Hid (tgt ⟨20, xa, xb⟩ (z - T) = [(xa.toNat, z - T + 1)]) := by show _ = _; rw [hTG.out]; simp
              have HNX : Hid (nxt ⟨20, xa, xb⟩ a (z - T) = [(a + 1, z - T + L)]) := by show _ = _; rw [hNX.out]; simp [*]
              have eC : ((a + 1 : Nat) : Int) = (a : Int) + 1 := by omega
              by_cases hf : 300 < z - T + L ∨ reach hs t (a + 1) (z - T + L) = none
              · have BAD : Hid (¬ Good (suN code) k) := by
                  show ¬ _
                  rcases hf with h | h
                  · exact BN.out (.inr h)
                  · exact BX.out (by rw [HNX.out, reachAll_one]; exact h)
                have C := l4reach_no (w.heap.size + 1) (w.heap.size + 1) k (a + 1) (z - T + L) hs (some ⟨gT, 0, none⟩) cT t w3 F3.out h1 hf
                rw [eC, HM.out] at C
                clear BN BX BT BO hf
                go_wp2_with fail
                refine C.mono ?_
                rintro e w4 ⟨rfl, hb4⟩
                have HB4 : Hid (Below w.heap.size w w4) := (HBW.out.trans (HB3.out.mono HBW.out.size)).trans (hb4.mono (HBW.out.trans (HB3.out.mono HBW.out.size)).size)
                clear hb4 C
                go_wp2_with fail
                go_returns
                exact ⟨false, rfl, ⟨fun h => (by cases h), fun h => absurd h BAD.out⟩, HB4.out⟩
              · obtain ⟨hs1, t1, hr1⟩ : ∃ hs1 t1, reach hs t (a + 1) (z - T + L) = some (hs1, t1) := by
                  cases h : reach hs t (a + 1) (z - T + L) with
                  | none => exact absurd (.inr h) hf
                  | some q => exact ⟨q.1, q.2, rfl⟩
                have hLe : z - T + L ≤ 300 := by omega
                have HR1 : Hid (reachAll hs t (nxt ⟨20, xa, xb⟩ a (z - T)) = some (hs1, t1)) := by show _ = _; rw [HNX.out, reachAll_one]; exact hr1
                have HTB : Hid (t1.length ≤ 4194305) := by show _ ≤ _; have := reach_len hr1; have := HM.out; omega
                have C := l4reach_ok (w.heap.size + 1) (w.heap.size + 1) k (a + 1) (z - T + L) hs hs1 (some ⟨gT, 0, none⟩) cT t t1 w3 F3.out h1 (by have := HM.out; omega) hLe (by have := HBr3.out.size; omega) hr1
                rw [eC, HM.out] at C
                clear hf hr1
                go_wp2_with fail
                refine C.mono ?_
                rintro e w4 ⟨aT4, cT4, rfl, F4, hb4, hk4⟩
                have hxb := hk4 wr.heap.size (by have := HX.out; omega) (by have := HOWN.out; omega) (by have := HOWT.out; simp only [Value.ownBlock]; intro e; simp at e; omega)
                have y0 := (World.cell?_of_block (a := ⟨wr.heap.size, 0, none⟩) hxb).trans x0
                have y1 := (World.cell?_of_block (a := ⟨wr.heap.size, 1, none⟩) hxb).trans x1
                have y2 := (World.cell?_of_block (a := ⟨wr.heap.size, 2, none⟩) hxb).trans x2
                obtain ⟨m4, hm4⟩ : ∃ m4, m4 = t1.length := ⟨_, rfl⟩
                have HT4 : Hid (m4 = t1.length) := hm4
                have hm4b : m4 ≤ 4194305 := by rw [hm4]; exact HTB.out
                have F4 : Hid (Fl w4 (w.heap.size + 1) (w.heap.size + 1) k hs1 (.slice aT4 t1.length cT4) t1) := F4
                rw [← hm4]
                have HBr4 : Hid (Below (w.heap.size + 1) W0 w4) := HBr3.out.trans hb4
                clear hb4 C hk4 hxb x0 x1 x2 hm4
                have HTG2 : Hid (tgt ⟨20, xa, xb⟩ (z - T) = [(xa.toNat, z - T + 1)]) := HTG.out
                by_cases hf2 : reach hs1 t1 xa.toNat (z - T + 1) = none
                · have BAD : Hid (¬ Good (suN code) k) := BT.out _ _ HR1.out (by rw [HTG2.out, reachAll_one]; exact hf2)
                  have C := l4reach_no (w.heap.size + 1) (w.heap.size + 1) k (xa.toNat) (z - T + 1) hs1 aT4 cT4 t1 w4 (F4.out) h1 (.inr hf2)
                  rw [(show ((xa.toNat : Nat) : Int) = xa by omega)] at C
                  rw [← HT4.out] at C
                  clear BN BX BT BO hf2
                  go_wp2_with fail
                  refine C.mono ?_
                  rintro e w5 ⟨rfl, hb5⟩
                  have HB4 : Hid (Below w.heap.size w w5) := (HW0.out.trans (HBr4.out.mono (by omega))).trans (hb5.mono (by have := (HW0.out.trans (HBr4.out.mono (by omega))).size; exact this))
                  clear hb5 C
                  go_wp2_with fail
                  go_returns
                  exact ⟨false, rfl, ⟨fun h => (by cases h), fun h => absurd h BAD.out⟩, HB4.out⟩
                · obtain ⟨hs2, t2, hr2⟩ : ∃ hs2 t2, reach hs1 t1 xa.toNat (z - T + 1) = some (hs2, t2) := by
                    cases h : reach hs1 t1 xa.toNat (z - T + 1) with
                    | none => exact absurd h hf2
                    | some q => exact ⟨q.1, q.2, rfl⟩
                  have HR2 : Hid (reachAll hs1 t1 (tgt ⟨20, xa, xb⟩ (z - T)) = some (hs2, t2)) := by show _ = _; rw [HTG2.out, reachAll_one]; exact hr2
                  have hnext := BO.out (by omega) _ _ _ _ HR1.out HR2.out
                  have HNEXT : Hid _ := hnext
                  have hlt4 := hnext.2
                  have C := l4reach_ok (w.heap.size + 1) (w.heap.size + 1) k (xa.toNat) (z - T + 1) hs1 hs2 aT4 cT4 t1 t2 w4 (F4.out) h1 (by have := HTB.out; omega) (by have := HT2.out; omega) (by have := HBr4.out.size; omega) hr2
                  rw [(show ((xa.toNat : Nat) : Int) = xa by omega)] at C
                  rw [← HT4.out] at C
                  clear BN BX BT BO hf2 hnext hr2 HR2
                  go_wp2_with fail
                  refine C.mono ?_
                  rintro e w5 ⟨aT5, cT5, rfl, F5, hb5, _⟩
                  have HF5 : Hid _ := F5
                  have HBr5 : Hid (Below (w.heap.size + 1) W0 w5) := HBr4.out.trans hb5
                  clear F5 hb5 C
                  go_wp2_with fail
                  go_roundg (left hs2 t2)
                  case measure => exact hlt4
                  case rel => exact ⟨t2, _, _, hs2, rfl, HF5.out, HNEXT.out.1, rfl, by omega, HBr5.out⟩
            · have hja := hxj (by omega) (by omega)
              have HT2 : Hid (T = 1) := hT1 (by omega)
              clear hT1 hL0
              have HTG : Hid (tgt ⟨21, xa, xb⟩ (z - T) = [(xa.toNat, z - T + 1)]) := by show _ = _; rw [hTG.out]; simp
              have HNX : Hid (nxt ⟨21, xa, xb⟩ a (z - T) = [(a + 1, z - T + L)]) := by show _ = _; rw [hNX.out]; simp [*]
              have eC : ((a + 1 : Nat) : Int) = (a : Int) + 1 := by omega
              by_cases hf : 300 < z - T + L ∨ reach hs t (a + 1) (z - T + L) = none
              · have BAD : Hid (¬ Good (suN code) k) := by
                  show ¬ _
                  rcases hf with h | h
                  · exact BN.out (.inr h)
                  · exact BX.out (by rw [HNX.out, reachAll_one]; exact h)
                have C := l4reach_no (w.heap.size + 1) (w.heap.size + 1) k (a + 1) (z - T + L) hs (some ⟨gT, 0, none⟩) cT t w3 F3.out h1 hf
                rw [eC, HM.out] at C
                clear BN BX BT BO hf
                go_wp2_with fail
                refine C.mono ?_
                rintro e w4 ⟨rfl, hb4⟩
                have HB4 : Hid (Below w.heap.size w w4) := (HBW.out.trans (HB3.out.mono HBW.out.size)).trans (hb4.mono (HBW.out.trans (HB3.out.mono HBW.out.size)).size)
                clear hb4 C
                go_wp2_with fail
                go_returns
                exact ⟨false, rfl, ⟨fun h => (by cases h), fun h => absurd h BAD.out⟩, HB4.out⟩
              · obtain ⟨hs1, t1, hr1⟩ : ∃ hs1 t1, reach hs t (a + 1) (z - T + L) = some (hs1, t1) := by
                  cases h : reach hs t (a + 1) (z - T + L) with
                  | none => exact absurd (.inr h) hf
                  | some q => exact ⟨q.1, q.2, rfl⟩
                have hLe : z - T + L ≤ 300 := by omega
                have HR1 : Hid (reachAll hs t (nxt ⟨21, xa, xb⟩ a (z - T)) = some (hs1, t1)) := by show _ = _; rw [HNX.out, reachAll_one]; exact hr1
                have HTB : Hid (t1.length ≤ 4194305) := by show _ ≤ _; have := reach_len hr1; have := HM.out; omega
                have C := l4reach_ok (w.heap.size + 1) (w.heap.size + 1) k (a + 1) (z - T + L) hs hs1 (some ⟨gT, 0, none⟩) cT t t1 w3 F3.out h1 (by have := HM.out; omega) hLe (by have := HBr3.out.size; omega) hr1
                rw [eC, HM.out] at C
                clear hf hr1
                go_wp2_with fail
                refine C.mono ?_
                rintro e w4 ⟨aT4, cT4, rfl, F4, hb4, hk4⟩
                have hxb := hk4 wr.heap.size (by have := HX.out; omega) (by have := HOWN.out; omega) (by have := HOWT.out; simp only [Value.ownBlock]; intro e; simp at e; omega)
                have y0 := (World.cell?_of_block (a := ⟨wr.heap.size, 0, none⟩) hxb).trans x0
                have y1 := (World.cell?_of_block (a := ⟨wr.heap.size, 1, none⟩) hxb).trans x1
                have y2 := (World.cell?_of_block (a := ⟨wr.heap.size, 2, none⟩) hxb).trans x2
                obtain ⟨m4, hm4⟩ : ∃ m4, m4 = t1.length := ⟨_, rfl⟩
                have HT4 : Hid (m4 = t1.length) := hm4
                have hm4b : m4 ≤ 4194305 := by rw [hm4]; exact HTB.out
                have F4 : Hid (Fl w4 (w.heap.size + 1) (w.heap.size + 1) k hs1 (.slice aT4 t1.length cT4) t1) := F4
                rw [← hm4]
                have HBr4 : Hid (Below (w.heap.size + 1) W0 w4) := HBr3.out.trans hb4
                clear hb4 C hk4 hxb x0 x1 x2 hm4
                have HTG2 : Hid (tgt ⟨21, xa, xb⟩ (z - T) = [(xa.toNat, z - T + 1)]) := HTG.out
                by_cases hf2 : reach hs1 t1 xa.toNat (z - T + 1) = none
                · have BAD : Hid (¬ Good (suN code) k) := BT.out _ _ HR1.out (by rw [HTG2.out, reachAll_one]; exact hf2)
                  have C := l4reach_no (w.heap.size + 1) (w.heap.size + 1) k (xa.toNat) (z - T + 1) hs1 aT4 cT4 t1 w4 (F4.out) h1 (.inr hf2)
                  rw [(show ((xa.toNat : Nat) : Int) = xa by omega)] at C
                  rw [← HT4.out] at C
                  clear BN BX BT BO hf2
                  go_wp2_with fail
                  refine C.mono ?_
                  rintro e w5 ⟨rfl, hb5⟩
                  have HB4 : Hid (Below w.heap.size w w5) := (HW0.out.trans (HBr4.out.mono (by omega))).trans (hb5.mono (by have := (HW0.out.trans (HBr4.out.mono (by omega))).size; exact this))
                  clear hb5 C
                  go_wp2_with fail
                  go_returns
                  exact ⟨false, rfl, ⟨fun h => (by cases h), fun h => absurd h BAD.out⟩, HB4.out⟩
                · obtain ⟨hs2, t2, hr2⟩ : ∃ hs2 t2, reach hs1 t1 xa.toNat (z - T + 1) = some (hs2, t2) := by
                    cases h : reach hs1 t1 xa.toNat (z - T + 1) with
                    | none => exact absurd h hf2
                    | some q => exact ⟨q.1, q.2, rfl⟩
                  have HR2 : Hid (reachAll hs1 t1 (tgt ⟨21, xa, xb⟩ (z - T)) = some (hs2, t2)) := by show _ = _; rw [HTG2.out, reachAll_one]; exact hr2
                  have hnext := BO.out (by omega) _ _ _ _ HR1.out HR2.out
                  have HNEXT : Hid _ := hnext
                  have hlt4 := hnext.2
                  have C := l4reach_ok (w.heap.size + 1) (w.heap.size + 1) k (xa.toNat) (z - T + 1) hs1 hs2 aT4 cT4 t1 t2 w4 (F4.out) h1 (by have := HTB.out; omega) (by have := HT2.out; omega) (by have := HBr4.out.size; omega) hr2
                  rw [(show ((xa.toNat : Nat) : Int) = xa by omega)] at C
                  rw [← HT4.out] at C
                  clear BN BX BT BO hf2 hnext hr2 HR2
                  go_wp2_with fail
                  refine C.mono ?_
                  rintro e w5 ⟨aT5, cT5, rfl, F5, hb5, _⟩
                  have HF5 : Hid _ := F5
                  have HBr5 : Hid (Below (w.heap.size + 1) W0 w5) := HBr4.out.trans hb5
                  clear F5 hb5 C
                  go_wp2_with fail
                  go_roundg (left hs2 t2)
                  case measure => exact hlt4
                  case rel => exact ⟨t2, _, _, hs2, rfl, HF5.out, HNEXT.out.1, rfl, by omega, HBr5.out⟩
          by_cases hop : xo = 26 ∨ xo = 27
          · rcases hop with rfl | rfl
            · have HT2 : Hid (z - T ≤ 300) := by show _ ≤ _; omega
              have hjb := hxl (by omega)
              have HTG : Hid (tgt ⟨26, xa, xb⟩ (z - T) = [(xb.toNat, z - T)]) := by show _ = _; rw [hTG.out]; simp
              have HNX : Hid (nxt ⟨26, xa, xb⟩ a (z - T) = [(a + 1, z - T + L)]) := by show _ = _; rw [hNX.out]; simp [*]
              have eC : ((a + 1 : Nat) : Int) = (a : Int) + 1 := by omega
              by_cases hf : 300 < z - T + L ∨ reach hs t (a + 1) (z - T + L) = none
              · have BAD : Hid (¬ Good (suN code) k) := by
                  show ¬ _
                  rcases hf with h | h
                  · exact BN.out (.inr h)
                  · exact BX.out (by rw [HNX.out, reachAll_one]; exact h)
                have C := l4reach_no (w.heap.size + 1) (w.heap.size + 1) k (a + 1) (z - T + L) hs (some ⟨gT, 0, none⟩) cT t w3 F3.out h1 hf
                rw [eC, HM.out] at C
                clear BN BX BT BO hf
                go_wp2_with fail
                refine C.mono ?_
                rintro e w4 ⟨rfl, hb4⟩
                have HB4 : Hid (Below w.heap.size w w4) := (HBW.out.trans (HB3.out.mono HBW.out.size)).trans (hb4.mono (HBW.out.trans (HB3.out.mono HBW.out.size)).size)
                clear hb4 C
                go_wp2_with fail
                go_returns
                exact ⟨false, rfl, ⟨fun h => (by cases h), fun h => absurd h BAD.out⟩, HB4.out⟩
              · obtain ⟨hs1, t1, hr1⟩ : ∃ hs1 t1, reach hs t (a + 1) (z - T + L) = some (hs1, t1) := by
                  cases h : reach hs t (a + 1) (z - T + L) with
                  | none => exact absurd (.inr h) hf
                  | some q => exact ⟨q.1, q.2, rfl⟩
                have hLe : z - T + L ≤ 300 := by omega
                have HR1 : Hid (reachAll hs t (nxt ⟨26, xa, xb⟩ a (z - T)) = some (hs1, t1)) := by show _ = _; rw [HNX.out, reachAll_one]; exact hr1
                have HTB : Hid (t1.length ≤ 4194305) := by show _ ≤ _; have := reach_len hr1; have := HM.out; omega
                have C := l4reach_ok (w.heap.size + 1) (w.heap.size + 1) k (a + 1) (z - T + L) hs hs1 (some ⟨gT, 0, none⟩) cT t t1 w3 F3.out h1 (by have := HM.out; omega) hLe (by have := HBr3.out.size; omega) hr1
                rw [eC, HM.out] at C
                clear hf hr1
                go_wp2_with fail
                refine C.mono ?_
                rintro e w4 ⟨aT4, cT4, rfl, F4, hb4, hk4⟩
                have hxb := hk4 wr.heap.size (by have := HX.out; omega) (by have := HOWN.out; omega) (by have := HOWT.out; simp only [Value.ownBlock]; intro e; simp at e; omega)
                have y0 := (World.cell?_of_block (a := ⟨wr.heap.size, 0, none⟩) hxb).trans x0
                have y1 := (World.cell?_of_block (a := ⟨wr.heap.size, 1, none⟩) hxb).trans x1
                have y2 := (World.cell?_of_block (a := ⟨wr.heap.size, 2, none⟩) hxb).trans x2
                obtain ⟨m4, hm4⟩ : ∃ m4, m4 = t1.length := ⟨_, rfl⟩
                have HT4 : Hid (m4 = t1.length) := hm4
                have hm4b : m4 ≤ 4194305 := by rw [hm4]; exact HTB.out
                have F4 : Hid (Fl w4 (w.heap.size + 1) (w.heap.size + 1) k hs1 (.slice aT4 t1.length cT4) t1) := F4
                rw [← hm4]
                have HBr4 : Hid (Below (w.heap.size + 1) W0 w4) := HBr3.out.trans hb4
                clear hb4 C hk4 hxb x0 x1 x2 hm4
                have HTG2 : Hid (tgt ⟨26, xa, xb⟩ (z - T) = [(xb.toNat, z - T)]) := HTG.out
                by_cases hf2 : reach hs1 t1 xb.toNat (z - T) = none
                · have BAD : Hid (¬ Good (suN code) k) := BT.out _ _ HR1.out (by rw [HTG2.out, reachAll_one]; exact hf2)
                  have C := l4reach_no (w.heap.size + 1) (w.heap.size + 1) k (xb.toNat) (z - T) hs1 aT4 cT4 t1 w4 (F4.out) h1 (.inr hf2)
                  rw [(show ((xb.toNat : Nat) : Int) = xb by omega)] at C
                  rw [← HT4.out] at C
                  clear BN BX BT BO hf2
                  go_wp2_with fail
                  refine C.mono ?_
                  rintro e w5 ⟨rfl, hb5⟩
                  have HB4 : Hid (Below w.heap.size w w5) := (HW0.out.trans (HBr4.out.mono (by omega))).trans (hb5.mono (by have := (HW0.out.trans (HBr4.out.mono (by omega))).size; exact this))
                  clear hb5 C
                  go_wp2_with fail
                  go_returns
                  exact ⟨false, rfl, ⟨fun h => (by cases h), fun h => absurd h BAD.out⟩, HB4.out⟩
                · obtain ⟨hs2, t2, hr2⟩ : ∃ hs2 t2, reach hs1 t1 xb.toNat (z - T) = some (hs2, t2) := by
                    cases h : reach hs1 t1 xb.toNat (z - T) with
                    | none => exact absurd h hf2
                    | some q => exact ⟨q.1, q.2, rfl⟩
                  have HR2 : Hid (reachAll hs1 t1 (tgt ⟨26, xa, xb⟩ (z - T)) = some (hs2, t2)) := by show _ = _; rw [HTG2.out, reachAll_one]; exact hr2
                  have hnext := BO.out (by omega) _ _ _ _ HR1.out HR2.out
                  have HNEXT : Hid _ := hnext
                  have hlt4 := hnext.2
                  have C := l4reach_ok (w.heap.size + 1) (w.heap.size + 1) k (xb.toNat) (z - T) hs1 hs2 aT4 cT4 t1 t2 w4 (F4.out) h1 (by have := HTB.out; omega) (by have := HT2.out; omega) (by have := HBr4.out.size; omega) hr2
                  rw [(show ((xb.toNat : Nat) : Int) = xb by omega)] at C
                  rw [← HT4.out] at C
                  clear BN BX BT BO hf2 hnext hr2 HR2
                  go_wp2_with fail
                  refine C.mono ?_
                  rintro e w5 ⟨aT5, cT5, rfl, F5, hb5, _⟩
                  have HF5 : Hid _ := F5
                  have HBr5 : Hid (Below (w.heap.size + 1) W0 w5) := HBr4.out.trans hb5
                  clear F5 hb5 C
                  go_wp2_with fail
                  go_roundg (left hs2 t2)
                  case measure => exact hlt4
                  case rel => exact ⟨t2, _, _, hs2, rfl, HF5.out, HNEXT.out.1, rfl, by omega, HBr5.out⟩
            · have HT2 : Hid (z - T ≤ 300) := by show _ ≤ _; omega
              have hjb := hxl (by omega)
              have HTG : Hid (tgt ⟨27, xa, xb⟩ (z - T) = [(xb.toNat, z - T)]) := by show _ = _; rw [hTG.out]; simp
              have HNX : Hid (nxt ⟨27, xa, xb⟩ a (z - T) = [(a + 1, z - T + L)]) := by show _ = _; rw [hNX.out]; simp [*]
              have eC : ((a + 1 : Nat) : Int) = (a : Int) + 1 := by omega
              by_cases hf : 300 < z - T + L ∨ reach hs t (a + 1) (z - T + L) = none
              · have BAD : Hid (¬ Good (suN code) k) := by
                  show ¬ _
                  rcases hf with h | h
                  · exact BN.out (.inr h)
                  · exact BX.out (by rw [HNX.out, reachAll_one]; exact h)
                have C := l4reach_no (w.heap.size + 1) (w.heap.size + 1) k (a + 1) (z - T + L) hs (some ⟨gT, 0, none⟩) cT t w3 F3.out h1 hf
                rw [eC, HM.out] at C
                clear BN BX BT BO hf
                go_wp2_with fail
                refine C.mono ?_
                rintro e w4 ⟨rfl, hb4⟩
                have HB4 : Hid (Below w.heap.size w w4) := (HBW.out.trans (HB3.out.mono HBW.out.size)).trans (hb4.mono (HBW.out.trans (HB3.out.mono HBW.out.size)).size)
                clear hb4 C
                go_wp2_with fail
                go_returns
                exact ⟨false, rfl, ⟨fun h => (by cases h), fun h => absurd h BAD.out⟩, HB4.out⟩
              · obtain ⟨hs1, t1, hr1⟩ : ∃ hs1 t1, reach hs t (a + 1) (z - T + L) = some (hs1, t1) := by
                  cases h : reach hs t (a + 1) (z - T + L) with
                  | none => exact absurd (.inr h) hf
                  | some q => exact ⟨q.1, q.2, rfl⟩
                have hLe : z - T + L ≤ 300 := by omega
                have HR1 : Hid (reachAll hs t (nxt ⟨27, xa, xb⟩ a (z - T)) = some (hs1, t1)) := by show _ = _; rw [HNX.out, reachAll_one]; exact hr1
                have HTB : Hid (t1.length ≤ 4194305) := by show _ ≤ _; have := reach_len hr1; have := HM.out; omega
                have C := l4reach_ok (w.heap.size + 1) (w.heap.size + 1) k (a + 1) (z - T + L) hs hs1 (some ⟨gT, 0, none⟩) cT t t1 w3 F3.out h1 (by have := HM.out; omega) hLe (by have := HBr3.out.size; omega) hr1
                rw [eC, HM.out] at C
                clear hf hr1
                go_wp2_with fail
                refine C.mono ?_
                rintro e w4 ⟨aT4, cT4, rfl, F4, hb4, hk4⟩
                have hxb := hk4 wr.heap.size (by have := HX.out; omega) (by have := HOWN.out; omega) (by have := HOWT.out; simp only [Value.ownBlock]; intro e; simp at e; omega)
                have y0 := (World.cell?_of_block (a := ⟨wr.heap.size, 0, none⟩) hxb).trans x0
                have y1 := (World.cell?_of_block (a := ⟨wr.heap.size, 1, none⟩) hxb).trans x1
                have y2 := (World.cell?_of_block (a := ⟨wr.heap.size, 2, none⟩) hxb).trans x2
                obtain ⟨m4, hm4⟩ : ∃ m4, m4 = t1.length := ⟨_, rfl⟩
                have HT4 : Hid (m4 = t1.length) := hm4
                have hm4b : m4 ≤ 4194305 := by rw [hm4]; exact HTB.out
                have F4 : Hid (Fl w4 (w.heap.size + 1) (w.heap.size + 1) k hs1 (.slice aT4 t1.length cT4) t1) := F4
                rw [← hm4]
                have HBr4 : Hid (Below (w.heap.size + 1) W0 w4) := HBr3.out.trans hb4
                clear hb4 C hk4 hxb x0 x1 x2 hm4
                have HTG2 : Hid (tgt ⟨27, xa, xb⟩ (z - T) = [(xb.toNat, z - T)]) := HTG.out
                by_cases hf2 : reach hs1 t1 xb.toNat (z - T) = none
                · have BAD : Hid (¬ Good (suN code) k) := BT.out _ _ HR1.out (by rw [HTG2.out, reachAll_one]; exact hf2)
                  have C := l4reach_no (w.heap.size + 1) (w.heap.size + 1) k (xb.toNat) (z - T) hs1 aT4 cT4 t1 w4 (F4.out) h1 (.inr hf2)
                  rw [(show ((xb.toNat : Nat) : Int) = xb by omega)] at C
                  rw [← HT4.out] at C
                  clear BN BX BT BO hf2
                  go_wp2_with fail
                  refine C.mono ?_
                  rintro e w5 ⟨rfl, hb5⟩
                  have HB4 : Hid (Below w.heap.size w w5) := (HW0.out.trans (HBr4.out.mono (by omega))).trans (hb5.mono (by have := (HW0.out.trans (HBr4.out.mono (by omega))).size; exact this))
                  clear hb5 C
                  go_wp2_with fail
                  go_returns
                  exact ⟨false, rfl, ⟨fun h => (by cases h), fun h => absurd h BAD.out⟩, HB4.out⟩
                · obtain ⟨hs2, t2, hr2⟩ : ∃ hs2 t2, reach hs1 t1 xb.toNat (z - T) = some (hs2, t2) := by
                    cases h : reach hs1 t1 xb.toNat (z - T) with
                    | none => exact absurd h hf2
                    | some q => exact ⟨q.1, q.2, rfl⟩
                  have HR2 : Hid (reachAll hs1 t1 (tgt ⟨27, xa, xb⟩ (z - T)) = some (hs2, t2)) := by show _ = _; rw [HTG2.out, reachAll_one]; exact hr2
                  have hnext := BO.out (by omega) _ _ _ _ HR1.out HR2.out
                  have HNEXT : Hid _ := hnext
                  have hlt4 := hnext.2
                  have C := l4reach_ok (w.heap.size + 1) (w.heap.size + 1) k (xb.toNat) (z - T) hs1 hs2 aT4 cT4 t1 t2 w4 (F4.out) h1 (by have := HTB.out; omega) (by have := HT2.out; omega) (by have := HBr4.out.size; omega) hr2
                  rw [(show ((xb.toNat : Nat) : Int) = xb by omega)] at C
                  rw [← HT4.out] at C
                  clear BN BX BT BO hf2 hnext hr2 HR2
                  go_wp2_with fail
                  refine C.mono ?_
                  rintro e w5 ⟨aT5, cT5, rfl, F5, hb5, _⟩
                  have HF5 : Hid _ := F5
                  have HBr5 : Hid (Below (w.heap.size + 1) W0 w5) := HBr4.out.trans hb5
                  clear F5 hb5 C
                  go_wp2_with fail
                  go_roundg (left hs2 t2)
                  case measure => exact hlt4
                  case rel => exact ⟨t2, _, _, hs2, rfl, HF5.out, HNEXT.out.1, rfl, by omega, HBr5.out⟩
          have o18 : (xo == 18) = false := by simp; omega
          have n18 : (xo != 18) = true := by simp; omega
          have o19 : (xo == 19) = false := by simp; omega
          have n19 : (xo != 19) = true := by simp; omega
          have o20 : (xo == 20) = false := by simp; omega
          have n20 : (xo != 20) = true := by simp; omega
          have o21 : (xo == 21) = false := by simp; omega
          have n21 : (xo != 21) = true := by simp; omega
          have o23 : (xo == 23) = false := by simp; omega
          have n23 : (xo != 23) = true := by simp; omega
          have o24 : (xo == 24) = false := by simp; omega
          have n24 : (xo != 24) = true := by simp; omega
          have o26 : (xo == 26) = false := by simp; omega
          have n26 : (xo != 26) = true := by simp; omega
          have o27 : (xo == 27) = false := by simp; omega
          have n27 : (xo != 27) = true := by simp; omega
          have HTG : Hid (tgt ⟨xo, xa, xb⟩ (z - T) = []) := by show _ = _; rw [hTG.out, if_neg (by omega), if_neg (by omega), if_neg (by omega)]
          have HNX : Hid (nxt ⟨xo, xa, xb⟩ a (z - T) = [(a + 1, z - T + L)]) := by show _ = _; rw [hNX.out, if_neg (by omega)]
          have eC : ((a + 1 : Nat) : Int) = (a : Int) + 1 := by omega
          by_cases hf : 300 < z - T + L ∨ reach hs t (a + 1) (z - T + L) = none
          · have BAD : Hid (¬ Good (suN code) k) := by
              show ¬ _
              rcases hf with h | h
              · exact BN.out (.inr h)
              · exact BX.out (by rw [HNX.out, reachAll_one]; exact h)
            have C := l4reach_no (w.heap.size + 1) (w.heap.size + 1) k (a + 1) (z - T + L) hs (some ⟨gT, 0, none⟩) cT t w3 F3.out h1 hf
            rw [eC, HM.out] at C
            clear BN BX BT BO hf
            go_wp2_with fail
            refine C.mono ?_
            rintro e w4 ⟨rfl, hb4⟩
            have HB4 : Hid (Below w.heap.size w w4) := (HBW.out.trans (HB3.out.mono HBW.out.size)).trans (hb4.mono (HBW.out.trans (HB3.out.mono HBW.out.size)).size)
            clear hb4 C
            go_wp2_with fail
            go_returns
            exact ⟨false, rfl, ⟨fun h => (by cases h), fun h => absurd h BAD.out⟩, HB4.out⟩
          · obtain ⟨hs1, t1, hr1⟩ : ∃ hs1 t1, reach hs t (a + 1) (z - T + L) = some (hs1, t1) := by
              cases h : reach hs t (a + 1) (z - T + L) with
              | none => exact absurd (.inr h) hf
              | some q => exact ⟨q.1, q.2, rfl⟩
            have hLe : z - T + L ≤ 300 := by omega
            have HR1 : Hid (reachAll hs t (nxt ⟨xo, xa, xb⟩ a (z - T)) = some (hs1, t1)) := by show _ = _; rw [HNX.out, reachAll_one]; exact hr1
            have HTB : Hid (t1.length ≤ 4194305) := by show _ ≤ _; have := reach_len hr1; have := HM.out; omega
            have C := l4reach_ok (w.heap.size + 1) (w.heap.size + 1) k (a + 1) (z - T + L) hs hs1 (some ⟨gT, 0, none⟩) cT t t1 w3 F3.out h1 (by have := HM.out; omega) hLe (by have := HBr3.out.size; omega) hr1
            rw [eC, HM.out] at C
            clear hf hr1
            go_wp2_with fail
            refine C.mono ?_
            rintro e w4 ⟨aT4, cT4, rfl, F4, hb4, hk4⟩
            have hxb := hk4 wr.heap.size (by have := HX.out; omega) (by have := HOWN.out; omega) (by have := HOWT.out; simp only [Value.ownBlock]; intro e; simp at e; omega)
            have y0 := (World.cell?_of_block (a := ⟨wr.heap.size, 0, none⟩) hxb).trans x0
            have y1 := (World.cell?_of_block (a := ⟨wr.heap.size, 1, none⟩) hxb).trans x1
            have y2 := (World.cell?_of_block (a := ⟨wr.heap.size, 2, none⟩) hxb).trans x2
            obtain ⟨m4, hm4⟩ : ∃ m4, m4 = t1.length := ⟨_, rfl⟩
            have HT4 : Hid (m4 = t1.length) := hm4
            have hm4b : m4 ≤ 4194305 := by rw [hm4]; exact HTB.out
            have F4 : Hid (Fl w4 (w.heap.size + 1) (w.heap.size + 1) k hs1 (.slice aT4 t1.length cT4) t1) := F4
            rw [← hm4]
            have HBr4 : Hid (Below (w.heap.size + 1) W0 w4) := HBr3.out.trans hb4
            clear hb4 C hk4 hxb x0 x1 x2 hm4
            have HR2 : Hid (reachAll hs1 t1 (tgt ⟨xo, xa, xb⟩ (z - T)) = some (hs1, t1)) := by show _ = _; rw [HTG.out]; rfl
            have hnext := BO.out (by omega) _ _ _ _ HR1.out HR2.out
            have HNEXT : Hid _ := hnext
            have hlt4 := hnext.2
            clear BN BX BT BO hnext HR2
            go_wp2_with fail
            go_roundg (left hs1 t1)
            case measure => exact hlt4
            case rel => exact ⟨t1, _, _, hs1, by rw [← HT4.out], F4.out, HNEXT.out.1, rfl, by omega, HBr4.out⟩
end Go.Proofs.YteagakplhfiodaaDoor.chk
