import Derived.Test.YtepbddfpdlapbaaMPrTree
import Derived.Test.YtepbddfpdlapbaaMSkKnown
namespace Go.Proofs.Ytepbddfpdlapbaa.tk
open Go.RowKit Go.Proofs.Ytepbddfpdlapbaa.bts Go.Proofs.Ytepbddfpdlapbaa.nod Go.Proofs.Ytepbddfpdlapbaa.fmt
theorem info_byte : (Try.prog.info? 5).map (fun i => (i.zero, i.size, i.bytes)) = some (some (.int .u8 0), 1, 1) := by kernel_rfl
set_option maxRecDepth 100000 in
set_option maxHeartbeats 1000000 in
theorem fill_any (c : Int) (n : Nat) (_hc : 0 ≤ c ∧ c ≤ 255) (hn : n ≤ 100000) (w : World) : Calls Try.prog 22 #[.int .u8 c, .int .i64 (n : Int)] w fun x w' => ∃ ao cp, x = .returned (.slice ao n cp) ∧ w'.ownsRow w.heap.size 5 1 (.slice ao n cp) n (bcells (List.replicate n c)) ∧ Below w.heap.size w w' := by
  obtain ⟨i0, hi0, hz0, hz1, hz2⟩ := info_parts info_byte
  go_enter Try.func22, Try.ntmps22
  go_wp2
  go_loopw [5, 6] (fun p q wr => ∃ (k cp : Nat) (ao : Option Addr), k ≤ n ∧ p = .slice ao k cp ∧ q = .int .i64 (k : Int) ∧ Hid (wr.ownsRow w.heap.size 5 1 (.slice ao k cp) k (bcells (List.replicate k c))) ∧ Hid (Below w.heap.size w wr)) (fun _ q _ => n - (intOf q).toNat)
  case atStart => exact ⟨0, 0, none, Nat.zero_le _, rfl, rfl, World.ownsRow_nil _ _ _ _, Below.refl _ _⟩
  case round =>
    obtain ⟨k, cp, ao, hk, rfl, rfl, HO, HB⟩ := hrel
    by_cases hlt : k < n
    · have i1 : (k : Int) < (n : Int) := by omega
      have HE : Hid (bcells (List.replicate k c) ++ [Value.int .u8 c] = bcells (List.replicate (k + 1) c)) := by show _ = _; rw [List.replicate_succ']; simp [bcells]
      go_wp2_with (at_builtin; refine wpList_append_row rfl _ _ 22 rfl 5 i0 (.int .u8 0) 1 1 Try.underlying22 hi0 hz0 hz1 hz2 rfl (by omega) w.heap.size ao k cp _ rfl (own_far HO.out (fun b e => heap_alloc_old _ _ (HO.out.lt b e).2)) (some ⟨wr.heap.size, 0, none⟩) 1 1 [.int .u8 c] rfl rfl sub_lt (by simp [Value.oneCell']) (by unfold maxLen; omega) (by omega) (by have := HB.out.size; simp; omega) ?_; intro a2 c2 w2 hA; have HO2 : Hid (w2.ownsRow w.heap.size 5 1 (.slice a2 (k + 1) c2) (k + 1) (bcells (List.replicate (k + 1) c))) := (by rw [← HE.out]; exact hA.own); have HB2 : Hid (Below w.heap.size w w2) := (HB.out.alloc HB.out.size _).grown hA.grow (by have := HB.out.size; simp; omega) (fun q hq => (HO.out.lt q hq).1); clear hA)
      refine ⟨⟨k + 1, c2, a2, by omega, rfl, by go_num, HO2.out, HB2.out⟩, by simp [intOf]; omega⟩
    · obtain rfl : k = n := by omega
      go_wp2
      go_returns
      exact ⟨ao, cp, rfl, HO.out, HB.out⟩
def OwB (w : World) (base : Nat) (v : Value) (zs : List Int) : Prop :=
  (v = .slice none 0 0 ∧ zs = []) ∨ ∃ g cap cur fz, v = .slice (some ⟨g, 0, none⟩) zs.length cap ∧ base ≤ g ∧ w.heap[g]? = some (.cells cur 5 fz) ∧ (fz = (0, 0) ∨ fz = (cap, cap + 1)) ∧ zs.length ≤ cap ∧ cap ≤ maxLen ∧ cur.size = cap ∧ cur.toList.take zs.length = bcells zs
theorem OwB.own {w : World} {base n c : Nat} {ao : Option Addr} {zs : List Int} (h : w.ownsRow base 5 1 (.slice ao n c) n (bcells zs)) (hn : zs.length = n) : OwB w base (.slice ao n c) zs := by
  subst hn
  rcases h.2 with ⟨e, e0⟩ | ⟨g, cap, cur, e, hg, hh, hnc, hm, hs, ht⟩
  · exact .inl ⟨e, List.eq_nil_of_length_eq_zero e0⟩
  · exact .inr ⟨g, cap, cur, (0, 0), e, hg, hh, .inl rfl, hnc, hm, by rw [hs, Nat.mul_one], by rw [Nat.mul_one] at ht; exact ht⟩
theorem OwB.below {w w' : World} {base : Nat} {v : Value} {zs : List Int} (h : OwB w base v zs) (hb : Below w.heap.size w w') : OwB w' base v zs := by
  rcases h with h | ⟨g, cap, cur, fz, e, hg, hh, r⟩
  · exact .inl h
  · exact .inr ⟨g, cap, cur, fz, e, hg, (hb.block g (heap_lt hh)).trans hh, r⟩
theorem OwB.rd {w : World} {base : Nat} {v : Value} {zs : List Int} (h : OwB w base v zs) : ∃ ao cap, v = .slice ao zs.length cap ∧ zs.length ≤ cap ∧ cap ≤ maxLen ∧ Rd w ao zs ∧ (ao = none ∧ zs = [] ∨ ∃ g, ao = some ⟨g, 0, none⟩ ∧ base ≤ g ∧ g < w.heap.size) := by
  rcases h with ⟨rfl, rfl⟩ | ⟨g, cap, cur, fz, rfl, hg, hh, _, hl, hm, hs, ht⟩
  · exact ⟨none, 0, rfl, Nat.le_refl _, by unfold maxLen; omega, fun i hi => absurd hi (by simp), .inl ⟨rfl, rfl⟩⟩
  · refine ⟨_, cap, rfl, hl, hm, fun i hi => ⟨g, 0, rfl, ?_⟩, .inr ⟨g, rfl, hg, heap_lt hh⟩⟩
    rw [Nat.zero_add]
    unfold World.cell?
    rw [hh]
    have h1 : (cur.toList.take zs.length)[i]? = (bcells zs)[i]? := by rw [ht]
    rw [List.getElem?_take, if_pos hi] at h1
    simp only [bcells, List.getElem?_map, List.getElem?_eq_getElem hi] at h1
    rw [List.getD_eq_getElem?_getD, List.getElem?_eq_getElem hi]
    simpa using h1
theorem OwB.text (w : World) (s : ByteArray) (hs : s.size ≤ maxLen) : OwB (Lib.bytesWorld w 5 s) w.heap.size (.slice (some ⟨w.heap.size, 0, none⟩) s.size (grownCap w s.size 0 5)) (nums s) := by
  have hge := grownCap_ge w s.size 0 5
  have hsz : (Lib.bytesCells w 5 s).size = grownCap w s.size 0 5 := by
    unfold Lib.bytesCells
    rw [Array.size_append, Array.size_map, Array.size_replicate]
    have : s.data.size = s.size := rfl
    omega
  have hh := Lib.bytesWorld_at_new w 5 s
  rw [hsz] at hh
  refine .inr ⟨w.heap.size, _, _, _, by rw [nums_length], Nat.le_refl _, hh, .inr rfl, by rw [nums_length]; exact hge, grownCap_le_maxLen w s.size 0 5 hs, hsz, ?_⟩
  rw [nums_length]
  unfold Lib.bytesCells
  rw [Array.toList_append]
  have e : (s.data.map fun b => Value.int .u8 b.toNat).toList = bcells (nums s) := by simp [bcells, nums]
  rw [e, List.take_append_of_le_length (by simp [bcells, nums_length]), List.take_of_length_le (by simp [bcells, nums_length])]
theorem store_all {P : Program} (g o : Nat) (T : TypeId) (fz : Nat × Nat) : ∀ (vs : List Value) (i : Nat) (cur : Array Value) (w : World), w.heap[g]? = some (.cells cur T fz) → cur.size ≤ fz.1 → o + i + vs.length ≤ cur.size → (∀ v ∈ vs, v.oneCell' = true) →
    ∃ w' cur', (storeCells ⟨g, o, none⟩ vs i).run P w = .ok () w' ∧ w'.heap[g]? = some (.cells cur' T fz) ∧ cur'.size = cur.size ∧ (∀ j : Nat, cur'[j]? = if o + i ≤ j ∧ j < o + i + vs.length then vs[j - (o + i)]? else cur[j]?) ∧ w.grownBy w' (some g) := by
  intro vs
  induction vs with
  | nil =>
    intro i cur w hg _ _ _
    refine ⟨w, cur, rfl, hg, rfl, fun j => ?_, World.grownBy.refl _ _⟩
    rw [if_neg (by rw [List.length_nil]; omega)]
  | cons v rest ih =>
    intro i cur w hg hfz hl h1
    rw [List.length_cons] at hl
    have hlt : o + i < cur.size := by omega
    have hc : w.cell? ⟨g, o + i, none⟩ = some cur[o + i] := by unfold World.cell?; rw [hg]; simp [hlt]
    have hf : w.frozen? ⟨g, o + i, none⟩ = false := by
      obtain ⟨a, b⟩ := fz
      simp only [World.frozen?, hg, Bool.and_eq_false_iff, decide_eq_false_iff_not]
      left
      simp only at hfz
      omega
    have hs : (store ((⟨g, o, none⟩ : Addr).add i) v).run P w = .ok () (w.setCell ⟨g, o + i, none⟩ v) := by
      rw [plainAt, run_store P w _ v _ (h1 v (by simp)), hc]
      simp [hf]
    obtain ⟨w', cur', e1, e2, e3, e4, e5⟩ := ih (i + 1) (cur.setIfInBounds (o + i) v) (w.setCell ⟨g, o + i, none⟩ v) (Joins.block_setCell hg v) (by simpa using hfz) (by simp; omega) (fun x hx => h1 x (by simp [hx]))
    refine ⟨w', cur', ?_, e2, by rw [e3]; simp, fun j => ?_, (grown_set w g (o + i) v).trans e5⟩
    · simp only [storeCells, Sem.run_bind, hs, Result.andThen_ok, e1]
    · rw [e4 j]
      by_cases hj : j = o + i
      · subst hj
        rw [if_neg (by omega), if_pos (by simp)]
        simp [hlt]
      · by_cases hj2 : o + i ≤ j ∧ j < o + i + (v :: rest).length
        · rw [if_pos hj2, if_pos (by rw [List.length_cons] at hj2; omega), show j - (o + i) = (j - (o + (i + 1))) + 1 by omega]
          rfl
        · rw [if_neg hj2, if_neg (by rw [List.length_cons] at hj2; omega)]
          rw [Array.getElem?_setIfInBounds]
          rw [if_neg (by omega)]
theorem bcells_app (xs ys : List Int) : bcells (xs ++ ys) = bcells xs ++ bcells ys := by simp [bcells]
theorem bcells_one (zs : List Int) : ∀ u ∈ bcells zs, u.oneCell' = true := fun u hu => by
  obtain ⟨z, _, rfl⟩ := List.mem_map.1 hu
  rfl
theorem rd_news {w : World} {ao : Option Addr} {ys : List Int} {m : Nat} (hr : Rd w ao ys) (hm : ys.length = m) (h0 : 0 < m) : ∃ ad, ao = some ad ∧ ∀ j u, (bcells ys)[j]? = some u → w.cell? (ad.add j) = some u := by
  obtain ⟨b, off, rfl, _, hcell⟩ := hr.at (by omega)
  refine ⟨_, rfl, fun j u hu => ?_⟩
  rcases Nat.lt_or_ge j ys.length with hj | hj
  · rw [plainAt, hcell j hj]
    simp only [bcells, List.getElem?_map, List.getElem?_eq_getElem hj, Option.map_some] at hu
    rw [List.getD_eq_getElem?_getD, List.getElem?_eq_getElem hj]
    exact hu
  · rw [List.getElem?_eq_none (by simp [bcells]; exact hj)] at hu; cases hu
theorem append_owb {w : World} {base : Nat} {v : Value} {zs : List Int} (h : OwB w base v zs) (ao : Option Addr) (m cx : Nat) (ys : List Int) (hm : ys.length = m) (hr : Rd w ao ys) (hb : zs.length + m ≤ 1000000000) (hbase : base ≤ w.heap.size) (ty : TypeId) :
    ∃ v' w', (Builtin.append_ #[22, 22] ty #[v, .slice ao m cx]).run Try.prog w = .ok v' w' ∧ OwB w' base v' (zs ++ ys) ∧ w.grownBy w' v.ownBlock := by
  obtain ⟨i0, hi0, hz0, hz1, hz2⟩ := info_parts info_byte
  have plain : ∀ ao' c, v = .slice ao' zs.length c → w.ownsRow base 5 1 (.slice ao' zs.length c) zs.length (bcells zs) → ∃ v' w', (Builtin.append_ #[22, 22] ty #[v, .slice ao m cx]).run Try.prog w = .ok v' w' ∧ OwB w' base v' (zs ++ ys) ∧ w.grownBy w' v.ownBlock := fun ao' c e ho => by
    subst e
    obtain ⟨a2, c2, w2, e1, e2⟩ := run_append_row w 22 ty 5 i0 (.int .u8 0) 1 1 Try.underlying22 hi0 hz0 hz1 hz2 rfl (by omega) base ao' zs.length c _ ho ao m cx (bcells ys) (by rw [bcells_length]; omega) (fun h0 => rd_news hr hm h0) (bcells_one ys) (by unfold maxLen; omega) (by omega) hbase
    exact ⟨_, w2, e1, OwB.own (by rw [bcells_app]; exact e2.own) (by rw [List.length_append, hm]), e2.grow⟩
  rcases h with ⟨rfl, rfl⟩ | ⟨g, cap, cur, fz, rfl, hg, hh, hf, hl, hmx, hs, ht⟩
  · exact plain none 0 rfl (World.ownsRow_nil _ _ _ _)
  · rcases hf with rfl | rfl
    · exact plain _ cap rfl ⟨by rw [bcells_length]; omega, .inr ⟨g, cap, cur, rfl, hg, hh, hl, hmx, by rw [Nat.mul_one]; exact hs, by rw [Nat.mul_one]; exact ht⟩⟩
    · have hcells : ∀ j u, (bcells zs)[j]? = some u → w.cell? ((⟨g, 0, none⟩ : Addr).add j) = some u := fun j u hu => by
        rw [plainAt, Nat.zero_add]
        unfold World.cell?
        rw [hh]
        rw [← ht, List.getElem?_take] at hu
        split at hu
        · simpa using hu
        · cases hu
      by_cases h0 : m = 0
      · subst h0
        have hy : ys = [] := List.eq_nil_of_length_eq_zero hm
        subst hy
        refine ⟨_, w, ?_, by rw [List.append_nil]; exact .inr ⟨g, cap, cur, _, rfl, hg, hh, .inr rfl, hl, hmx, hs, ht⟩, World.grownBy.refl _ _⟩
        cases ao with
        | none => simp [Builtin.append_, run_underlying Try.underlying22, sizeOf, typeInfo, hi0, Builtin.lenOf, Builtin.firstCells, hl, storeCells]
        | some a =>
          have hf := run_firstCells_some (P := Try.prog) w i0.size 0 a 0 cx [] (by simp) (by simp)
          simp [Builtin.append_, run_underlying Try.underlying22, sizeOf, typeInfo, hi0, Builtin.lenOf, hf, hl, storeCells]
      · obtain ⟨a, rfl, hn⟩ := rd_news hr hm (by omega)
        by_cases hroom : zs.length + m ≤ cap
        · obtain ⟨w', cur', e1, e2, e3, e4, e5⟩ := store_all (P := Try.prog) g (zs.length * i0.size) 5 (cap, cap + 1) (bcells ys) 0 cur w hh (by rw [hs]; exact Nat.le_refl _) (by rw [hz1, bcells_length]; omega) (bcells_one ys)
          have hf := run_firstCells_some (P := Try.prog) w i0.size m a m cx (bcells ys) (by rw [hz1, bcells_length]; omega) hn
          refine ⟨.slice (some ⟨g, 0, none⟩) (zs.length + m) cap, w', ?_, .inr ⟨g, cap, cur', _, by rw [List.length_append, hm], hg, e2, .inr rfl, by rw [List.length_append, hm]; exact hroom, hmx, by rw [e3]; exact hs, ?_⟩, e5⟩
          · have hadd : (⟨g, 0, none⟩ : Addr).add (zs.length * i0.size) = ⟨g, zs.length * i0.size, none⟩ := by rw [plainAt, Nat.zero_add]
            simp [Builtin.append_, run_underlying Try.underlying22, sizeOf, typeInfo, hi0, Builtin.lenOf, hroom, hf, hadd, e1]
          · apply List.ext_getElem?
            intro j
            rw [List.length_append, hm, List.getElem?_take]
            by_cases hj : j < zs.length + m
            · rw [if_pos hj]
              have e4j := e4 j
              rw [hz1, Nat.mul_one, Nat.add_zero, bcells_length, hm] at e4j
              rw [Array.getElem?_toList, e4j, bcells_app]
              by_cases hjz : j < zs.length
              · rw [if_neg (by omega), List.getElem?_append_left (by rw [bcells_length]; exact hjz), ← ht, List.getElem?_take, if_pos hjz, Array.getElem?_toList]
              · rw [if_pos (by omega), List.getElem?_append_right (by rw [bcells_length]; omega), bcells_length]
            · rw [if_neg hj, List.getElem?_eq_none (by rw [bcells_length, List.length_append]; omega)]
        · have hr2 := run_append_grow (P := Try.prog) w 22 ty 5 i0 (.int .u8 0) Try.underlying22 hi0 hz0 ⟨g, 0, none⟩ zs.length cap (bcells zs) (by rw [hz1, bcells_length]; omega) hcells a m cx (bcells ys) (by rw [hz1, bcells_length]; omega) hn (by omega) (by omega) (growslice_fits (by omega) (by rw [hz2]; omega))
          have hge := grownCap_ge w (zs.length + m) cap 5
          have hcm : grownCap w (zs.length + m) cap 5 ≤ maxLen := grownCap_le_maxLen w (zs.length + m) cap 5 (by unfold maxLen; omega)
          refine ⟨_, _, hr2, .inr ⟨w.heap.size, _, _, (0, 0), by rw [List.length_append, hm], hbase, heap_alloc_new w.drew _, .inl rfl, by rw [List.length_append, hm]; exact hge, hcm, ?_, ?_⟩, ⟨rfl, rfl, rfl, by simp, fun k hk _ => heap_alloc_old w.drew _ hk⟩⟩
          · simp only [Array.size_append, List.size_toArray, bcells_length, size_zeroCells, hm]
            have : (Value.int .u8 0).cells.size = 1 := rfl
            rw [this]
            omega
          · simp only [Array.toList_append, List.append_assoc]
            rw [← List.append_assoc, ← bcells_app, List.take_append_of_le_length (by rw [bcells_length]; exact Nat.le_refl _), List.take_of_length_le (by rw [bcells_length]; exact Nat.le_refl _)]
set_option maxRecDepth 100000 in
set_option maxHeartbeats 4000000 in
theorem known_any {bs : List Int} (hb : Bts bs) (hl : bs.length ≤ 600) (i : Nat) : ∃ s j, s.size ≤ 5000 ∧ Reads bs 37 i s j := by
  obtain ⟨k1, hk1, kb1⟩ := nxn hb i
  obtain ⟨k2, hk2, kb2⟩ := nxn hb (nxi bs i)
  obtain ⟨k3, hk3, kb3⟩ := nxn hb (nxi bs (nxi bs i))
  obtain ⟨n, hn, hn7⟩ : ∃ n : Nat, (k2 : Int) % 7 = (n : Int) ∧ n < 7 := ⟨k2 % 7, by omega, by omega⟩
  obtain ⟨m, hm, hm9⟩ : ∃ m : Nat, (k3 : Int) % 9 = (m : Int) ∧ m < 9 := ⟨k3 % 9, by omega, by omega⟩
  obtain ⟨sn, zn, DN⟩ := dec_any (n : Int) (by omega) (by omega)
  obtain ⟨sm, zm, DM⟩ := dec_any ((m : Int) - 2) (by omega) (by omega)
  obtain ⟨k, hk, hk12⟩ : ∃ k : Nat, (k1 : Int) % 12 = (k : Int) ∧ k < 12 := ⟨k1 % 12, by omega, by omega⟩
  refine ⟨_, _, ?_, known_all hb hl i k1 hk1 kb1 k2 hk2 kb2 k3 hk3 kb3 n m hn hm sn sm zn zm DN DM k (known_of hk hk12)⟩
  clear hk hk12 DN DM hk1 hk2 hk3
  unfold knownT
  split <;> (simp only [ByteArray.size_append, vt.bsz, List.size_toArray, List.length_cons, List.length_nil]; omega)
def ReadsB (bs : List Int) (f : Nat) (i : Nat) (zs : List Int) (j : Nat) : Prop := ∀ (w0 w : World) (av : Option Addr) (cv r : Nat), Rd w0 av bs → Rr w0 av cv bs w r i →
  Calls Try.prog f #[.pointer (some ⟨r, 0, none⟩)] w fun e w' => ∃ v, e = .returned v ∧ OwB w' w.heap.size v zs ∧ Rr w0 av cv bs w' r j ∧ Fq r w w'
theorem OwB.mono {w : World} {base base' : Nat} {v : Value} {zs : List Int} (h : OwB w base v zs) (hb : base' ≤ base) : OwB w base' v zs := by
  rcases h with h | ⟨g, cap, cur, fz, e, hg, r⟩
  · exact .inl h
  · exact .inr ⟨g, cap, cur, fz, e, by omega, r⟩
theorem OwB.nil (w : World) (base : Nat) : OwB w base (.slice none 0 0) [] := .inl ⟨rfl, rfl⟩
theorem OwB.lit (w : World) (zs : List Int) (hz : zs.length ≤ 1000) (n : Nat) (hn : zs.length = n) : OwB (w.alloc (.cells (bcells zs).toArray 5 ((bcells zs).toArray.size, (bcells zs).toArray.size + 1))) w.heap.size (.slice (some ⟨w.heap.size, 0, none⟩) n n) zs := by
  subst hn
  have e : (bcells zs).toArray.size = zs.length := by simp [bcells]
  refine .inr ⟨w.heap.size, zs.length, _, _, rfl, Nat.le_refl _, heap_alloc_new _ _, .inr (by rw [e]), Nat.le_refl _, by unfold maxLen; omega, e, ?_⟩
  show (bcells zs).take zs.length = _
  rw [List.take_of_length_le (by simp [bcells])]
theorem rdv_plain {B : Nat → Bool} {w : World} {v : Value} {zs : List Int} (h : RdV (veil B w) v zs) : RdV w v zs := by
  obtain ⟨ao, cap, e, hm, hr, hz⟩ := h
  refine ⟨ao, cap, e, hm, fun i hi => ?_, hz⟩
  obtain ⟨b, off, e, hc⟩ := hr i hi
  exact ⟨b, off, e, (veil_cell hc).1⟩
theorem rdvv_plain {B : Nat → Bool} {w : World} {v : Value} {l : List (List Int)} (h : RdVV (veil B w) v l) : RdVV w v l := by
  obtain ⟨ao, cap, e, hm, h⟩ := h
  refine ⟨ao, cap, e, hm, fun i hi => ?_⟩
  obtain ⟨b, off, u, e, hc, hr⟩ := h i hi
  exact ⟨b, off, u, e, (veil_cell hc).1, rdv_plain hr⟩
theorem rdn_plain {B : Nat → Bool} {w : World} {ao : Option Addr} {l : List Nd} (h : RdN (veil B w) ao l) : RdN w ao l := fun i hi => by
  obtain ⟨b, off, ut, un, e, c0, c1, c2, c3, c4, ht, hn⟩ := h i hi
  exact ⟨b, off, ut, un, e, (veil_cell c0).1, (veil_cell c1).1, (veil_cell c2).1, (veil_cell c3).1, (veil_cell c4).1, rdv_plain ht, rdvv_plain hn⟩
theorem bts_lit {zs : List Int} (h : zs.all (fun z => decide (0 ≤ z) && decide (z ≤ 255)) = true) : Bts zs := fun i => by
  rw [List.getD_eq_getElem?_getD]
  cases hz : zs[i]? with
  | none => simp
  | some z =>
    have := List.all_eq_true.1 h z (List.mem_of_getElem? hz)
    simpa using this
theorem print_ex {l : List Nd} (hl : l.length ≤ 100000) : ∃ o : Option ByteArray, (∀ s, o = some s → s.size ≤ 600000000) ∧ ∀ (b off cap : Nat) (w : World), RdN w (some ⟨b, off, none⟩) l → Calls Try.prog 39 #[.slice (some ⟨b, off, none⟩) l.length cap] w (vt.PrPost o w) := by
  by_cases h : vt.Short l ∧ vt.Fine l
  · exact vt.print_any hl h.1 h.2
  · exact ⟨none, fun s hs => (by cases hs), fun b off cap w hr => absurd (vt.short_of hr) h⟩
theorem fq_below {r : Nat} {w w1 w2 : World} (h : Fq r w w1) (hr : r < w1.heap.size) (hb : Below w1.heap.size w1 w2) : Fq r w w2 := h.grown (by omega) hb
set_option maxRecDepth 100000 in
set_option maxHeartbeats 1000000 in
theorem source_any {bs : List Int} (hb : Bts bs) (hl : bs.length ≤ 600) (i : Nat) : ∃ zs j, zs.length ≤ 6000 ∧ Bts zs ∧ ReadsB bs 23 i zs j := by
  obtain ⟨k1, hk1, kb1⟩ := nxn hb i
  obtain ⟨m, hm, hm8⟩ : ∃ m : Nat, (k1 : Int) % 8 = (m : Int) ∧ m < 8 := ⟨k1 % 8, by omega, by omega⟩
  by_cases h3 : m < 3
  · obtain ⟨s, j, hs, HK⟩ := known_any hb hl (nxi bs i)
    refine ⟨nums s, j, by rw [nums_length]; omega, nums_bts s, fun w0 w av cv r hr hR => ?_⟩
    have R0 : Hid (Rr w0 av cv bs w r i) := hR
    have HR : Hid (Rd w0 av bs) := hr
    have i3 : (m : Int) < 3 := by omega
    have HT : Hid (∀ W, Rr w0 av cv bs W r (nxi bs i) → Calls Try.prog 37 #[.pointer (some ⟨r, 0, none⟩)] W fun e w' => e = .returned (.string s) ∧ Rr w0 av cv bs w' r j ∧ Fq r W w') := fun W hW => HK w0 W av cv r hr hW
    clear hr hR HK
    go_enter Try.func23, Try.ntmps23
    go_wp2_with (first
      | (go_at_call 37; refine Calls.mono (HT.out _ R1.out) ?_; rintro e w2 ⟨rfl, hR2, hF2⟩; have R2 : Hid (Rr w0 av cv bs w2 r j) := hR2; have F2 : Hid (Fq r w w2) := F1.out.trans hF2; clear hR2 hF2; have kv := Lib.run_convert_string_bytes w2 9 22 5 s Try.underlying9 Try.underlying22 Try.underlying5)
      | (go_at_call 9; refine Calls.mono (next_any w0 _ av cv r _ bs HR.out hb hl R0.out) ?_; rintro e w1 ⟨rfl, hR1, hF1⟩; have R1 : Hid (Rr w0 av cv bs w1 r (nxi bs i)) := hR1; have F1 : Hid (Fq r w w1) := hF1; clear hR1 hF1; (try rw [hk1]); (try rw [hm])))
    go_returns
    exact ⟨_, rfl, (OwB.text w2 s (by unfold maxLen; omega)).mono F2.out.below.size, R2.out.keep (bel_bytes w2 s), fq_below F2.out R2.out.lt (bel_bytes w2 s)⟩
  · obtain ⟨l, j, hl0, hl6, HT0⟩ := tree_any hb hl (nxi bs i)
    obtain ⟨o, ho, HP0⟩ := print_ex (l := l) (by omega)
    have ni3 : ¬ ((m : Int) < 3) := by omega
    have frame : ∀ (zs : List Int), (zs.length ≤ 6000 ∧ Bts zs ∧ ∀ (w0 w : World) (av : Option Addr) (cv r : Nat), Rd w0 av bs → Hid (Rr w0 av cv bs w r i) → Hid (∀ W, Rr w0 av cv bs W r (nxi bs i) → Calls Try.prog 38 #[.pointer (some ⟨r, 0, none⟩)] W fun e w' => ∃ b off c, e = .returned (.slice (some ⟨b, off, none⟩) l.length c) ∧ RdN w' (some ⟨b, off, none⟩) l ∧ Rr w0 av cv bs w' r j ∧ Fq r W w') → Calls Try.prog 23 #[.pointer (some ⟨r, 0, none⟩)] w fun e w' => ∃ v, e = .returned v ∧ OwB w' w.heap.size v zs ∧ Rr w0 av cv bs w' r j ∧ Fq r w w') → ∃ zs j, zs.length ≤ 6000 ∧ Bts zs ∧ ReadsB bs 23 i zs j := fun zs h => by
      refine ⟨zs, j, h.1, h.2.1, fun w0 w av cv r hr hR => h.2.2 w0 w av cv r hr hR (fun W hW => ?_)⟩
      refine (HT0 w0 W av cv r hr hW).mono ?_
      rintro e w' ⟨a', c', rfl, hN, hR', hF'⟩
      obtain ⟨ao, cap, e, _, hN⟩ := hN
      cases e
      have hN := rdn_plain hN
      obtain ⟨b, off, _, _, e, _⟩ := hN 0 hl0
      subst e
      exact ⟨b, off, c', rfl, hN, hR', hF'⟩
    have HPT : Hid (∀ (b off cap : Nat) (w : World), RdN w (some ⟨b, off, none⟩) l → Calls Try.prog 39 #[.slice (some ⟨b, off, none⟩) l.length cap] w (vt.PrPost o w)) := HP0
    cases o with
    | none =>
      refine frame [] ?_
      refine ⟨by simp, fun i => by simp, fun w0 w av cv r hr R0 HT => ?_⟩
      have HR : Hid (Rd w0 av bs) := hr
      clear hr HT0 HP0 frame
      go_enter Try.func23, Try.ntmps23
      go_wp2_with (first | (go_at_call 39; refine Calls.mono (HPT.out _ _ _ _ N2.out) ?_; rintro e w3 ⟨rfl, hb3⟩; have R3 : Hid (Rr w0 av cv bs w3 r j) := R2.out.keep hb3; have F3 : Hid (Fq r w w3) := fq_below F2.out R2.out.lt hb3; clear hb3) | (go_at_call 38; refine Calls.mono (HT.out _ R1.out) ?_; rintro e w2 ⟨tb, to, tc, rfl, hN2, hR2, hF2⟩; have N2 : Hid (RdN w2 (some ⟨tb, to, none⟩) l) := hN2; have R2 : Hid (Rr w0 av cv bs w2 r j) := hR2; have F2 : Hid (Fq r w w2) := F1.out.trans hF2; clear hN2 hR2 hF2) | (go_at_call 9; refine Calls.mono (next_any w0 _ av cv r _ bs HR.out hb hl R0.out) ?_; rintro e w1 ⟨rfl, hR1, hF1⟩; have R1 : Hid (Rr w0 av cv bs w1 r (nxi bs i)) := hR1; have F1 : Hid (Fq r w w1) := hF1; clear hR1 hF1; (try rw [hk1]); (try rw [hm])))
      go_returns
      exact ⟨_, rfl, OwB.nil _ _, R3.out, F3.out⟩
    | some s =>
      have hs := ho s rfl
      by_cases h6 : 6000 < s.size
      · refine frame [112, 114, 105, 110, 116, 40, 49, 41] ?_
        have j6 : (6000 : Int) < (s.size : Int) := by omega
        refine ⟨by simp, bts_lit (by decide), fun w0 w av cv r hr R0 HT => ?_⟩
        have HR : Hid (Rd w0 av bs) := hr
        clear hr HT0 HP0 frame
        go_enter Try.func23, Try.ntmps23
        go_wp2_with (first | (go_at_call 39; refine Calls.mono (HPT.out _ _ _ _ N2.out) ?_; rintro e w3 ⟨wz, hb3, rfl, rfl⟩; have hb3' : Below w2.heap.size w2 (Lib.bytesWorld wz 5 s) := vt.bup hb3 (bel_bytes wz s); have O3 : Hid (OwB (Lib.bytesWorld wz 5 s) w.heap.size (.slice (some ⟨wz.heap.size, 0, none⟩) s.size (grownCap wz s.size 0 5)) (nums s)) := (OwB.text wz s (by unfold maxLen; omega)).mono (Nat.le_trans F2.out.below.size hb3.size); have R3 : Hid (Rr w0 av cv bs (Lib.bytesWorld wz 5 s) r j) := R2.out.keep hb3'; have F3 : Hid (Fq r w (Lib.bytesWorld wz 5 s)) := fq_below F2.out R2.out.lt hb3'; clear hb3 hb3'; generalize grownCap wz s.size 0 5 = gc at O3 ⊢; generalize Lib.bytesWorld wz 5 s = W3 at O3 R3 F3 ⊢; have kv := Lib.run_convert_bytes_const W3 22 5 #[.int .u8 112, .int .u8 114, .int .u8 105, .int .u8 110, .int .u8 116, .int .u8 40, .int .u8 49, .int .u8 41] 8 8 Try.underlying22 Try.underlying5) | (go_at_call 38; refine Calls.mono (HT.out _ R1.out) ?_; rintro e w2 ⟨tb, to, tc, rfl, hN2, hR2, hF2⟩; have N2 : Hid (RdN w2 (some ⟨tb, to, none⟩) l) := hN2; have R2 : Hid (Rr w0 av cv bs w2 r j) := hR2; have F2 : Hid (Fq r w w2) := F1.out.trans hF2; clear hN2 hR2 hF2) | (go_at_call 9; refine Calls.mono (next_any w0 _ av cv r _ bs HR.out hb hl R0.out) ?_; rintro e w1 ⟨rfl, hR1, hF1⟩; have R1 : Hid (Rr w0 av cv bs w1 r (nxi bs i)) := hR1; have F1 : Hid (Fq r w w1) := hF1; clear hR1 hF1; (try rw [hk1]); (try rw [hm])))
        go_returns
        have hbL := (Below.refl W3.heap.size W3).alloc (Nat.le_refl _) (.cells #[.int .u8 112, .int .u8 114, .int .u8 105, .int .u8 110, .int .u8 116, .int .u8 40, .int .u8 49, .int .u8 41] 5 (8, 9))
        exact ⟨_, rfl, (OwB.lit W3 [112, 114, 105, 110, 116, 40, 49, 41] (by decide) 8 rfl).mono F3.out.below.size, R3.out.keep hbL, fq_below F3.out R3.out.lt hbL⟩
      · refine frame (nums s) ?_
        have j6 : ¬ ((6000 : Int) < (s.size : Int)) := by omega
        refine ⟨by rw [nums_length]; omega, nums_bts s, fun w0 w av cv r hr R0 HT => ?_⟩
        have HR : Hid (Rd w0 av bs) := hr
        clear hr HT0 HP0 frame
        go_enter Try.func23, Try.ntmps23
        go_wp2_with (first | (go_at_call 39; refine Calls.mono (HPT.out _ _ _ _ N2.out) ?_; rintro e w3 ⟨wz, hb3, rfl, rfl⟩; have hb3' : Below w2.heap.size w2 (Lib.bytesWorld wz 5 s) := vt.bup hb3 (bel_bytes wz s); have O3 : Hid (OwB (Lib.bytesWorld wz 5 s) w.heap.size (.slice (some ⟨wz.heap.size, 0, none⟩) s.size (grownCap wz s.size 0 5)) (nums s)) := (OwB.text wz s (by unfold maxLen; omega)).mono (Nat.le_trans F2.out.below.size hb3.size); have R3 : Hid (Rr w0 av cv bs (Lib.bytesWorld wz 5 s) r j) := R2.out.keep hb3'; have F3 : Hid (Fq r w (Lib.bytesWorld wz 5 s)) := fq_below F2.out R2.out.lt hb3'; clear hb3 hb3'; generalize grownCap wz s.size 0 5 = gc at O3 ⊢; generalize Lib.bytesWorld wz 5 s = W3 at O3 R3 F3 ⊢) | (go_at_call 38; refine Calls.mono (HT.out _ R1.out) ?_; rintro e w2 ⟨tb, to, tc, rfl, hN2, hR2, hF2⟩; have N2 : Hid (RdN w2 (some ⟨tb, to, none⟩) l) := hN2; have R2 : Hid (Rr w0 av cv bs w2 r j) := hR2; have F2 : Hid (Fq r w w2) := F1.out.trans hF2; clear hN2 hR2 hF2) | (go_at_call 9; refine Calls.mono (next_any w0 _ av cv r _ bs HR.out hb hl R0.out) ?_; rintro e w1 ⟨rfl, hR1, hF1⟩; have R1 : Hid (Rr w0 av cv bs w1 r (nxi bs i)) := hR1; have F1 : Hid (Fq r w w1) := hF1; clear hR1 hF1; (try rw [hk1]); (try rw [hm])))
        go_returns
        exact ⟨_, rfl, O3.out, R3.out, F3.out⟩
def ReadsI (bs : List Int) (f : Nat) (i : Nat) (a : Int) (j : Nat) : Prop := ∀ (w0 w : World) (av : Option Addr) (cv r : Nat), Rd w0 av bs → Rr w0 av cv bs w r i →
  Calls Try.prog f #[.pointer (some ⟨r, 0, none⟩)] w fun e w' => e = .returned (.int .i64 a) ∧ Rr w0 av cv bs w' r j ∧ Fq r w w'
def oddL : List Int := [0, 1, -1, 2, 3, 7, -7, 10, 100, 9223372036854775807, -9223372036854775808, 4294967296, -3]
set_option maxRecDepth 100000 in
set_option maxHeartbeats 1000000 in
theorem drawInt_low {bs : List Int} (hb : Bts bs) (hl : bs.length ≤ 600) (i k1 : Nat) (hk1 : nx bs i = (k1 : Int)) (h2 : k1 < 200) (m : Nat) (hm : (k1 : Int) % 13 = (m : Int)) (hm13 : m < 13) : ReadsI bs 26 i (oddL.getD m 0) (nxi bs i) := by
  intro w0 w av cv r hr hR
  have R0 : Hid (Rr w0 av cv bs w r i) := hR
  have HR : Hid (Rd w0 av bs) := hr
  have i2 : (k1 : Int) < 200 := by omega
  have tm : (k1 : Int).tmod 13 = (m : Int) := by rw [Int.tmod_eq_emod_of_nonneg (by omega)]; exact hm
  clear hr hR
  go_enter Try.func26, Try.ntmps26
  go_wp2_with (first
    | (go_at_call 9; refine Calls.mono (next_any w0 _ av cv r _ bs HR.out hb hl R0.out) ?_; rintro e w1 ⟨rfl, hR1, hF1⟩; have R1 : Hid (Rr w0 av cv bs w1 r (nxi bs i)) := hR1; have F1 : Hid (Fq r w w1) := hF1; clear hR1 hF1; (try rw [hk1]); (try rw [hm])))
  go_returns
  have hbL := (Below.refl w1.heap.size w1).alloc (Nat.le_refl _) (.cells #[.int .i64 0, .int .i64 1, .int .i64 (-1), .int .i64 2, .int .i64 3, .int .i64 7, .int .i64 (-7), .int .i64 10, .int .i64 100, .int .i64 9223372036854775807, .int .i64 (-9223372036854775808), .int .i64 4294967296, .int .i64 (-3)] 3)
  refine ⟨?_, R1.out.keep hbL, fq_below F1.out R1.out.lt hbL⟩
  have e13 : m = 0 ∨ m = 1 ∨ m = 2 ∨ m = 3 ∨ m = 4 ∨ m = 5 ∨ m = 6 ∨ m = 7 ∨ m = 8 ∨ m = 9 ∨ m = 10 ∨ m = 11 ∨ m = 12 := by omega
  rcases e13 with rfl | rfl | rfl | rfl | rfl | rfl | rfl | rfl | rfl | rfl | rfl | rfl | rfl <;> rfl
set_option maxRecDepth 100000 in
set_option maxHeartbeats 1000000 in
theorem drawInt_high {bs : List Int} (hb : Bts bs) (hl : bs.length ≤ 600) (i k1 k2 : Nat) (hk1 : nx bs i = (k1 : Int)) (h2 : 200 ≤ k1) (h255 : k1 ≤ 255) (hk2 : nx bs (nxi bs i) = (k2 : Int)) (h255' : k2 ≤ 255) (m : Nat) (hm : (k2 : Int) % 50 = (m : Int)) (_hm50 : m < 50) : ReadsI bs 26 i (wrap64 (((k1 : Int) - 220) * wrap64 (2 ^ m))) (nxi bs (nxi bs i)) := by
  intro w0 w av cv r hr hR
  have R0 : Hid (Rr w0 av cv bs w r i) := hR
  have HR : Hid (Rd w0 av bs) := hr
  have i2 : ¬ ((k1 : Int) < 200) := by omega
  clear hr hR
  go_enter Try.func26, Try.ntmps26
  go_wp2_with (first
    | (go_at_call 9; refine Calls.mono (next_any w0 _ av cv r _ bs HR.out hb hl R1.out) ?_; rintro e w2 ⟨rfl, hR2, hF2⟩; have R2 : Hid (Rr w0 av cv bs w2 r (nxi bs (nxi bs i))) := hR2; have F2 : Hid (Fq r w w2) := F1.out.trans hF2; clear hR2 hF2; (try rw [hk2]); (try rw [hm]))
    | (go_at_call 9; refine Calls.mono (next_any w0 _ av cv r _ bs HR.out hb hl R0.out) ?_; rintro e w1 ⟨rfl, hR1, hF1⟩; have hbL := (Below.refl w1.heap.size w1).alloc (Nat.le_refl _) (.cells #[.int .i64 0, .int .i64 1, .int .i64 (-1), .int .i64 2, .int .i64 3, .int .i64 7, .int .i64 (-7), .int .i64 10, .int .i64 100, .int .i64 9223372036854775807, .int .i64 (-9223372036854775808), .int .i64 4294967296, .int .i64 (-3)] 3); have R1 : Hid (Rr w0 av cv bs (w1.alloc (.cells #[.int .i64 0, .int .i64 1, .int .i64 (-1), .int .i64 2, .int .i64 3, .int .i64 7, .int .i64 (-7), .int .i64 10, .int .i64 100, .int .i64 9223372036854775807, .int .i64 (-9223372036854775808), .int .i64 4294967296, .int .i64 (-3)] 3)) r (nxi bs i)) := hR1.keep hbL; have F1 : Hid (Fq r w (w1.alloc (.cells #[.int .i64 0, .int .i64 1, .int .i64 (-1), .int .i64 2, .int .i64 3, .int .i64 7, .int .i64 (-7), .int .i64 10, .int .i64 100, .int .i64 9223372036854775807, .int .i64 (-9223372036854775808), .int .i64 4294967296, .int .i64 (-3)] 3))) := fq_below hF1 hR1.lt hbL; clear hR1 hF1 hbL; (try rw [hk1])))
  go_returns
  exact ⟨rfl, R2.out, F2.out⟩
theorem drawInt_any {bs : List Int} (hb : Bts bs) (hl : bs.length ≤ 600) (i : Nat) : ∃ a j, (-9223372036854775808 ≤ a ∧ a ≤ 9223372036854775807) ∧ ReadsI bs 26 i a j := by
  obtain ⟨k1, hk1, kb1⟩ := nxn hb i
  by_cases h2 : k1 < 200
  · obtain ⟨m, hm, hm13⟩ : ∃ m : Nat, (k1 : Int) % 13 = (m : Int) ∧ m < 13 := ⟨k1 % 13, by omega, by omega⟩
    refine ⟨_, _, ?_, drawInt_low hb hl i k1 hk1 h2 m hm hm13⟩
    have e13 : m = 0 ∨ m = 1 ∨ m = 2 ∨ m = 3 ∨ m = 4 ∨ m = 5 ∨ m = 6 ∨ m = 7 ∨ m = 8 ∨ m = 9 ∨ m = 10 ∨ m = 11 ∨ m = 12 := by omega
    rcases e13 with rfl | rfl | rfl | rfl | rfl | rfl | rfl | rfl | rfl | rfl | rfl | rfl | rfl <;> decide
  · obtain ⟨k2, hk2, kb2⟩ := nxn hb (nxi bs i)
    obtain ⟨m, hm, hm50⟩ : ∃ m : Nat, (k2 : Int) % 50 = (m : Int) ∧ m < 50 := ⟨k2 % 50, by omega, by omega⟩
    refine ⟨_, _, ?_, drawInt_high hb hl i k1 k2 hk1 (by omega) kb1 hk2 kb2 m hm hm50⟩
    unfold wrap64
    omega
theorem fmt_own (a : Int) (h0 : -9223372036854775808 ≤ a) (h1 : a ≤ 9223372036854775807) (w : World) : Calls Try.prog 25 #[.int .i64 a] w fun x w' => ∃ v, x = .returned v ∧ OwB w' w.heap.size v (fi a) ∧ Below w.heap.size w w' := by
  have C : Calls Try.prog 25 #[.int .i64 a] w (FmtPost a (fi a).length w) := by
    by_cases h : 0 ≤ a
    · exact specFmt_pos a h h1 w
    · exact specFmt_neg a h0 (by omega) w
  refine C.mono ?_
  rintro x w' ⟨hb, ao, c, rfl, ho⟩
  exact ⟨_, rfl, OwB.own ho rfl, hb⟩
theorem bts_take {zs : List Int} (h : Bts zs) (n : Nat) : Bts (zs.take n) := fun i => by
  rw [List.getD_eq_getElem?_getD, List.getElem?_take]
  split
  · rw [← List.getD_eq_getElem?_getD]; exact h i
  · simp
theorem rd_take {w : World} {av : Option Addr} {zs : List Int} (h : Rd w av zs) (n : Nat) : Rd w av (zs.take n) := fun i hi => by
  rw [List.length_take] at hi
  obtain ⟨b, off, e, hc⟩ := h i (by omega)
  refine ⟨b, off, e, ?_⟩
  rw [List.getD_eq_getElem?_getD, List.getElem?_take, if_pos (by omega), ← List.getD_eq_getElem?_getD]
  exact hc
def DrawsB (f : Nat) (zs ys : List Int) : Prop := ∀ (w : World) (av : Option Addr) (cv : Nat), Rd w av zs → zs.length ≤ cv → cv ≤ 9223372036854775807 →
  Calls Try.prog f #[.slice av zs.length cv] w fun e w' => ∃ v, e = .returned v ∧ OwB w' w.heap.size v ys ∧ Below w.heap.size w w'
set_option maxRecDepth 100000 in
set_option maxHeartbeats 1000000 in
theorem scan_high {zs : List Int} (hz : Bts zs) (k1 : Nat) (hk1 : nx (zs.take 600) 0 = (k1 : Int)) (h220 : 220 ≤ k1) (a : Int) (j : Nat) (h0 : -9223372036854775808 ≤ a) (h1 : a ≤ 9223372036854775807) (HI : ReadsI (zs.take 600) 26 (nxi (zs.take 600) 0) a j) : DrawsB 12 zs (fi a) := by
  intro w av cv hr hc hm
  have hl : (zs.take 600).length ≤ 600 := by rw [List.length_take]; omega
  have hb : Bts (zs.take 600) := bts_take hz 600
  have hr6 : Hid (Rd w av (zs.take 600)) := rd_take hr 600
  have HI : Hid (ReadsI (zs.take 600) 26 (nxi (zs.take 600) 0) a j) := HI
  have g1 : ¬ ((k1 : Int) < 160) := by omega
  have g2 : ¬ ((k1 : Int) < 200) := by omega
  have g3 : ¬ ((k1 : Int) < 220) := by omega
  have OP : Hid (Calls Try.prog 8 #[.slice av zs.length cv] w fun e w' => ∃ r, e = .returned (.pointer (some ⟨r, 0, none⟩)) ∧ Rr w av cv (zs.take 600) w' r 0 ∧ Below w.heap.size w w' ∧ r = w.heap.size) := open_any w av cv zs hc hm
  go_enter Try.func12, Try.ntmps12
  go_wp2_with (first
    | (go_at_call 25; refine Calls.mono (fmt_own a h0 h1 _) ?_; rintro e w4 ⟨v, rfl, hO, hB⟩; have O4 : Hid (OwB w4 w.heap.size v (fi a)) := hO.mono B3.out.size; have B4 : Hid (Below w.heap.size w w4) := vt.bup B3.out hB; clear hO hB)
    | (go_at_call 26; refine Calls.mono (HI.out w _ av cv r hr6.out (R2.out.keep ((Below.refl _ _).alloc (Nat.le_refl _) _))) ?_; rintro e w3 ⟨rfl, hR3, hF3⟩; have B3 : Hid (Below w.heap.size w w3) := (vt.bup B2.out ((Below.refl _ _).alloc (Nat.le_refl _) _)).trans (HRW.out ▸ hF3.below); clear hR3 hF3)
    | (go_at_call 9; refine Calls.mono (next_any w _ av cv r _ _ hr6.out hb hl R1.out) ?_; rintro e w2 ⟨rfl, hR2, hF2⟩; have R2 : Hid (Rr w av cv (zs.take 600) w2 r (nxi (zs.take 600) 0)) := hR2; have B2 : Hid (Below w.heap.size w w2) := B1.out.trans (HRW.out ▸ hF2.below); clear hR2 hF2; (try rw [hk1]))
    | (go_at_call 8; refine OP.out.mono ?_; rintro e w1 ⟨r, rfl, hR1, hB1, hrw⟩; have R1 : Hid (Rr w av cv (zs.take 600) w1 r 0) := hR1; have B1 : Hid (Below w.heap.size w w1) := hB1; have HRW : Hid (r = w.heap.size) := hrw; clear hR1 hB1 hrw))
  go_returns
  exact ⟨v, rfl, O4.out, B4.out⟩
end Go.Proofs.Ytepbddfpdlapbaa.tk
