import Derived.Test.YtepbddfpdlapbaaMSkScan
namespace Go.Proofs.Ytepbddfpdlapbaa.tk
open Go.RowKit Go.Proofs.Ytepbddfpdlapbaa.bts Go.Proofs.Ytepbddfpdlapbaa.nod Go.Proofs.Ytepbddfpdlapbaa.fmt
def scanL : List ByteArray := [{ data := #[] }, { data := #[48] }, { data := #[48, 48] }, { data := #[49, 50] }, { data := #[48, 120] }, { data := #[48, 88, 49, 102] }, { data := #[48, 120, 70, 70, 70, 70, 70, 70, 70, 70, 70, 70, 70, 70, 70, 70, 70, 70] }, { data := #[49, 56, 52, 52, 54, 55, 52, 52, 48, 55, 51, 55, 48, 57, 53, 53, 49, 54, 49, 54] }, { data := #[57, 50, 50, 51, 51, 55, 50, 48, 51, 54, 56, 53, 52, 55, 55, 53, 56, 48, 56] }, { data := #[45, 49] }, { data := #[49, 97] }, { data := #[48, 120, 103] }, { data := #[120, 49] }, { data := #[48, 120, 49, 48, 48, 48, 48, 48, 48, 48, 48, 48, 48, 48, 48, 48, 48, 48, 48] }, { data := #[49, 32] }, { data := #[48, 48, 55] }]
theorem scanL_size {m : Nat} (h : m < 16) : (scanL.getD m default).size ≤ 100 := by
  have h3 : m < scanL.length := h
  rw [List.getD_eq_getElem?_getD, List.getElem?_eq_getElem h3]
  have hall : scanL.all (fun s => decide (s.size ≤ 100)) = true := by decide
  have := List.all_eq_true.1 hall _ (List.getElem_mem h3)
  simpa using this
set_option maxRecDepth 100000 in
set_option maxHeartbeats 1000000 in
theorem scan_list {zs : List Int} (hz : Bts zs) (k1 : Nat) (hk1 : nx (zs.take 600) 0 = (k1 : Int)) (h160 : k1 < 160) (m : Nat) (hm : (k1 : Int) % 16 = (m : Int)) (hm16 : m < 16) : DrawsB 12 zs (nums (scanL.getD m default)) := by
  intro w av cv hr hc hm0
  have hl : (zs.take 600).length ≤ 600 := by rw [List.length_take]; omega
  have hb : Bts (zs.take 600) := bts_take hz 600
  have hr6 : Hid (Rd w av (zs.take 600)) := rd_take hr 600
  have g1 : (k1 : Int) < 160 := by omega
  have i0 : (0 : Int) ≤ (m : Int) := by omega
  have i1 : (m : Int) < 16 := by omega
  have OP : Hid (Calls Try.prog 8 #[.slice av zs.length cv] w fun e w' => ∃ r, e = .returned (.pointer (some ⟨r, 0, none⟩)) ∧ Rr w av cv (zs.take 600) w' r 0 ∧ Below w.heap.size w w' ∧ r = w.heap.size) := open_any w av cv zs hc hm0
  have HT : Hid (∀ (W W3 : World), W3 = W.alloc (.cells #[.string { data := #[] }, .string { data := #[48] }, .string { data := #[48, 48] }, .string { data := #[49, 50] }, .string { data := #[48, 120] }, .string { data := #[48, 88, 49, 102] }, .string { data := #[48, 120, 70, 70, 70, 70, 70, 70, 70, 70, 70, 70, 70, 70, 70, 70, 70, 70] }, .string { data := #[49, 56, 52, 52, 54, 55, 52, 52, 48, 55, 51, 55, 48, 57, 53, 53, 49, 54, 49, 54] }, .string { data := #[57, 50, 50, 51, 51, 55, 50, 48, 51, 54, 56, 53, 52, 55, 55, 53, 56, 48, 56] }, .string { data := #[45, 49] }, .string { data := #[49, 97] }, .string { data := #[48, 120, 103] }, .string { data := #[120, 49] }, .string { data := #[48, 120, 49, 48, 48, 48, 48, 48, 48, 48, 48, 48, 48, 48, 48, 48, 48, 48, 48] }, .string { data := #[49, 32] }, .string { data := #[48, 48, 55] }] 9) → W3.cell? ⟨W.heap.size, m, none⟩ = some (.string (scanL.getD m default)) ∧ Below W.heap.size W W3) := fun W W3 h => by
    have e : W3.heap[W.heap.size]? = some (.cells (scanL.map Value.string).toArray 9) := by rw [h]; exact heap_alloc_new _ _
    refine ⟨?_, by rw [h]; exact (Below.refl _ _).alloc (Nat.le_refl _) _⟩
    unfold World.cell?
    rw [e]
    have h3 : m < scanL.length := hm16
    simp [List.getElem?_map, List.getElem?_eq_getElem h3, List.getD_eq_getElem?_getD]
  have hz := scanL_size hm16
  generalize scanL.getD m default = t at HT hz
  clear hr
  go_enter Try.func12, Try.ntmps12
  go_wp2_with (first
    | (go_at_call 9; refine Calls.mono (next_any w _ av cv r _ _ hr6.out hb hl R1.out) ?_; rintro e w2 ⟨rfl, hR2, hF2⟩; have B2 : Hid (Below w.heap.size w w2) := B1.out.trans (HRW.out ▸ hF2.below); clear hR2 hF2; (try rw [hk1]); (try rw [hm]); obtain ⟨ct, hbA⟩ := HT.out w2 _ rfl; have kv := fun (W3 : World) (_ : W3.cell? ⟨w2.heap.size, m, none⟩ = some (.string t)) => Lib.run_convert_string_bytes (P := Try.prog) W3 9 22 5 t Try.underlying9 Try.underlying22 Try.underlying5; have kv := kv _ ct; have hO := fun (W3 : World) (_ : W3.cell? ⟨w2.heap.size, m, none⟩ = some (.string t)) => OwB.text W3 t (by unfold maxLen; omega); have hO := hO _ ct; simp only [World.size_alloc] at hO kv; have O3 : Hid _ := hO; clear hO; have B3 : Hid _ := vt.bup B2.out hbA; clear hbA)
    | (go_at_call 8; refine OP.out.mono ?_; rintro e w1 ⟨r, rfl, hR1, hB1, hrw⟩; have R1 : Hid (Rr w av cv (zs.take 600) w1 r 0) := hR1; have B1 : Hid (Below w.heap.size w w1) := hB1; have HRW : Hid (r = w.heap.size) := hrw; clear hR1 hB1 hrw))
  go_returns
  exact ⟨_, rfl, OwB.mono O3.out (Nat.le_succ_of_le B2.out.size), vt.bup B3.out (bel_bytes _ t)⟩
theorem wpList_append_owb {ops : Array Oper} {rest : List Oper} {o : Oper} {a : Act} {Q : Exit → Act → World → Prop} {w : World} (hgd : o.guard = none) (s x : Operand)
    (ho : o.op = .call { callee := .builtin .append, args := #[s, x], argTypes := #[22, 22] }) {base : Nat} {v : Value} {zs : List Int} (hs : a.eval s = v) (hown : OwB w base v zs) (ao : Option Addr) (m cx : Nat) (ys : List Int) (hx : a.eval x = .slice ao m cx) (hm : ys.length = m) (hr : Rd w ao ys) (hb : zs.length + m ≤ 1000000000) (hbase : base ≤ w.heap.size)
    (h : ∀ v' w', OwB w' base v' (zs ++ ys) → w.grownBy w' v.ownBlock → wpList Try.prog ops Q rest (a.put o.dst v') w') : wpList Try.prog ops Q (o :: rest) a w := by
  refine wpList_plain hgd fun K hK => ?_
  obtain ⟨v', w', h2, h3, h4⟩ := append_owb hown ao m cx ys hm hr hb hbase o.type
  unfold Oper.wp execOp
  simp only [ho, resolve, invoke, builtin, Sem.run_bind, Sem.run_pure, Result.andThen_ok, List.map_toArray, List.map_cons, List.map_nil, hs, hx, h2]
  exact hK _ _ (h v' w' h3 h4)
theorem bts_rep (n : Nat) (c : Int) (hc : 0 ≤ c ∧ c ≤ 255) : Bts (List.replicate n c) := fun i => by
  rw [List.getD_eq_getElem?_getD, List.getElem?_replicate]
  split
  · exact hc
  · simp
set_option maxRecDepth 100000 in
set_option maxHeartbeats 1000000 in
theorem scan_fill {zs : List Int} (hz : Bts zs) (k1 : Nat) (hk1 : nx (zs.take 600) 0 = (k1 : Int)) (h160 : 160 ≤ k1) (h200 : k1 < 200) (m : Nat) (hm : (k1 : Int) % 3 = (m : Int)) (_hm3 : m < 3) : DrawsB 12 zs (List.replicate (39 + m) 57) := by
  intro w av cv hr hc hm0
  have hl : (zs.take 600).length ≤ 600 := by rw [List.length_take]; omega
  have hb : Bts (zs.take 600) := bts_take hz 600
  have hr6 : Hid (Rd w av (zs.take 600)) := rd_take hr 600
  have g1 : ¬ ((k1 : Int) < 160) := by omega
  have g2 : (k1 : Int) < 200 := by omega
  have OP : Hid (Calls Try.prog 8 #[.slice av zs.length cv] w fun e w' => ∃ r, e = .returned (.pointer (some ⟨r, 0, none⟩)) ∧ Rr w av cv (zs.take 600) w' r 0 ∧ Below w.heap.size w w' ∧ r = w.heap.size) := open_any w av cv zs hc hm0
  have FL : Hid (∀ W, Calls Try.prog 22 #[.int .u8 57, .int .i64 (39 + (m : Int))] W fun x w' => ∃ ao cp, x = .returned (.slice ao (39 + m) cp) ∧ w'.ownsRow W.heap.size 5 1 (.slice ao (39 + m) cp) (39 + m) (bcells (List.replicate (39 + m) 57)) ∧ Below W.heap.size W w') := fun W => fill_any 57 (39 + m) (by omega) (by omega) W
  clear hr
  go_enter Try.func12, Try.ntmps12
  go_wp2_with (first
    | (go_at_call 22; (try rw [hm]); refine Calls.mono (FL.out _) ?_; rintro e w4 ⟨ao, cp, rfl, hO, hB⟩; have B4 : Hid (Below w.heap.size w w4) := vt.bup (vt.bup B2.out ((Below.refl _ _).alloc (Nat.le_refl _) _)) hB; have O4 : Hid (OwB w4 w.heap.size (.slice ao (39 + m) cp) (List.replicate (39 + m) 57)) := (OwB.own hO (by simp)).mono (by have := B2.out.size; simp; omega); clear hO hB)
    | (go_at_call 9; refine Calls.mono (next_any w _ av cv r _ _ hr6.out hb hl R1.out) ?_; rintro e w2 ⟨rfl, hR2, hF2⟩; have B2 : Hid (Below w.heap.size w w2) := B1.out.trans (HRW.out ▸ hF2.below); clear hR2 hF2; (try rw [hk1]))
    | (go_at_call 8; refine OP.out.mono ?_; rintro e w1 ⟨r, rfl, hR1, hB1, hrw⟩; have R1 : Hid (Rr w av cv (zs.take 600) w1 r 0) := hR1; have B1 : Hid (Below w.heap.size w w1) := hB1; have HRW : Hid (r = w.heap.size) := hrw; clear hR1 hB1 hrw))
  go_returns
  exact ⟨_, rfl, O4.out, B4.out⟩
set_option maxRecDepth 100000 in
set_option maxHeartbeats 1000000 in
theorem scan_hexs {zs : List Int} (hz : Bts zs) (k1 : Nat) (hk1 : nx (zs.take 600) 0 = (k1 : Int)) (h160 : 200 ≤ k1) (h200 : k1 < 220) (m : Nat) (hm : (k1 : Int) % 3 = (m : Int)) (_hm3 : m < 3) : DrawsB 12 zs ([48, 120] ++ List.replicate (37 + m) 97) := by
  intro w av cv hr hc hm0
  have hl : (zs.take 600).length ≤ 600 := by rw [List.length_take]; omega
  have hb : Bts (zs.take 600) := bts_take hz 600
  have hr6 : Hid (Rd w av (zs.take 600)) := rd_take hr 600
  have g1 : ¬ ((k1 : Int) < 160) := by omega
  have g2 : ¬ ((k1 : Int) < 200) := by omega
  have g3 : (k1 : Int) < 220 := by omega
  have OP : Hid (Calls Try.prog 8 #[.slice av zs.length cv] w fun e w' => ∃ r, e = .returned (.pointer (some ⟨r, 0, none⟩)) ∧ Rr w av cv (zs.take 600) w' r 0 ∧ Below w.heap.size w w' ∧ r = w.heap.size) := open_any w av cv zs hc hm0
  have FL : Hid (∀ W, Calls Try.prog 22 #[.int .u8 97, .int .i64 (37 + (m : Int))] W fun x w' => ∃ ao cp, x = .returned (.slice ao (37 + m) cp) ∧ w'.ownsRow W.heap.size 5 1 (.slice ao (37 + m) cp) (37 + m) (bcells (List.replicate (37 + m) 97)) ∧ Below W.heap.size W w') := fun W => fill_any 97 (37 + m) (by omega) (by omega) W
  clear hr
  go_enter Try.func12, Try.ntmps12
  go_wp2_with (first
    | (at_builtin; refine wpList_append_owb rfl _ _ rfl (v := .slice (some ⟨w2.heap.size + 1, 0, none⟩) 2 2) rfl O5.out ao (37 + m) cp (List.replicate (37 + m) 97) rfl (by simp) RD5.out (by simp; omega) B4.out.size ?_; intro v6 w6 hO6 hG6; have O6 : Hid (OwB w6 w.heap.size v6 ([48, 120] ++ List.replicate (37 + m) 97)) := hO6; have B6 : Hid (Below w.heap.size w w6) := B4.out.grown hG6 B4.out.size (fun q hq => by simp only [Value.ownBlock, Option.some.injEq] at hq; have := B2.out.size; omega); clear hO6 hG6)
    | (go_at_call 22; (try rw [hm]); refine Calls.mono (FL.out _) ?_; rintro e w4 ⟨ao, cp, rfl, hO, hB⟩; have B4 : Hid (Below w.heap.size w w4) := vt.bup B3.out hB; have O5 : Hid (OwB w4 w.heap.size (.slice (some ⟨w2.heap.size + 1, 0, none⟩) 2 2) [48, 120]) := O3.out.below hB; have RD5 : Hid (Rd w4 ao (List.replicate (37 + m) 97)) := (by obtain ⟨_, _, e, _, _, hr, _⟩ := (OwB.own hO (by simp)).rd; simp only [Value.slice.injEq] at e; obtain ⟨rfl, _, _⟩ := e; exact hr); clear hO hB)
    | (go_at_call 9; refine Calls.mono (next_any w _ av cv r _ _ hr6.out hb hl R1.out) ?_; rintro e w2 ⟨rfl, hR2, hF2⟩; have B2 : Hid (Below w.heap.size w w2) := B1.out.trans (HRW.out ▸ hF2.below); clear hR2 hF2; (try rw [hk1]); have kv := Joins.run_convert_bytes_const_at (P := Try.prog) (w2.alloc (.cells #[.string { data := #[] }, .string { data := #[48] }, .string { data := #[48, 48] }, .string { data := #[49, 50] }, .string { data := #[48, 120] }, .string { data := #[48, 88, 49, 102] }, .string { data := #[48, 120, 70, 70, 70, 70, 70, 70, 70, 70, 70, 70, 70, 70, 70, 70, 70, 70] }, .string { data := #[49, 56, 52, 52, 54, 55, 52, 52, 48, 55, 51, 55, 48, 57, 53, 53, 49, 54, 49, 54] }, .string { data := #[57, 50, 50, 51, 51, 55, 50, 48, 51, 54, 56, 53, 52, 55, 55, 53, 56, 48, 56] }, .string { data := #[45, 49] }, .string { data := #[49, 97] }, .string { data := #[48, 120, 103] }, .string { data := #[120, 49] }, .string { data := #[48, 120, 49, 48, 48, 48, 48, 48, 48, 48, 48, 48, 48, 48, 48, 48, 48, 48, 48] }, .string { data := #[49, 32] }, .string { data := #[48, 48, 55] }] 9)) 22 5 #[.int .u8 48, .int .u8 120] 2 2 (w2.heap.size + 1) (by simp) Try.underlying22 Try.underlying5; have B3 : Hid (Below w.heap.size w ((w2.alloc (.cells #[.string { data := #[] }, .string { data := #[48] }, .string { data := #[48, 48] }, .string { data := #[49, 50] }, .string { data := #[48, 120] }, .string { data := #[48, 88, 49, 102] }, .string { data := #[48, 120, 70, 70, 70, 70, 70, 70, 70, 70, 70, 70, 70, 70, 70, 70, 70, 70] }, .string { data := #[49, 56, 52, 52, 54, 55, 52, 52, 48, 55, 51, 55, 48, 57, 53, 53, 49, 54, 49, 54] }, .string { data := #[57, 50, 50, 51, 51, 55, 50, 48, 51, 54, 56, 53, 52, 55, 55, 53, 56, 48, 56] }, .string { data := #[45, 49] }, .string { data := #[49, 97] }, .string { data := #[48, 120, 103] }, .string { data := #[120, 49] }, .string { data := #[48, 120, 49, 48, 48, 48, 48, 48, 48, 48, 48, 48, 48, 48, 48, 48, 48, 48, 48] }, .string { data := #[49, 32] }, .string { data := #[48, 48, 55] }] 9)).alloc (.cells #[.int .u8 48, .int .u8 120] 5 (2, 3)))) := vt.bup B2.out (((Below.refl _ _).alloc (Nat.le_refl _) _).alloc (by simp) _); have O3 : Hid (OwB ((w2.alloc (.cells #[.string { data := #[] }, .string { data := #[48] }, .string { data := #[48, 48] }, .string { data := #[49, 50] }, .string { data := #[48, 120] }, .string { data := #[48, 88, 49, 102] }, .string { data := #[48, 120, 70, 70, 70, 70, 70, 70, 70, 70, 70, 70, 70, 70, 70, 70, 70, 70] }, .string { data := #[49, 56, 52, 52, 54, 55, 52, 52, 48, 55, 51, 55, 48, 57, 53, 53, 49, 54, 49, 54] }, .string { data := #[57, 50, 50, 51, 51, 55, 50, 48, 51, 54, 56, 53, 52, 55, 55, 53, 56, 48, 56] }, .string { data := #[45, 49] }, .string { data := #[49, 97] }, .string { data := #[48, 120, 103] }, .string { data := #[120, 49] }, .string { data := #[48, 120, 49, 48, 48, 48, 48, 48, 48, 48, 48, 48, 48, 48, 48, 48, 48, 48, 48] }, .string { data := #[49, 32] }, .string { data := #[48, 48, 55] }] 9)).alloc (.cells #[.int .u8 48, .int .u8 120] 5 (2, 3))) w.heap.size (.slice (some ⟨w2.heap.size + 1, 0, none⟩) 2 2) [48, 120]) := (by have h := (OwB.lit (w2.alloc (.cells #[.string { data := #[] }, .string { data := #[48] }, .string { data := #[48, 48] }, .string { data := #[49, 50] }, .string { data := #[48, 120] }, .string { data := #[48, 88, 49, 102] }, .string { data := #[48, 120, 70, 70, 70, 70, 70, 70, 70, 70, 70, 70, 70, 70, 70, 70, 70, 70] }, .string { data := #[49, 56, 52, 52, 54, 55, 52, 52, 48, 55, 51, 55, 48, 57, 53, 53, 49, 54, 49, 54] }, .string { data := #[57, 50, 50, 51, 51, 55, 50, 48, 51, 54, 56, 53, 52, 55, 55, 53, 56, 48, 56] }, .string { data := #[45, 49] }, .string { data := #[49, 97] }, .string { data := #[48, 120, 103] }, .string { data := #[120, 49] }, .string { data := #[48, 120, 49, 48, 48, 48, 48, 48, 48, 48, 48, 48, 48, 48, 48, 48, 48, 48, 48] }, .string { data := #[49, 32] }, .string { data := #[48, 48, 55] }] 9)) [48, 120] (by decide) 2 rfl).mono (base' := w.heap.size) (by have := B2.out.size; rw [World.size_alloc]; omega); rw [World.size_alloc] at h; exact h))
    | (go_at_call 8; refine OP.out.mono ?_; rintro e w1 ⟨r, rfl, hR1, hB1, hrw⟩; have R1 : Hid (Rr w av cv (zs.take 600) w1 r 0) := hR1; have B1 : Hid (Below w.heap.size w w1) := hB1; have HRW : Hid (r = w.heap.size) := hrw; clear hR1 hB1 hrw))
  go_returns
  exact ⟨_, rfl, O6.out, B6.out⟩
theorem drawScan_any {zs : List Int} (hz : Bts zs) : ∃ ys, ys.length ≤ 100 ∧ Bts ys ∧ DrawsB 12 zs ys := by
  have hb := bts_take hz 600
  obtain ⟨k1, hk1, kb1⟩ := nxn hb 0
  by_cases h1 : k1 < 160
  · exact ⟨_, by rw [nums_length]; exact scanL_size (m := k1 % 16) (by omega), nums_bts _, scan_list hz k1 hk1 h1 (k1 % 16) (by omega) (by omega)⟩
  obtain ⟨m, hm, hm3⟩ : ∃ m : Nat, (k1 : Int) % 3 = (m : Int) ∧ m < 3 := ⟨k1 % 3, by omega, by omega⟩
  by_cases h2 : k1 < 200
  · exact ⟨_, by simp; omega, bts_rep _ _ (by omega), scan_fill hz k1 hk1 (by omega) h2 m hm hm3⟩
  by_cases h3 : k1 < 220
  · refine ⟨_, by simp; omega, fun i => ?_, scan_hexs hz k1 hk1 (by omega) h3 m hm hm3⟩
    match i with
    | 0 => simp
    | 1 => simp
    | i + 2 => exact bts_rep (37 + m) 97 (by omega) i
  · obtain ⟨a, j, ha, HI⟩ := drawInt_any hb (by rw [List.length_take]; omega) (nxi (zs.take 600) 0)
    exact ⟨_, Nat.le_trans (fi_len a ha.1 ha.2) (by omega), vt.ib_bts _, scan_high hz k1 hk1 (by omega) a j ha.1 ha.2 HI⟩
set_option maxRecDepth 100000 in
set_option maxHeartbeats 1000000 in
theorem any_plain {bs : List Int} (hb : Bts bs) (hl : bs.length ≤ 600) (i k1 : Nat) (hk1 : nx bs i = (k1 : Int)) (kb1 : k1 ≤ 255) (_n5 : ¬ k1 = 5) (n6 : ¬ k1 = 6) (n7 : ¬ k1 = 7) (n8 : ¬ k1 = 8) (n9 : ¬ k1 = 9) (n16 : ¬ k1 % 16 = 10) (n4 : ¬ k1 % 4 = 1) {zs : List Int} {j : Nat} (HS : ReadsB bs 23 (nxi bs i) zs j) : ReadsB bs 10 i zs j := by
  intro w0 w av cv r hr hR
  have R0 : Hid (Rr w0 av cv bs w r i) := hR
  have HR : Hid (Rd w0 av bs) := hr
  have HS : Hid (∀ W, Rr w0 av cv bs W r (nxi bs i) → Calls Try.prog 23 #[.pointer (some ⟨r, 0, none⟩)] W fun e w' => ∃ v, e = .returned v ∧ OwB w' W.heap.size v zs ∧ Rr w0 av cv bs w' r j ∧ Fq r W w') := fun W hW => HS w0 W av cv r hr hW
  have e5 : ((k1 : Int) == 5) = false := by simp; omega
  have e6 : ((k1 : Int) == 6) = false := by simp; omega
  have e7 : ((k1 : Int) == 7) = false := by simp; omega
  have e8 : ((k1 : Int) == 8) = false := by simp; omega
  have e9 : ((k1 : Int) == 9) = false := by simp; omega
  have e16 : ((k1 : Int) % 16 == 10) = false := by simp; omega
  have e4 : ((k1 : Int) % 4 == 1) = false := by simp; omega
  clear hr hR
  go_enter Try.func10, Try.ntmps10
  go_wp2_with (first
    | (go_at_call 23; refine Calls.mono (HS.out _ R1.out) ?_; rintro e w2 ⟨v, rfl, hO, hR2, hF2⟩; have O2 : Hid (OwB w2 w.heap.size v zs) := hO.mono F1.out.below.size; have R2 : Hid (Rr w0 av cv bs w2 r j) := hR2; have F2 : Hid (Fq r w w2) := F1.out.trans hF2; clear hO hR2 hF2)
    | (go_at_call 9; refine Calls.mono (next_any w0 _ av cv r _ bs HR.out hb hl R0.out) ?_; rintro e w1 ⟨rfl, hR1, hF1⟩; have R1 : Hid (Rr w0 av cv bs w1 r (nxi bs i)) := hR1; have F1 : Hid (Fq r w w1) := hF1; clear hR1 hF1; (try rw [hk1])))
  go_returns
  exact ⟨v, rfl, O2.out, R2.out, F2.out⟩
set_option maxRecDepth 100000 in
set_option maxHeartbeats 1000000 in
theorem any_fill {bs : List Int} (hb : Bts bs) (hl : bs.length ≤ 600) (i : Nat) (hk1 : nx bs i = 5) (k2 : Nat) (hk2 : nx bs (nxi bs i) = (k2 : Int)) (kb2 : k2 ≤ 255) (m : Nat) (hm : (k2 : Int) % 3 = (m : Int)) (_hm3 : m < 3) : ReadsB bs 10 i (List.replicate (5999 + m) 32) (nxi bs (nxi bs i)) := by
  intro w0 w av cv r hr hR
  have R0 : Hid (Rr w0 av cv bs w r i) := hR
  have HR : Hid (Rd w0 av bs) := hr
  have FL : Hid (∀ W, Calls Try.prog 22 #[.int .u8 32, .int .i64 (5999 + (m : Int))] W fun x w' => ∃ ao cp, x = .returned (.slice ao (5999 + m) cp) ∧ w'.ownsRow W.heap.size 5 1 (.slice ao (5999 + m) cp) (5999 + m) (bcells (List.replicate (5999 + m) 32)) ∧ Below W.heap.size W w') := fun W => fill_any 32 (5999 + m) (by omega) (by omega) W
  clear hr hR
  go_enter Try.func10, Try.ntmps10
  go_wp2_with (first
    | (go_at_call 22; (try rw [hm]); refine Calls.mono (FL.out _) ?_; rintro e w4 ⟨ao, cp, rfl, hO, hB⟩; have O4 : Hid (OwB w4 w.heap.size (.slice ao (5999 + m) cp) (List.replicate (5999 + m) 32)) := (OwB.own hO (by simp)).mono F2.out.below.size; have R4 : Hid (Rr w0 av cv bs w4 r (nxi bs (nxi bs i))) := R2.out.keep hB; have F4 : Hid (Fq r w w4) := fq_below F2.out R2.out.lt hB; clear hO hB)
    | (go_at_call 9; refine Calls.mono (next_any w0 _ av cv r _ bs HR.out hb hl R1.out) ?_; rintro e w2 ⟨rfl, hR2, hF2⟩; have R2 : Hid (Rr w0 av cv bs w2 r (nxi bs (nxi bs i))) := hR2; have F2 : Hid (Fq r w w2) := F1.out.trans hF2; clear hR2 hF2; (try rw [hk2]))
    | (go_at_call 9; refine Calls.mono (next_any w0 _ av cv r _ bs HR.out hb hl R0.out) ?_; rintro e w1 ⟨rfl, hR1, hF1⟩; have R1 : Hid (Rr w0 av cv bs w1 r (nxi bs i)) := hR1; have F1 : Hid (Fq r w w1) := hF1; clear hR1 hF1; (try rw [hk1])))
  go_returns
  exact ⟨_, rfl, O4.out, R4.out, F4.out⟩
def srcL : List ByteArray := [{ data := #[] }, { data := #[45, 45, 32, 111, 110, 108, 121] }, { data := #[98, 114, 101, 97, 107] }, { data := #[119, 104, 105, 108, 101, 32, 49, 32, 100, 111, 32, 108, 111, 99, 97, 108, 32, 102, 117, 110, 99, 116, 105, 111, 110, 32, 102, 40, 41, 32, 98, 114, 101, 97, 107, 32, 101, 110, 100, 32, 101, 110, 100] }, { data := #[102, 40, 41, 32, 61, 32, 49] }, { data := #[40, 97, 41, 32, 61, 32, 49] }, { data := #[97] }, { data := #[97, 44, 32, 102, 40, 41, 32, 61, 32, 49] }, { data := #[40, 102, 41] }, { data := #[108, 111, 99, 97, 108, 32, 97, 32, 61, 32, 49, 32, 61, 32, 50] }, { data := #[114, 101, 116, 117, 114, 110, 32, 49, 32, 112, 114, 105, 110, 116, 40, 50, 41] }, { data := #[112, 114, 105, 110, 116, 32, 61, 32, 49] }, { data := #[108, 111, 99, 97, 108, 32, 116, 32, 61, 32, 123, 97, 32, 61, 61, 32, 49, 44, 32, 97, 32, 61, 32, 50, 44, 32, 91, 51, 93, 32, 61, 32, 52, 44, 125] }, { data := #[112, 114, 105, 110, 116, 40, 117, 110, 100, 101, 102, 105, 110, 101, 100, 41] }, { data := #[120, 32, 61, 32, 49] }, { data := #[108, 111, 99, 97, 108, 32, 102, 117, 110, 99, 116, 105, 111, 110, 32, 102, 40, 41, 32, 114, 101, 116, 117, 114, 110, 32, 103, 32, 101, 110, 100] }, { data := #[97, 46, 98, 46, 99, 40, 41] }, { data := #[108, 111, 99, 97, 108, 32, 97, 32, 61, 32, 48, 120] }, { data := #[108, 111, 99, 97, 108, 32, 97, 32, 61, 32, 49, 101, 53] }, { data := #[105, 102, 32, 49, 32, 116, 104, 101, 110, 32, 101, 108, 115, 101, 105, 102, 32, 50, 32, 116, 104, 101, 110, 32, 101, 108, 115, 101, 32, 101, 110, 100] }, { data := #[102, 111, 114, 32, 105, 32, 61, 32, 49, 32, 100, 111, 32, 101, 110, 100] }, { data := #[114, 101, 116, 117, 114, 110] }, { data := #[114, 101, 116, 117, 114, 110, 59] }, { data := #[59, 32] }, { data := #[112, 114, 105, 110, 116, 32, 39, 120, 39] }, { data := #[108, 111, 99, 97, 108, 32, 97, 32, 61, 32, 45, 32, 45, 49, 32, 114, 101, 116, 117, 114, 110, 32, 97] }, { data := #[108, 111, 99, 97, 108, 32, 97, 32, 61, 32, 45, 45, 49] }, { data := #[108, 111, 99, 97, 108, 32, 97, 32, 60] }, { data := #[112, 114, 105, 110, 116, 40, 49, 41, 40, 50, 41] }, { data := #[40, 123, 125, 41, 91, 49, 93, 32, 61, 32, 50] }, { data := #[108, 111, 99, 97, 108, 32, 97, 32, 61, 32, 102, 117, 110, 99, 116, 105, 111, 110, 40, 41, 32, 114, 101, 116, 117, 114, 110, 32, 101, 110, 100] }, { data := #[114, 101, 112, 101, 97, 116, 32, 108, 111, 99, 97, 108, 32, 122, 32, 61, 32, 49, 32, 117, 110, 116, 105, 108, 32, 122] }]
set_option maxRecDepth 100000 in
set_option maxHeartbeats 1000000 in
theorem any_list {bs : List Int} (hb : Bts bs) (hl : bs.length ≤ 600) (i k1 : Nat) (hk1 : nx bs i = (k1 : Int)) (kb1 : k1 ≤ 255) (h16 : k1 % 16 = 10) (k2 : Nat) (hk2 : nx bs (nxi bs i) = (k2 : Int)) (kb2 : k2 ≤ 255) (m : Nat) (hm : (k2 : Int) % 32 = (m : Int)) (hm32 : m < 32) : ReadsB bs 10 i (nums (srcL.getD m default)) (nxi bs (nxi bs i)) := by
  intro w0 w av cv r hr hR
  have R0 : Hid (Rr w0 av cv bs w r i) := hR
  have HR : Hid (Rd w0 av bs) := hr
  have e5 : ((k1 : Int) == 5) = false := by simp; omega
  have e6 : ((k1 : Int) == 6) = false := by simp; omega
  have e7 : ((k1 : Int) == 7) = false := by simp; omega
  have e8 : ((k1 : Int) == 8) = false := by simp; omega
  have e9 : ((k1 : Int) == 9) = false := by simp; omega
  have e16 : ((k1 : Int) % 16 == 10) = true := by simp; omega
  have i0 : (0 : Int) ≤ (m : Int) := by omega
  have i1 : (m : Int) < 32 := by omega
  have HL : Hid (∀ W W3 : World, W3 = W.alloc (.cells #[.string { data := #[] }, .string { data := #[45, 45, 32, 111, 110, 108, 121] }, .string { data := #[98, 114, 101, 97, 107] }, .string { data := #[119, 104, 105, 108, 101, 32, 49, 32, 100, 111, 32, 108, 111, 99, 97, 108, 32, 102, 117, 110, 99, 116, 105, 111, 110, 32, 102, 40, 41, 32, 98, 114, 101, 97, 107, 32, 101, 110, 100, 32, 101, 110, 100] }, .string { data := #[102, 40, 41, 32, 61, 32, 49] }, .string { data := #[40, 97, 41, 32, 61, 32, 49] }, .string { data := #[97] }, .string { data := #[97, 44, 32, 102, 40, 41, 32, 61, 32, 49] }, .string { data := #[40, 102, 41] }, .string { data := #[108, 111, 99, 97, 108, 32, 97, 32, 61, 32, 49, 32, 61, 32, 50] }, .string { data := #[114, 101, 116, 117, 114, 110, 32, 49, 32, 112, 114, 105, 110, 116, 40, 50, 41] }, .string { data := #[112, 114, 105, 110, 116, 32, 61, 32, 49] }, .string { data := #[108, 111, 99, 97, 108, 32, 116, 32, 61, 32, 123, 97, 32, 61, 61, 32, 49, 44, 32, 97, 32, 61, 32, 50, 44, 32, 91, 51, 93, 32, 61, 32, 52, 44, 125] }, .string { data := #[112, 114, 105, 110, 116, 40, 117, 110, 100, 101, 102, 105, 110, 101, 100, 41] }, .string { data := #[120, 32, 61, 32, 49] }, .string { data := #[108, 111, 99, 97, 108, 32, 102, 117, 110, 99, 116, 105, 111, 110, 32, 102, 40, 41, 32, 114, 101, 116, 117, 114, 110, 32, 103, 32, 101, 110, 100] }, .string { data := #[97, 46, 98, 46, 99, 40, 41] }, .string { data := #[108, 111, 99, 97, 108, 32, 97, 32, 61, 32, 48, 120] }, .string { data := #[108, 111, 99, 97, 108, 32, 97, 32, 61, 32, 49, 101, 53] }, .string { data := #[105, 102, 32, 49, 32, 116, 104, 101, 110, 32, 101, 108, 115, 101, 105, 102, 32, 50, 32, 116, 104, 101, 110, 32, 101, 108, 115, 101, 32, 101, 110, 100] }, .string { data := #[102, 111, 114, 32, 105, 32, 61, 32, 49, 32, 100, 111, 32, 101, 110, 100] }, .string { data := #[114, 101, 116, 117, 114, 110] }, .string { data := #[114, 101, 116, 117, 114, 110, 59] }, .string { data := #[59, 32] }, .string { data := #[112, 114, 105, 110, 116, 32, 39, 120, 39] }, .string { data := #[108, 111, 99, 97, 108, 32, 97, 32, 61, 32, 45, 32, 45, 49, 32, 114, 101, 116, 117, 114, 110, 32, 97] }, .string { data := #[108, 111, 99, 97, 108, 32, 97, 32, 61, 32, 45, 45, 49] }, .string { data := #[108, 111, 99, 97, 108, 32, 97, 32, 60] }, .string { data := #[112, 114, 105, 110, 116, 40, 49, 41, 40, 50, 41] }, .string { data := #[40, 123, 125, 41, 91, 49, 93, 32, 61, 32, 50] }, .string { data := #[108, 111, 99, 97, 108, 32, 97, 32, 61, 32, 102, 117, 110, 99, 116, 105, 111, 110, 40, 41, 32, 114, 101, 116, 117, 114, 110, 32, 101, 110, 100] }, .string { data := #[114, 101, 112, 101, 97, 116, 32, 108, 111, 99, 97, 108, 32, 122, 32, 61, 32, 49, 32, 117, 110, 116, 105, 108, 32, 122] }] 9) → Below W.heap.size W W3) := fun W W3 h => by rw [h]; exact (Below.refl _ _).alloc (Nat.le_refl _) _
  have HT : Hid (∀ (W : World) b, W.heap[b]? = some (.cells (srcL.map Value.string).toArray 9) → W.cell? ⟨b, m, none⟩ = some (.string (srcL.getD m default))) := fun W b h => by
    unfold World.cell?
    rw [h]
    have h3 : m < srcL.length := hm32
    simp [List.getElem?_map, List.getElem?_eq_getElem h3, List.getD_eq_getElem?_getD]
  have hz : (srcL.getD m default).size ≤ 1000 := by
    have h3 : m < srcL.length := hm32
    rw [List.getD_eq_getElem?_getD, List.getElem?_eq_getElem h3]
    have hall : srcL.all (fun s => decide (s.size ≤ 1000)) = true := by decide
    have := List.all_eq_true.1 hall _ (List.getElem_mem h3)
    simpa using this
  generalize srcL.getD m default = t at HT hz
  clear hr hR
  go_enter Try.func10, Try.ntmps10
  go_wp2_with (first
    | (go_at_call 9; refine Calls.mono (next_any w0 _ av cv r _ bs HR.out hb hl R1.out) ?_; rintro e w2 ⟨rfl, hR2, hF2⟩; have R2 : Hid (Rr w0 av cv bs w2 r (nxi bs (nxi bs i))) := hR2; have F2 : Hid (Fq r w w2) := F1.out.trans hF2; have ct := HT.out w2 w1.heap.size ((hF2.keep w1.heap.size (by simp) HNE.out).trans (heap_alloc_new _ _)); clear hR2 hF2; (try rw [hk2]); (try rw [hm]); have kv := Lib.run_convert_string_bytes w2 9 22 5 t Try.underlying9 Try.underlying22 Try.underlying5)
    | (go_at_call 9; refine Calls.mono (next_any w0 _ av cv r _ bs HR.out hb hl R0.out) ?_; rintro e w1 ⟨rfl, hR1, hF1⟩; have hbL := HL.out w1 _ rfl; have R1 : Hid _ := hR1.keep hbL; have HNE : Hid (w1.heap.size ≠ r) := (by have := hR1.lt; show _ ≠ _; omega); have F1 : Hid _ := fq_below hF1 hR1.lt hbL; clear hR1 hF1 hbL; (try rw [hk1])))
  go_returns
  exact ⟨_, rfl, (OwB.text w2 t (by unfold maxLen; omega)).mono F2.out.below.size, R2.out.keep (bel_bytes w2 t), fq_below F2.out R2.out.lt (bel_bytes w2 t)⟩
end Go.Proofs.Ytepbddfpdlapbaa.tk
