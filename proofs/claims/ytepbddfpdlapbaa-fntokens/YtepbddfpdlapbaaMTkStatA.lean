import Derived.Test.YtepbddfpdlapbaaMTkFor
namespace Go.Proofs.Ytepbddfpdlapbaa.tk
open Go.RowKit Go.Proofs.Ytepbddfpdlapbaa.bts Go.Proofs.Ytepbddfpdlapbaa.nod
section
variable {V Q : Nat → Bool} {w0 w W W' : World} {av : Option Addr} {cv g r : Nat} {bs : List Int} {s s' : Gs} {x : Value} {l : List Nd}
theorem grown_set (W : World) (h j : Nat) (u : Value) : W.grownBy (W.setCell ⟨h, j, none⟩ u) (some h) :=
  ⟨rfl, rfl, rfl, by rw [size_set]; exact Nat.le_refl _, fun k _ hk => Below.heap_setCell W ⟨h, j, none⟩ u k (fun e => hk (by rw [e]))⟩
theorem Row.len {T : TypeId} {a : Option Addr} {n c : Nat} {us : List Value} (hR : Row T w Q W (.slice a n c) us) : n = us.length := by
  rcases hR.1.2 with ⟨e, e2⟩ | ⟨_, _, _, e, _⟩
  · simp only [Value.slice.injEq] at e; omega
  · simp only [Value.slice.injEq] at e; omega
theorem Row.cell {T : TypeId} {h n c j : Nat} {us : List Value} (hR : Row T w Q W (.slice (some ⟨h, 0, none⟩) n c) us) (hj : j < us.length) : W.cell? ⟨h, j, none⟩ = us[j]? := by
  obtain rfl := hR.len
  exact World.ownsRow.cellAt hR.1 j (by omega)
theorem Row.free {T : TypeId} {h n c : Nat} {us : List Value} (hR : Row T w Q W (.slice (some ⟨h, 0, none⟩) n c) us) (j : Nat) : W.frozen? ⟨h, j, none⟩ = false := by
  obtain rfl := hR.len
  exact World.ownsRow.frozenAt hR.1 j
theorem Cur.poke (C : Cur V w0 av cv bs w g r Q W s) {T : TypeId} {h n c : Nat} {us : List Value} (hR : Row T w Q W (.slice (some ⟨h, 0, none⟩) n c) us) (j : Nat) (u : Value) :
    ∃ Q', Cur V w0 av cv bs w g r Q' (W.setCell ⟨h, j, none⟩ u) s ∧ Mv V w Q W Q' (W.setCell ⟨h, j, none⟩ u) ∧ Row T w Q' (W.setCell ⟨h, j, none⟩ u) (.slice (some ⟨h, 0, none⟩) n c) (us.set j u) ∧ ∀ T2 v2 us2, Row T2 w Q W v2 us2 → Ap (.slice (some ⟨h, 0, none⟩) n c) v2 → Row T2 w Q' (W.setCell ⟨h, j, none⟩ u) v2 us2 := by
  have hq : Q h = true := hR.2 h rfl
  obtain rfl := hR.len
  obtain ⟨h1, h2⟩ := C.grow (v := .slice (some ⟨h, 0, none⟩) us.length c) (Below.refl _ _) (grown_set W h j u) (fun b e => by cases e; exact hq) (fun b e => by cases e; exact ⟨by rw [size_set]; exact (hR.1.lt h rfl).2, .inl hq⟩)
  refine ⟨_, h1, h2, ⟨?_, fun b e => by simp [qn, e]⟩, fun T2 v2 us2 hR2 hap => ⟨own_far hR2.1 (fun b e => Below.heap_setCell W ⟨h, j, none⟩ u b (fun e' => hap b e (by cases e'; rfl))), fun b e => by simp [qn, hR2.2 b e]⟩⟩
  rw [List.length_set]
  exact (World.ownsRow.stored hR.1 j u).1
theorem Cur.locR (C : Cur V w0 av cv bs w g r Q W s) {us : List Value} {T : TypeId} (hm : us.length ≤ 1000) :
    ∃ Q', Cur V w0 av cv bs w g r Q' (W.alloc (.cells us.toArray T)) s ∧ Mv V w Q W Q' (W.alloc (.cells us.toArray T)) ∧ Row T w Q' (W.alloc (.cells us.toArray T)) (.slice (some ⟨W.heap.size, 0, none⟩) us.length us.length) us ∧ ∀ T2 v2 us2, Row T2 w Q W v2 us2 → Row T2 w Q' (W.alloc (.cells us.toArray T)) v2 us2 ∧ Ap (.slice (some ⟨W.heap.size, 0, none⟩) us.length us.length) v2 := by
  have hb : Below W.heap.size W (W.alloc (.cells us.toArray T)) := (Below.refl _ _).alloc (Nat.le_refl _) _
  obtain ⟨h1, h2⟩ := C.grow (v := .slice (some ⟨W.heap.size, 0, none⟩) us.length us.length) hb (World.grownBy.refl _ none) (fun b e => by cases e) (fun b e => by
    cases e
    exact ⟨by simp, .inr (Nat.le_refl _)⟩)
  refine ⟨_, h1, h2, ⟨lit_row C.sz hm, fun b e => by simp [qn, e]⟩, fun T2 v2 us2 hR2 => ⟨⟨own_far hR2.1 (fun b e => hb.block b (hR2.1.lt b e).2), fun b e => by simp [qn, hR2.2 b e]⟩, fun b e e' => ?_⟩⟩
  cases e'
  exact absurd (hR2.1.lt _ e).2 (by show ¬ W.heap.size < W.heap.size; omega)
theorem Txts.row {v : Value} {zs : List (List Int)} (h : Txts w Q W v zs) : ∃ us, Row 22 w Q W v us := by
  obtain ⟨us, h1, _⟩ := h
  exact ⟨us, h1⟩
theorem Txts.move {v : Value} {zs : List (List Int)} {Q' : Nat → Bool} (h : Txts w Q W v zs) (hM : Mv V w Q W Q' W') (hO : ∀ us, Row 22 w Q W v us → Row 22 w Q' W' v us) : Txts w Q' W' v zs := by
  obtain ⟨us, h1, h2, h3⟩ := h
  refine ⟨us, hO us h1, h2, fun i hi => ?_⟩
  obtain ⟨u, e, hr⟩ := h3 i hi
  exact ⟨u, e, hM.rdv hr⟩
end
theorem Ap.symm {v v2 : Value} (h : Ap v v2) : Ap v2 v := fun b e e' => h b e' e
theorem Cur.hdnew {V Q : Nat → Bool} {w0 w W : World} {av : Option Addr} {cv g r : Nat} {bs : List Int} {s : Gs} (C : Cur V w0 av cv bs w g r Q W s) : hd w Q W.heap.size = false := by
  have h1 := C.sz
  have h3 : Q W.heap.size = false := by
    cases h : Q W.heap.size with
    | false => rfl
    | true => have := (C.hq _ h).2; omega
  simp [hd, h3, tk.lt]
  omega
def Fresh (bs : List Int) (s : Gs) (t : ByteArray) : Prop := ∀ (V Q : Nat → Bool) (w0 w W : World) (av : Option Addr) (cv g r : Nat), Cur V w0 av cv bs w g r Q W s →
    Calls Try.prog 56 #[.pointer (some ⟨g, 0, none⟩)] W fun e w' => e = .returned (.string t) ∧ Cur V w0 av cv bs w g r Q w' (stepG bs s) ∧ Fg g r W w'
theorem seqF (bs : List Int) (hb : Bts bs) (s : Gs) : ∃ (js : Nat → Nat) (ts : Nat → ByteArray), js 0 = s.i ∧ ∀ k, (ts k).size ≤ 1000 ∧ js (k + 1) = nxi bs (js k) ∧ Fresh bs { s with i := js k } (ts k) := by
  let js : Nat → Nat := fun k => Nat.rec s.i (fun _ j => nxi bs j) k
  exact ⟨js, fun k => (fresh_ex bs { s with i := js k } hb).choose, rfl, fun k => ⟨(fresh_ex bs { s with i := js k } hb).choose_spec.1, rfl, (fresh_ex bs { s with i := js k } hb).choose_spec.2⟩⟩
def tsL (ts : Nat → ByteArray) (k : Nat) : List ByteArray := (List.range k).map ts
theorem tsL_succ (ts : Nat → ByteArray) (k : Nat) : tsL ts (k + 1) = tsL ts k ++ [ts k] := by simp [tsL, List.range_succ]
theorem tsL_length (ts : Nat → ByteArray) (k : Nat) : (tsL ts k).length = k := by simp [tsL]
theorem ap_nil2 {v : Value} : Ap v (.slice none 0 0) := fun b h => by simp [Value.ownBlock] at h
theorem Apd.ap {T T2 : TypeId} {V Q Q' : Nat → Bool} {w0 w W W' : World} {av : Option Addr} {cv g r : Nat} {bs : List Int} {s : Gs} {v v' v2 : Value} {us us2 : List Value} (h : Apd T V w0 av cv bs w g r Q W s v us v' Q' W') (hR : Row T2 w Q W v2 us2) (hap : Ap v v2) : Ap v' v2 := fun b e e' => by
  rcases h.lies b e' with h' | h'
  · exact hap b e h'
  · have := (hR.1.lt b e).2; omega
theorem short_ts {ns : List ByteArray} {ts : Nat → ByteArray} {k : Nat} (h1 : ∀ x ∈ ns, x.size ≤ 1000) (h2 : ∀ j, (ts j).size ≤ 1000) : ∀ x ∈ ns ++ tsL ts k, x.size ≤ 1000 := by
  intro x hx
  rcases List.mem_append.1 hx with hx | hx
  · exact h1 x hx
  · obtain ⟨j, _, rfl⟩ := List.mem_map.1 hx
    exact h2 j
theorem sub_lt {W : World} {u : Value} {T : TypeId} : 0 < 1 → ∃ ad, (some ⟨W.heap.size, 0, none⟩ : Option Addr) = some ad ∧ ∀ j x, [u][j]? = some x → (W.alloc (.cells #[u] T)).cell? (ad.add j) = some x := fun _ => ⟨_, rfl, fun j x hx => by
  rw [plainAt, Nat.zero_add]
  unfold World.cell?
  rw [heap_alloc_new]
  simpa using hx⟩
set_option maxRecDepth 100000 in
set_option maxHeartbeats 8000000 in
theorem local_of {bs : List Int} {n : Nat} (hb : Bts bs) (hl : bs.length ≤ 600) (EX : ExprC bs n) (s : Gs) (d : Nat) (hd5 : d ≤ 5) (h1 : 0 ≤ s.fuel) (h2 : s.fuel ≤ n) (h3 : s.fuel ≤ 200) (h4 : (s.names.length : Int) + 2 + 4 * s.fuel ≤ 2000) :
    ∃ l j f ns, Draws bs 53 (fun g => #[.pointer (some ⟨g, 0, none⟩), .int .i64 (d : Int)]) s l { s with i := j, fuel := f, names := ns } ∧ f ≤ s.fuel - 1 ∧ (s.fuel ≤ 0 → s.fuel - 2 ≤ f) ∧ (0 < s.fuel → -10 * s.fuel - 2 ≤ f) ∧ (l.length : Int) ≤ 1 + 20 * (s.fuel - f) ∧ ns.length ≤ s.names.length + 2 := by
  obtain ⟨k1, hk1, kb1⟩ := nxn hb s.i
  obtain ⟨x1, hx1, hx3⟩ : ∃ a : Nat, ((k1 : Int) % 3) = (a : Int) ∧ a < 3 := ⟨k1 % 3, by omega, by omega⟩
  obtain ⟨x2, hx2, hx22⟩ : ∃ b : Nat, ((x1 : Int) / 2) = (b : Int) ∧ b < 2 := ⟨x1 / 2, by omega, by omega⟩
  obtain ⟨m, hm⟩ : ∃ m : Nat, (1 : Int) + (x2 : Int) = (m : Int) := ⟨1 + x2, by omega⟩
  obtain ⟨y1, hy1, hy3⟩ : ∃ a : Nat, ((k1 : Int) / 3) = (a : Int) ∧ a < 100 := ⟨k1 / 3, by omega, by omega⟩
  obtain ⟨y2, hy2, hy22⟩ : ∃ b : Nat, ((y1 : Int) % 2) = (b : Int) ∧ b < 2 := ⟨y1 % 2, by omega, by omega⟩
  obtain ⟨m2, hm2⟩ : ∃ m : Nat, (1 : Int) + (y2 : Int) = (m : Int) := ⟨1 + y2, by omega⟩
  have hmb : m ≤ 2 := by omega
  have hmb2 : 1 ≤ m2 ∧ m2 ≤ 2 := by omega
  obtain ⟨js, ts, e1, hT⟩ := seqF bs hb (stepG bs s)
  obtain ⟨js2, fs2, ls2, g1, g2, hD2, hB2⟩ := seqE EX { s with i := js m } d m2 hd5 (by show _ ≤ s.fuel; omega) (by omega) h2 h3 (by show (s.names.length : Int) + 4 * s.fuel ≤ _; omega)
  have ef : Gs.fuel { s with i := js m } = s.fuel := rfl
  rw [ef] at g2 hB2
  have hBm := hB2 m2 (Nat.le_refl _)
  have hlen : ((node ⟨1, 0, [], (tsL ts m).map nums, 0⟩ (upto ls2 m2)).length : Int) = 1 + (upto ls2 m2).flatten.length := by simp only [node, List.length_cons]; omega
  have HS : Hid ((node ⟨1, 0, [], (tsL ts m).map nums, 0⟩ (upto ls2 m2)).length ≤ 1000000) := by show _ ≤ _; omega
  refine ⟨node ⟨1, 0, [], (tsL ts m).map nums, 0⟩ (upto ls2 m2), js2 m2, fs2 m2, s.names ++ tsL ts m, fun V w0 w av cv g r hv hr hG => ?_, by omega, by omega, by omega, by omega, by rw [List.length_append, tsL_length]; omega⟩
  have C0 : Hid (Cur V w0 av cv bs w g r no w s) := Cur.start hv hr hb hl hG
  obtain ⟨Q1, hC1, _, hR1, _⟩ := C0.out.locR (us := [.int .i64 1, .int .i64 0, .slice none 0 0, .slice none 0 0, .int .i64 0]) (T := 75) (by simp)
  have C1 : Hid (Cur V w0 av cv bs w g r Q1 (w.alloc (.cells #[.int .i64 1, .int .i64 0, .slice none 0 0, .slice none 0 0, .int .i64 0] 75)) s) := hC1
  have R1 : Hid (Row 75 w Q1 (w.alloc (.cells #[.int .i64 1, .int .i64 0, .slice none 0 0, .slice none 0 0, .int .i64 0] 75)) (.slice (some ⟨w.heap.size, 0, none⟩) 5 5) [.int .i64 1, .int .i64 0, .slice none 0 0, .slice none 0 0, .int .i64 0]) := hR1
  have d0_1 := C1.out.gg.c0
  have HF : Hid (∀ k, (ts k).size ≤ 1000 ∧ js (k + 1) = nxi bs (js k) ∧ Fresh bs { s with i := js k } (ts k)) := hT
  have HC : Hid (∀ W Q, Cur V w0 av cv bs w g r Q W (stepG bs s) → Cur V w0 av cv bs w g r Q W { s with i := js 0 }) := fun W Q h => by
    rw [e1]; exact h
  have HD2 : Hid (∀ k, k < m2 → Draws bs 55 (fun g => #[.pointer (some ⟨g, 0, none⟩), .int .i64 (d : Int)]) { s with i := js2 k, fuel := fs2 k } (ls2 k) { s with i := js2 (k + 1), fuel := fs2 (k + 1) }) := hD2
  have HC2 : Hid (∀ W Q, Cur V w0 av cv bs w g r Q W { s with i := js m } → Cur V w0 av cv bs w g r Q W { s with i := js2 0, fuel := fs2 0 }) := fun W Q h => by
    rw [g1, g2]; exact h
  have hnn : s.names.length ≤ 2000 := by omega
  obtain ⟨ib, hib, hbz0, hbz1, hbz2⟩ := info_parts info_bytes
  obtain ⟨is, his, hsz0, hsz1, hsz2⟩ := info_parts info_string
  clear hG hr hv hC1 hR1 hT EX hBm hB2 hlen e1 ef h2 h4 hD2 g1 g2
  go_enter Try.func53, Try.ntmps53
  go_wp2_with (first
    | (go_at_call 9; refine (C1.out.next hk1).mono ?_; rintro e w2 ⟨rfl, hC, hF⟩; have C2 : Hid _ := hC; have R2 : Hid (Row 75 w Q1 w2 (.slice (some ⟨w.heap.size, 0, none⟩) 5 5) [.int .i64 1, .int .i64 0, .slice none 0 0, .slice none 0 0, .int .i64 0]) := C1.out.row hF R1.out; clear hC hF))
  try rw [hx1]
  try rw [hx2]
  try rw [hm]
  go_loopw [8, 9] (fun vf vi wr => ∃ (k cf cn : Nat) (Q : Nat → Bool) (af an : Option Addr), k ≤ m ∧ vi = .int .i64 (k : Int) ∧ vf = .slice af k cf ∧ Hid (Cur V w0 av cv bs w g r Q wr { s with i := js k }) ∧ Hid (Row 75 w Q wr (.slice (some ⟨w.heap.size, 0, none⟩) 5 5) [.int .i64 1, .int .i64 0, .slice none 0 0, .slice an k cn, .int .i64 0]) ∧ Hid (Txts w Q wr (.slice an k cn) ((tsL ts k).map nums)) ∧ Hid (Row 9 w Q wr (.slice af k cf) ((tsL ts k).map .string)) ∧ Hid (Ap (.slice (some ⟨w.heap.size, 0, none⟩) 5 5) (.slice an k cn)) ∧ Hid (Ap (.slice (some ⟨w.heap.size, 0, none⟩) 5 5) (.slice af k cf)) ∧ Hid (Ap (.slice an k cn) (.slice af k cf))) (fun _ x _ => m - (intOf x).toNat)
  case atStart => exact ⟨0, 0, 0, Q1, none, none, Nat.zero_le _, rfl, rfl, HC.out _ _ C2.out, R2.out, txts_nil, row_nil, ap_nil2, ap_nil2, ap_nil2⟩
  case round =>
    obtain ⟨k, cf, cn, Q, af, an, hkm, rfl, rfl, C20, RN20, TX20, RF20, PN, PF, PNF⟩ := hrel
    by_cases hlt : k < m
    · have i1 : (k : Int) < (m : Int) := by omega
      obtain ⟨hts, hjs, hFr⟩ := HF.out k
      have FR : Hid (Fresh bs { s with i := js k } (ts k)) := hFr
      have HJ : Hid (∀ W Q, Cur V w0 av cv bs w g r Q W (stepG bs { s with i := js k }) → Cur V w0 av cv bs w g r Q W { s with i := js (k + 1) }) := fun W Q h => by rw [hjs]; exact h
      clear hFr hjs
      go_wp2_with (first
        | (at_builtin; refine wpList_append_any rfl _ _ 9 49 rfl C24.out Try.underlying49 his hsz0 hsz1 hsz2 rfl (by omega) rfl RF24.out RF24.out.len ((Below.refl _ _).alloc (Nat.le_refl _) _) (some ⟨(w23.setCell ⟨w.heap.size, 3, none⟩ (.slice a23 (k + 1) c23)).heap.size, 0, none⟩) 1 1 (by simp only [size_set]; rfl) (xs := [.string (ts k)]) rfl sub_lt (by simp [Value.oneCell']) (by have := RF24.out.len; simp at this; simp [tsL_length]; omega) ?_; intro a25 c25 w25 Q25 hA; have C25 : Hid _ := hA.cur; have RN25 : Hid (Row 75 w Q25 w25 (.slice (some ⟨w.heap.size, 0, none⟩) 5 5) [.int .i64 1, .int .i64 0, .slice none 0 0, .slice a23 (k + 1) c23, .int .i64 0]) := hA.other _ _ _ RN24.out PF.out.symm; obtain ⟨us24, hRT24⟩ := TX24.out.row; have TX25 : Hid (Txts w Q25 w25 (.slice a23 (k + 1) c23) ((tsL ts k).map nums ++ [nums (ts k)])) := TX24.out.move hA.mv (fun us h => hA.other _ _ us h PNF23.out.symm); have RF25 : Hid (Row 9 w Q25 w25 (.slice a25 (k + 1) c25) ((tsL ts k).map .string ++ [.string (ts k)])) := hA.row; have P25 : Hid (Ap (.slice (some ⟨w.heap.size, 0, none⟩) 5 5) (.slice a23 (k + 1) c23) ∧ Ap (.slice (some ⟨w.heap.size, 0, none⟩) 5 5) (.slice a25 (k + 1) c25) ∧ Ap (.slice a23 (k + 1) c23) (.slice a25 (k + 1) c25)) := ⟨PN23.out.symm, (hA.ap RN24.out PF.out.symm).symm, (hA.ap hRT24 PNF23.out.symm).symm⟩; clear hA hRT24 us24)
        | (at_builtin; obtain ⟨us, hRt, hlt', hzt⟩ := TX22.out; refine wpList_append_any rfl _ _ 22 73 rfl C22.out Try.underlying73 hib hbz0 hbz1 hbz2 rfl (Nat.le_refl _) rfl hRt hRt.len ((Below.refl _ _).alloc (Nat.le_refl _) _) (some ⟨W22.heap.size, 0, none⟩) 1 1 rfl (xs := [.slice (some ⟨w21.heap.size, 0, none⟩) (ts k).size cp]) rfl sub_lt (by simp [Value.oneCell']) (by have := hRt.len; simp; omega) ?_; intro a23 c23 w23 Q23 hA; have C23 : Hid _ := hA.cur; have RN23 : Hid (Row 75 w Q23 w23 (.slice (some ⟨w.heap.size, 0, none⟩) 5 5) [.int .i64 1, .int .i64 0, .slice none 0 0, .slice an k cn, .int .i64 0]) := hA.other _ _ _ RN22.out PN.out.symm; have TX23 : Hid (Txts w Q23 w23 (.slice a23 (k + 1) c23) ((tsL ts k).map nums ++ [nums (ts k)])) := hA.txts hlt' hzt (hA.mv.rdv RV22.out); have RF23 : Hid (Row 9 w Q23 w23 (.slice af k cf) ((tsL ts k).map .string)) := hA.other _ _ _ RF22.out PNF.out; have PN23 : Hid (Ap (.slice a23 (k + 1) c23) (.slice (some ⟨w.heap.size, 0, none⟩) 5 5)) := hA.ap RN22.out PN.out.symm; have PNF23 : Hid (Ap (.slice a23 (k + 1) c23) (.slice af k cf)) := hA.ap RF22.out PNF.out; clear hA hRt hlt' hzt us; have d3_23 : w23.cell? ⟨w.heap.size, 3, none⟩ = some (.slice an k cn) := RN23.out.cell (j := 3) (by simp); have f3_23 := RN23.out.free 3; obtain ⟨Q24, hC24, hM24, hR24, hO24⟩ := C23.out.poke RN23.out 3 (.slice a23 (k + 1) c23); have C24 : Hid _ := hC24; have RN24 : Hid (Row 75 w Q24 (w23.setCell ⟨w.heap.size, 3, none⟩ (.slice a23 (k + 1) c23)) (.slice (some ⟨w.heap.size, 0, none⟩) 5 5) [.int .i64 1, .int .i64 0, .slice none 0 0, .slice a23 (k + 1) c23, .int .i64 0]) := hR24; have TX24 : Hid (Txts w Q24 (w23.setCell ⟨w.heap.size, 3, none⟩ (.slice a23 (k + 1) c23)) (.slice a23 (k + 1) c23) ((tsL ts k).map nums ++ [nums (ts k)])) := TX23.out.move hM24 (fun us h => hO24 _ _ us h PN23.out.symm); have RF24 : Hid (Row 9 w Q24 (w23.setCell ⟨w.heap.size, 3, none⟩ (.slice a23 (k + 1) c23)) (.slice af k cf) ((tsL ts k).map .string)) := hO24 _ _ _ RF23.out PF.out; clear hC24 hM24 hR24 hO24)
        | (go_at_call 56; refine (FR.out _ _ _ _ _ _ _ _ _ C20.out).mono ?_; rintro e w21 ⟨rfl, hC, hF⟩; have C21 : Hid (Cur V w0 av cv bs w g r Q w21 { s with i := js (k + 1) }) := HJ.out _ _ hC; have RN21 : Hid (Row 75 w Q w21 (.slice (some ⟨w.heap.size, 0, none⟩) 5 5) [.int .i64 1, .int .i64 0, .slice none 0 0, .slice an k cn, .int .i64 0]) := C20.out.row hF RN20.out; have TX21 : Hid (Txts w Q w21 (.slice an k cn) ((tsL ts k).map nums)) := C20.out.txts hF TX20.out; have RF21 : Hid (Row 9 w Q w21 (.slice af k cf) ((tsL ts k).map .string)) := C20.out.row hF RF20.out; clear hC hF; have d3_21 : w21.cell? ⟨w.heap.size, 3, none⟩ = some (.slice an k cn) := RN21.out.cell (j := 3) (by simp); have kv := Lib.run_convert_string_bytes w21 9 22 5 (ts k) Try.underlying9 Try.underlying22 Try.underlying5; have RV := rdV_bytes (B := hd w Q) w21 (ts k) (grownCap w21 (ts k).size 0 5) hts C21.out.hdnew; have Bl := bel_bytes w21 (ts k); generalize grownCap w21 (ts k).size 0 5 = cp at kv RV; generalize Lib.bytesWorld w21 5 (ts k) = W22 at kv RV Bl; obtain ⟨hC22, hF22⟩ := C21.out.bel Bl; have C22 : Hid _ := hC22; have RN22 : Hid (Row 75 w Q W22 (.slice (some ⟨w.heap.size, 0, none⟩) 5 5) [.int .i64 1, .int .i64 0, .slice none 0 0, .slice an k cn, .int .i64 0]) := C21.out.row hF22 RN21.out; have TX22 : Hid (Txts w Q W22 (.slice an k cn) ((tsL ts k).map nums)) := C21.out.txts hF22 TX21.out; have RF22 : Hid (Row 9 w Q W22 (.slice af k cf) ((tsL ts k).map .string)) := C21.out.row hF22 RF21.out; have RV22 : Hid (RdV (veil (hd w Q) W22) (.slice (some ⟨w21.heap.size, 0, none⟩) (ts k).size cp) (nums (ts k))) := RV; clear hC22 hF22 RV Bl))
      refine ⟨⟨k + 1, c25, c23, Q25, a25, a23, by omega, by go_num, rfl, C25.out, RN25.out, by rw [tsL_succ, List.map_append]; exact TX25.out, by rw [tsL_succ, List.map_append]; exact RF25.out, P25.out.1, P25.out.2.1, P25.out.2.2⟩, by simp [intOf]; omega⟩
    · obtain rfl : k = m := by omega
      have i1 : ¬ ((k : Int) < (k : Int)) := by omega
      go_wp2_with fail
      go_loopw [11, 12] (fun va vi wz => ∃ (e c5 : Nat) (Q5 : Nat → Bool) (a5 : Option Addr), e ≤ m2 ∧ vi = .int .i64 (e : Int) ∧ va = .slice a5 e c5 ∧ Hid (Cur V w0 av cv bs w g r Q5 wz { s with i := js2 e, fuel := fs2 e }) ∧ Hid (Kids w Q5 wz (.slice a5 e c5) (upto ls2 e)) ∧ Hid (Row 75 w Q5 wz (.slice (some ⟨w.heap.size, 0, none⟩) 5 5) [.int .i64 1, .int .i64 0, .slice none 0 0, .slice an k cn, .int .i64 0]) ∧ Hid (Txts w Q5 wz (.slice an k cn) ((tsL ts k).map nums)) ∧ Hid (Row 9 w Q5 wz (.slice af k cf) ((tsL ts k).map .string)) ∧ Hid (Ap (.slice a5 e c5) (.slice (some ⟨w.heap.size, 0, none⟩) 5 5)) ∧ Hid (Ap (.slice a5 e c5) (.slice an k cn)) ∧ Hid (Ap (.slice a5 e c5) (.slice af k cf))) (fun _ x _ => m2 - (intOf x).toNat)
      case atStart => exact ⟨0, 0, Q, none, Nat.zero_le _, rfl, rfl, HC2.out _ _ C20.out, kids_nil, RN20.out, TX20.out, RF20.out, ap_nil, ap_nil, ap_nil⟩
      case round =>
        obtain ⟨e, c5, Q5, a5, hem, rfl, rfl, C50, K50, RN50, TX50, RF50, P1, P2, P3⟩ := hrel
        by_cases hlt2 : e < m2
        · have i5 : (e : Int) < (m2 : Int) := by omega
          have D51 : Hid _ := HD2.out e hlt2
          go_wp2_with (first
            | (at_builtin; refine wpList_append_kids2 rfl _ _ rfl C51.out [.slice a51 (ls2 e).length c51] rfl rfl rfl K51.out (by simp [upto_length]) (kr_one X51.out) (by simp [upto_length]; omega) rfl ?_; intro a52 c52 w52 Q52 hA; have C52 : Hid _ := hA.cur; have K52 : Hid _ := hA.kids; have RN52 : Hid (Row 75 w Q52 w52 (.slice (some ⟨w.heap.size, 0, none⟩) 5 5) [.int .i64 1, .int .i64 0, .slice none 0 0, .slice an k cn, .int .i64 0]) := (hA.rows _ _ _ RN51.out P1.out).1; have TX52 : Hid (Txts w Q52 w52 (.slice an k cn) ((tsL ts k).map nums)) := TX51.out.move hA.mv (fun us h => (hA.rows _ _ us h P2.out).1); have RF52 : Hid (Row 9 w Q52 w52 (.slice af k cf) ((tsL ts k).map .string)) := (hA.rows _ _ _ RF51.out P3.out).1; obtain ⟨ut, hRt⟩ := TX51.out.row; have P52 : Hid (Ap (.slice a52 (e + 1) c52) (.slice (some ⟨w.heap.size, 0, none⟩) 5 5) ∧ Ap (.slice a52 (e + 1) c52) (.slice an k cn) ∧ Ap (.slice a52 (e + 1) c52) (.slice af k cf)) := ⟨(hA.rows _ _ _ RN51.out P1.out).2, (hA.rows _ _ _ hRt P2.out).2, (hA.rows _ _ _ RF51.out P3.out).2⟩; clear hA hRt ut)
            | (go_at_call 55; refine (C50.out.call D51.out).mono ?_; rintro e w51 ⟨a51, c51, rfl, hX, hC, hF⟩; have C51 : Hid _ := hC; have X51 : Hid _ := hX; have K51 : Hid (Kids w Q5 w51 (.slice a5 e c5) (upto ls2 e)) := C50.out.kids hF K50.out; have RN51 : Hid (Row 75 w Q5 w51 (.slice (some ⟨w.heap.size, 0, none⟩) 5 5) [.int .i64 1, .int .i64 0, .slice none 0 0, .slice an k cn, .int .i64 0]) := C50.out.row hF RN50.out; have TX51 : Hid (Txts w Q5 w51 (.slice an k cn) ((tsL ts k).map nums)) := C50.out.txts hF TX50.out; have RF51 : Hid (Row 9 w Q5 w51 (.slice af k cf) ((tsL ts k).map .string)) := C50.out.row hF RF50.out; clear hC hX hF))
          refine ⟨⟨e + 1, c52, Q52, a52, by omega, by go_num, rfl, C52.out, by rw [upto_succ]; exact K52.out, RN52.out, TX52.out, RF52.out, P52.out.1, P52.out.2.1, P52.out.2.2⟩, by simp [intOf]; omega⟩
        · obtain rfl : e = m2 := by omega
          have i5 : ¬ ((e : Int) < (e : Int)) := by omega
          obtain ⟨az, cz, d1_50, sz50⟩ := C50.out.save
          have R50 : Hid (Sv V Q5 wr (.slice az s.names.length cz) s.names) := sz50
          have dE : (wr.alloc (.cells #[] 9)).cell? ⟨g, 1, none⟩ = some (.slice az s.names.length cz) := cellB d1_50 ((Below.refl _ _).alloc (Nat.le_refl _) _)
          have HSH : Hid (∀ x ∈ s.names ++ tsL ts k, x.size ≤ 1000) := short_ts C50.out.gg.short (fun j => (HF.out j).1)
          have RD50 : Hid (RdS (veil (tk.lt w.heap.size) wr) (.slice af k cf) (tsL ts k)) := rdS_own (B := w) (by have := RF50.out.1; rw [List.length_map, tsL_length] at this; exact this) (tsL_length ts k).symm
          clear sz50
          go_wp2_with (first
            | (go_at_call 45; refine (C63.out.node (n := ⟨1, 0, [], (tsL ts k).map nums, 0⟩) rfl K63.out (rdV_nil _) (TX63.out.rdvv rfl (by rw [List.length_map, tsL_length]; omega)) HS.out (by rw [upto_length]; omega)).mono ?_; rintro e w64 ⟨a64, c64, rfl, hX, hC, hF⟩; have C64 : Hid _ := hC; have X64_64 : Hid _ := hX; clear hC hX hF)
            | (at_builtin; refine wpList_append_strs rfl _ _ rfl (B := wr) B61.out (us := s.names) (xs := tsL ts k) rfl O61.out af k cf rfl (tsL_length ts k).symm (fun i hi => by obtain ⟨ao, cap, e, _, hc⟩ := RD50.out; simp only [Value.slice.injEq] at e; obtain ⟨rfl, _, _⟩ := e; obtain ⟨b, off, e, hc⟩ := hc i (by rw [tsL_length]; exact hi); exact ⟨b, off, e, cellB (veil_cell hc).1 B61.out⟩) (by rw [tsL_length]; omega) ?_; intro a62 c62 w62 ho hbl; have CB : Hid _ := (C50.out.bel hbl).1; have f1_62 := CB.out.gg.free 1; obtain ⟨zc, zd, d1_62, _⟩ := CB.out.save; have NN := C50.out.named hbl ho (by rw [List.length_append, tsL_length]) (by rw [List.length_append, tsL_length]; omega) HSH.out; have C63 : Hid _ := NN.1; have K63 : Hid (Kids w Q5 (w62.setCell ⟨g, 1, none⟩ (.slice a62 (s.names.length + k) c62)) (.slice a5 e c5) (upto ls2 e)) := C50.out.kids NN.2 K50.out; have RN63 : Hid (Row 75 w Q5 (w62.setCell ⟨g, 1, none⟩ (.slice a62 (s.names.length + k) c62)) (.slice (some ⟨w.heap.size, 0, none⟩) 5 5) [.int .i64 1, .int .i64 0, .slice none 0 0, .slice an k cn, .int .i64 0]) := C50.out.row NN.2 RN50.out; have TX63 : Hid (Txts w Q5 (w62.setCell ⟨g, 1, none⟩ (.slice a62 (s.names.length + k) c62)) (.slice an k cn) ((tsL ts k).map nums)) := C50.out.txts NN.2 TX50.out; clear ho hbl NN; have n0 := RN63.out.cell (j := 0) (by simp); have n1 := RN63.out.cell (j := 1) (by simp); have n2 := RN63.out.cell (j := 2) (by simp); have n3 := RN63.out.cell (j := 3) (by simp); have n4 := RN63.out.cell (j := 4) (by simp); simp only [List.getElem?_cons_zero, List.getElem?_cons_succ] at n0 n1 n2 n3 n4)
            | (at_builtin; refine wpList_append_strs rfl _ _ rfl (B := wr) ((Below.refl _ _).alloc (Nat.le_refl _) _) (us := []) (xs := s.names) rfl empty_row az s.names.length cz rfl rfl (fun i hi => by obtain ⟨b, off, e, hc⟩ := (Sv.reads R50.out).2 i hi; exact ⟨b, off, e, cellB hc ((Below.refl _ _).alloc (Nat.le_refl _) _)⟩) (by omega) ?_; intro a61 c61 w61 ho hbl; have O61 : Hid (w61.ownsRow wr.heap.size 9 1 (.slice a61 s.names.length c61) s.names.length (s.names.map .string)) := (by have h := ho; simp only [Nat.zero_add, List.nil_append] at h; exact h); have B61 : Hid (Below wr.heap.size wr w61) := hbl; clear ho hbl))
          go_returns
          exact C64.out.done X64_64.out
set_option maxRecDepth 100000 in
set_option maxHeartbeats 8000000 in
theorem stat_print {bs : List Int} {n : Nat} (hb : Bts bs) (hl : bs.length ≤ 600) (s : Gs) (d : Nat) (hd5 : d ≤ 5) (h1 : 1 ≤ s.fuel) (h2 : s.fuel ≤ n + 1) (h3 : s.fuel ≤ 200) (h4 : (s.names.length : Int) + 4 * s.fuel ≤ 2000) (q : Nat) (hq : nx bs s.i % 32 = (q : Int)) (PR : PartC bs n 52 ag0 3) (hc : d = 0 ∨ q < 8) : ∃ l j f ns, Draws bs 49 (fun g => #[.pointer (some ⟨g, 0, none⟩), .int .i64 (d : Int)]) s l { s with i := j, fuel := f, names := ns } ∧ f ≤ s.fuel - 1 ∧ -10 * s.fuel - 1 ≤ f ∧ (l.length : Int) ≤ 20 * (s.fuel - f) ∧ ns.length ≤ s.names.length + 2 := by
  obtain ⟨k1, hk1, kb1⟩ := nxn hb s.i
  rw [hk1] at hq
  have hq32 : q < 32 := by omega
  obtain ⟨l3, j3, f3, hD3, b1_3, b2_3, b3_3, b4_3⟩ := PR { stepG bs s with fuel := s.fuel - 1 } 0 (by omega) (by show _ ≤ (s.fuel - 1 : Int); omega) (by show (s.fuel - 1 : Int) ≤ _; omega) (by show (s.fuel - 1 : Int) ≤ _; omega) (by show (s.names.length : Int) + 4 * (s.fuel - 1) ≤ _; omega)
  simp only at b1_3 b2_3 b3_3 b4_3
  refine ⟨l3, j3, f3, s.names, fun V w0 w av cv g r hv hr hG => ?_, by omega, by omega, by omega, by omega⟩
  have C0 : Hid (Cur V w0 av cv bs w g r no w s) := Cur.start hv hr hb hl hG
  have d0_0 := C0.out.gg.c0
  have D3 : Hid (Draws bs 52 (fun g => #[.pointer (some ⟨g, 0, none⟩)]) { stepG bs s with fuel := s.fuel - 1 } l3 { s with i := j3, fuel := f3 }) := hD3
  clear hG hr hv PR h2 h4 hD3 b1_3 b2_3 b3_3 b4_3
  by_cases hd0 : d = 0
  · subst hd0
    go_enter Try.func49, Try.ntmps49
    go_wp2_with (first
      | (go_at_call 52; refine (C2.out.call D3.out).mono ?_; rintro e w3 ⟨a3, c3, rfl, hX, hC, hF⟩; have C3 : Hid _ := hC; have X3_3 : Hid _ := hX; clear hC hX hF; have d0_3 := C3.out.gg.c0)
      | (go_at_call 9; refine (C0.out.next hk1).mono ?_; rintro e w1 ⟨rfl, hC, hF⟩; have C1 : Hid _ := hC; clear hC hF; have C2 : Hid _ := (C1.out.setFuel (s.fuel - 1) (by omega) (by omega)).1; have d2_1 : w1.cell? ⟨g, 2, none⟩ = some (.int .i64 s.fuel) := C1.out.gg.c2; have f2_1 := C1.out.gg.free 2; have d0_2 := C2.out.gg.c0; have d2_2 : (w1.setCell ⟨g, 2, none⟩ (.int .i64 (s.fuel - 1))).cell? ⟨g, 2, none⟩ = some (.int .i64 (s.fuel - 1)) := C2.out.gg.c2))
    go_returns
    exact C3.out.done X3_3.out
  · have j0 : ¬ ((d : Int) ≤ 0) := by omega
    have jq8 : (q : Int) < 8 := by omega
    go_enter Try.func49, Try.ntmps49
    go_wp2_with (first
      | (go_at_call 52; refine (C2.out.call D3.out).mono ?_; rintro e w3 ⟨a3, c3, rfl, hX, hC, hF⟩; have C3 : Hid _ := hC; have X3_3 : Hid _ := hX; clear hC hX hF; have d0_3 := C3.out.gg.c0)
      | (go_at_call 9; refine (C0.out.next hk1).mono ?_; rintro e w1 ⟨rfl, hC, hF⟩; have C1 : Hid _ := hC; clear hC hF; have C2 : Hid _ := (C1.out.setFuel (s.fuel - 1) (by omega) (by omega)).1; have d2_1 : w1.cell? ⟨g, 2, none⟩ = some (.int .i64 s.fuel) := C1.out.gg.c2; have f2_1 := C1.out.gg.free 2; have d0_2 := C2.out.gg.c0; have d2_2 : (w1.setCell ⟨g, 2, none⟩ (.int .i64 (s.fuel - 1))).cell? ⟨g, 2, none⟩ = some (.int .i64 (s.fuel - 1)) := C2.out.gg.c2))
    go_returns
    exact C3.out.done X3_3.out
set_option maxRecDepth 100000 in
set_option maxHeartbeats 8000000 in
theorem stat_local {bs : List Int} {n : Nat} (hb : Bts bs) (hl : bs.length ≤ 600) (s : Gs) (d : Nat) (hd5 : d ≤ 5) (h1 : 1 ≤ s.fuel) (h2 : s.fuel ≤ n + 1) (h3 : s.fuel ≤ 200) (h4 : (s.names.length : Int) + 4 * s.fuel ≤ 2000) (q : Nat) (hq : nx bs s.i % 32 = (q : Int)) (hd1 : 1 ≤ d) (EX : ExprC bs n) (c1 : 8 ≤ q) (c2 : q < 14) : ∃ l j f ns, Draws bs 49 (fun g => #[.pointer (some ⟨g, 0, none⟩), .int .i64 (d : Int)]) s l { s with i := j, fuel := f, names := ns } ∧ f ≤ s.fuel - 1 ∧ -10 * s.fuel - 1 ≤ f ∧ (l.length : Int) ≤ 20 * (s.fuel - f) ∧ ns.length ≤ s.names.length + 2 := by
  obtain ⟨k1, hk1, kb1⟩ := nxn hb s.i
  rw [hk1] at hq
  have hq32 : q < 32 := by omega
  have j0 : ¬ ((d : Int) ≤ 0) := by omega
  have jq8 : ¬ ((q : Int) < 8) := by omega
  have jq14 : (q : Int) < 14 := by omega
  obtain ⟨l3, j3, f3, ns3, hD3, b1, b2, b3, b4, b5⟩ := local_of hb hl EX { stepG bs s with fuel := s.fuel - 1 } 2 (by omega) (by show _ ≤ s.fuel - 1; omega) (by show s.fuel - 1 ≤ _; omega) (by show s.fuel - 1 ≤ _; omega) (by show (s.names.length : Int) + 2 + 4 * (s.fuel - 1) ≤ _; omega)
  have e3 : Gs.fuel { stepG bs s with fuel := s.fuel - 1 } = s.fuel - 1 := rfl
  have e4 : Gs.names { stepG bs s with fuel := s.fuel - 1 } = s.names := rfl
  rw [e3] at b1 b2 b3 b4
  rw [e4] at b5
  refine ⟨l3, j3, f3, ns3, fun V w0 w av cv g r hv hr hG => ?_, by omega, by omega, by omega, b5⟩
  have C0 : Hid (Cur V w0 av cv bs w g r no w s) := Cur.start hv hr hb hl hG
  have d0_0 := C0.out.gg.c0
  have D3 : Hid (Draws bs 53 (fun g => #[.pointer (some ⟨g, 0, none⟩), .int .i64 ((2 : Nat) : Int)]) { stepG bs s with fuel := s.fuel - 1 } l3 { s with i := j3, fuel := f3, names := ns3 }) := hD3
  clear hG hr hv EX h2 h4 hD3 b1 b2 b3 b4 b5 e3 e4
  go_enter Try.func49, Try.ntmps49
  go_wp2_with (first
    | (go_at_call 53; refine (C2.out.call D3.out).mono ?_; rintro e w3 ⟨a3, c3, rfl, hX, hC, hF⟩; have C3 : Hid _ := hC; have X3_3 : Hid _ := hX; clear hC hX hF; have d0_3 := C3.out.gg.c0)
    | (go_at_call 9; refine (C0.out.next hk1).mono ?_; rintro e w1 ⟨rfl, hC, hF⟩; have C1 : Hid _ := hC; clear hC hF; have C2 : Hid _ := (C1.out.setFuel (s.fuel - 1) (by omega) (by omega)).1; have d2_1 : w1.cell? ⟨g, 2, none⟩ = some (.int .i64 s.fuel) := C1.out.gg.c2; have f2_1 := C1.out.gg.free 2; have d0_2 := C2.out.gg.c0; have d2_2 : (w1.setCell ⟨g, 2, none⟩ (.int .i64 (s.fuel - 1))).cell? ⟨g, 2, none⟩ = some (.int .i64 (s.fuel - 1)) := C2.out.gg.c2))
  go_returns
  exact C3.out.done X3_3.out
set_option maxRecDepth 100000 in
set_option maxHeartbeats 8000000 in
theorem stat_do {bs : List Int} {n : Nat} (hb : Bts bs) (hl : bs.length ≤ 600) (s : Gs) (d : Nat) (hd5 : d ≤ 5) (h1 : 1 ≤ s.fuel) (h2 : s.fuel ≤ n + 1) (h3 : s.fuel ≤ 200) (h4 : (s.names.length : Int) + 4 * s.fuel ≤ 2000) (q : Nat) (hq : nx bs s.i % 32 = (q : Int)) (e : Nat) (hd1 : 1 ≤ d) (hde : (d : Int) - 1 = (e : Int)) (BL : PartC bs n 58 ag1 3) (c1 : q = 28) : ∃ l j f ns, Draws bs 49 (fun g => #[.pointer (some ⟨g, 0, none⟩), .int .i64 (d : Int)]) s l { s with i := j, fuel := f, names := ns } ∧ f ≤ s.fuel - 1 ∧ -10 * s.fuel - 1 ≤ f ∧ (l.length : Int) ≤ 20 * (s.fuel - f) ∧ ns.length ≤ s.names.length + 2 := by
  obtain ⟨k1, hk1, kb1⟩ := nxn hb s.i
  rw [hk1] at hq
  have hq32 : q < 32 := by omega
  subst c1
  have j0 : ¬ ((d : Int) ≤ 0) := by omega
  obtain ⟨l3, j3, f3, hD3, b1_3, b2_3, b3_3, b4_3⟩ := BL { stepG bs s with fuel := s.fuel - 1 } e (by omega) (by show _ ≤ (s.fuel - 1 : Int); omega) (by show (s.fuel - 1 : Int) ≤ _; omega) (by show (s.fuel - 1 : Int) ≤ _; omega) (by show (s.names.length : Int) + 4 * (s.fuel - 1) ≤ _; omega)
  simp only at b1_3 b2_3 b3_3 b4_3
  have HS : Hid ((node (kn 3) [l3]).length ≤ 1000000) := by show _ ≤ _; simp only [node, List.length_cons, List.flatten_cons, List.length_append, List.length_nil, List.flatten_nil]; omega
  refine ⟨node (kn 3) [l3], j3, f3, s.names, fun V w0 w av cv g r hv hr hG => ?_, by omega, by omega, by simp only [node, List.length_cons, List.flatten_cons, List.length_append, List.length_nil, List.flatten_nil]; omega, by omega⟩
  have C0 : Hid (Cur V w0 av cv bs w g r no w s) := Cur.start hv hr hb hl hG
  have d0_0 := C0.out.gg.c0
  have D3 : Hid (Draws bs 58 (fun g => #[.pointer (some ⟨g, 0, none⟩), .int .i64 (e : Int)]) { stepG bs s with fuel := s.fuel - 1 } l3 { s with i := j3, fuel := f3 }) := hD3
  clear hG hr hv BL h2 h4 hD3 b1_3 b2_3 b3_3 b4_3
  go_enter Try.func49, Try.ntmps49
  go_wp2_with (first
    | (go_at_call 45; obtain ⟨QL4, CL4, KL4, _⟩ := C3.out.lit (kr_one X3_3.out) rfl (by simp); refine (CL4.node (n := kn 3) rfl KL4 (rdV_nil _) (rdVV_nil _) HS.out (by simp)).mono ?_; clear CL4 KL4; rintro e w4 ⟨a4, c4, rfl, hX, hC, hF⟩; have C4 : Hid _ := hC; have X4_4 : Hid _ := hX; clear hC hX hF; have d0_4 := C4.out.gg.c0)
    | (go_at_call 58; refine (C2.out.call D3.out).mono ?_; rintro e w3 ⟨a3, c3, rfl, hX, hC, hF⟩; have C3 : Hid _ := hC; have X3_3 : Hid _ := hX; clear hC hX hF; have d0_3 := C3.out.gg.c0)
    | (go_at_call 9; refine (C0.out.next hk1).mono ?_; rintro e w1 ⟨rfl, hC, hF⟩; have C1 : Hid _ := hC; clear hC hF; have C2 : Hid _ := (C1.out.setFuel (s.fuel - 1) (by omega) (by omega)).1; have d2_1 : w1.cell? ⟨g, 2, none⟩ = some (.int .i64 s.fuel) := C1.out.gg.c2; have f2_1 := C1.out.gg.free 2; have d0_2 := C2.out.gg.c0; have d2_2 : (w1.setCell ⟨g, 2, none⟩ (.int .i64 (s.fuel - 1))).cell? ⟨g, 2, none⟩ = some (.int .i64 (s.fuel - 1)) := C2.out.gg.c2))
  go_returns
  exact C4.out.done X4_4.out
set_option maxRecDepth 100000 in
set_option maxHeartbeats 8000000 in
theorem stat_call {bs : List Int} {n : Nat} (hb : Bts bs) (hl : bs.length ≤ 600) (s : Gs) (d : Nat) (hd5 : d ≤ 5) (h1 : 1 ≤ s.fuel) (h2 : s.fuel ≤ n + 1) (h3 : s.fuel ≤ 200) (h4 : (s.names.length : Int) + 4 * s.fuel ≤ 2000) (q : Nat) (hq : nx bs s.i % 32 = (q : Int)) (hd1 : 1 ≤ d) (CA : PartC bs n 60 ag1 6) (c1 : 29 ≤ q) : ∃ l j f ns, Draws bs 49 (fun g => #[.pointer (some ⟨g, 0, none⟩), .int .i64 (d : Int)]) s l { s with i := j, fuel := f, names := ns } ∧ f ≤ s.fuel - 1 ∧ -10 * s.fuel - 1 ≤ f ∧ (l.length : Int) ≤ 20 * (s.fuel - f) ∧ ns.length ≤ s.names.length + 2 := by
  obtain ⟨k1, hk1, kb1⟩ := nxn hb s.i
  rw [hk1] at hq
  have hq32 : q < 32 := by omega
  have j0 : ¬ ((d : Int) ≤ 0) := by omega
  have jq8 : ¬ ((q : Int) < 8) := by omega
  have jq14 : ¬ ((q : Int) < 14) := by omega
  have jq19 : ¬ ((q : Int) < 19) := by omega
  have jq21 : ¬ ((q : Int) < 21) := by omega
  have jq24 : ¬ ((q : Int) < 24) := by omega
  have jq28 : ¬ ((q : Int) < 28) := by omega
  have jq29 : ¬ ((q : Int) = 28) := by omega
  obtain ⟨l3, j3, f3, hD3, b1_3, b2_3, b3_3, b4_3⟩ := CA { stepG bs s with fuel := s.fuel - 1 } 1 (by omega) (by show _ ≤ (s.fuel - 1 : Int); omega) (by show (s.fuel - 1 : Int) ≤ _; omega) (by show (s.fuel - 1 : Int) ≤ _; omega) (by show (s.names.length : Int) + 4 * (s.fuel - 1) ≤ _; omega)
  simp only at b1_3 b2_3 b3_3 b4_3
  have HS : Hid ((node (kn 10) [l3]).length ≤ 1000000) := by show _ ≤ _; simp only [node, List.length_cons, List.flatten_cons, List.length_append, List.length_nil, List.flatten_nil]; omega
  refine ⟨node (kn 10) [l3], j3, f3, s.names, fun V w0 w av cv g r hv hr hG => ?_, by omega, by omega, by simp only [node, List.length_cons, List.flatten_cons, List.length_append, List.length_nil, List.flatten_nil]; omega, by omega⟩
  have C0 : Hid (Cur V w0 av cv bs w g r no w s) := Cur.start hv hr hb hl hG
  have d0_0 := C0.out.gg.c0
  have D3 : Hid (Draws bs 60 (fun g => #[.pointer (some ⟨g, 0, none⟩), .int .i64 ((1 : Nat) : Int)]) { stepG bs s with fuel := s.fuel - 1 } l3 { s with i := j3, fuel := f3 }) := hD3
  clear hG hr hv CA h2 h4 hD3 b1_3 b2_3 b3_3 b4_3
  go_enter Try.func49, Try.ntmps49
  go_wp2_with (first
    | (go_at_call 45; obtain ⟨QL4, CL4, KL4, _⟩ := C3.out.lit (kr_one X3_3.out) rfl (by simp); refine (CL4.node (n := kn 10) rfl KL4 (rdV_nil _) (rdVV_nil _) HS.out (by simp)).mono ?_; clear CL4 KL4; rintro e w4 ⟨a4, c4, rfl, hX, hC, hF⟩; have C4 : Hid _ := hC; have X4_4 : Hid _ := hX; clear hC hX hF; have d0_4 := C4.out.gg.c0)
    | (go_at_call 60; refine (C2.out.call D3.out).mono ?_; rintro e w3 ⟨a3, c3, rfl, hX, hC, hF⟩; have C3 : Hid _ := hC; have X3_3 : Hid _ := hX; clear hC hX hF; have d0_3 := C3.out.gg.c0)
    | (go_at_call 9; refine (C0.out.next hk1).mono ?_; rintro e w1 ⟨rfl, hC, hF⟩; have C1 : Hid _ := hC; clear hC hF; have C2 : Hid _ := (C1.out.setFuel (s.fuel - 1) (by omega) (by omega)).1; have d2_1 : w1.cell? ⟨g, 2, none⟩ = some (.int .i64 s.fuel) := C1.out.gg.c2; have f2_1 := C1.out.gg.free 2; have d0_2 := C2.out.gg.c0; have d2_2 : (w1.setCell ⟨g, 2, none⟩ (.int .i64 (s.fuel - 1))).cell? ⟨g, 2, none⟩ = some (.int .i64 (s.fuel - 1)) := C2.out.gg.c2))
  go_returns
  exact C4.out.done X4_4.out
set_option maxRecDepth 100000 in
set_option maxHeartbeats 8000000 in
theorem stat_loop24 {bs : List Int} {n : Nat} (hb : Bts bs) (hl : bs.length ≤ 600) (s : Gs) (d : Nat) (hd5 : d ≤ 5) (h1 : 1 ≤ s.fuel) (h2 : s.fuel ≤ n + 1) (h3 : s.fuel ≤ 200) (h4 : (s.names.length : Int) + 4 * s.fuel ≤ 2000) (q : Nat) (hq : nx bs s.i % 32 = (q : Int)) (e : Nat) (hd1 : 1 ≤ d) (hde : (d : Int) - 1 = (e : Int)) (EX : ExprC bs n) (BL : PartC bs n 58 ag1 3) (c1 : q = 24) : ∃ l j f ns, Draws bs 49 (fun g => #[.pointer (some ⟨g, 0, none⟩), .int .i64 (d : Int)]) s l { s with i := j, fuel := f, names := ns } ∧ f ≤ s.fuel - 1 ∧ -10 * s.fuel - 1 ≤ f ∧ (l.length : Int) ≤ 20 * (s.fuel - f) ∧ ns.length ≤ s.names.length + 2 := by
  obtain ⟨k1, hk1, kb1⟩ := nxn hb s.i
  rw [hk1] at hq
  have hq32 : q < 32 := by omega
  subst c1
  have j0 : ¬ ((d : Int) ≤ 0) := by omega
  obtain ⟨l3, j3, f3, hD3, b1_3, b2_3, b3_3, b4_3⟩ := loop_for24 hb hl EX BL { stepG bs s with fuel := s.fuel - 1 } d e hd1 hd5 hde (by show _ ≤ s.fuel - 1; omega) (by show s.fuel - 1 ≤ _; omega) (by show s.fuel - 1 ≤ _; omega) (by show (s.names.length : Int) + 1 + 4 * (s.fuel - 1) ≤ _; omega)
  simp only at b1_3 b2_3 b3_3 b4_3
  refine ⟨l3, j3, f3, s.names, fun V w0 w av cv g r hv hr hG => ?_, by omega, by omega, by omega, by omega⟩
  have C0 : Hid (Cur V w0 av cv bs w g r no w s) := Cur.start hv hr hb hl hG
  have d0_0 := C0.out.gg.c0
  have D3 : Hid (Draws bs 59 (fun g => #[.pointer (some ⟨g, 0, none⟩), .int .i64 (d : Int), .int .i64 24]) { stepG bs s with fuel := s.fuel - 1 } l3 { s with i := j3, fuel := f3 }) := hD3
  clear hG hr hv EX BL h2 h4 hD3 b1_3 b2_3 b3_3 b4_3
  go_enter Try.func49, Try.ntmps49
  go_wp2_with (first
    | (go_at_call 59; refine (C2.out.call D3.out).mono ?_; rintro e w3 ⟨a3, c3, rfl, hX, hC, hF⟩; have C3 : Hid _ := hC; have X3_3 : Hid _ := hX; clear hC hX hF; have d0_3 := C3.out.gg.c0)
    | (go_at_call 9; refine (C0.out.next hk1).mono ?_; rintro e w1 ⟨rfl, hC, hF⟩; have C1 : Hid _ := hC; clear hC hF; have C2 : Hid _ := (C1.out.setFuel (s.fuel - 1) (by omega) (by omega)).1; have d2_1 : w1.cell? ⟨g, 2, none⟩ = some (.int .i64 s.fuel) := C1.out.gg.c2; have f2_1 := C1.out.gg.free 2; have d0_2 := C2.out.gg.c0; have d2_2 : (w1.setCell ⟨g, 2, none⟩ (.int .i64 (s.fuel - 1))).cell? ⟨g, 2, none⟩ = some (.int .i64 (s.fuel - 1)) := C2.out.gg.c2))
  go_returns
  exact C3.out.done X3_3.out
set_option maxRecDepth 100000 in
set_option maxHeartbeats 8000000 in
theorem stat_loop25 {bs : List Int} {n : Nat} (hb : Bts bs) (hl : bs.length ≤ 600) (s : Gs) (d : Nat) (hd5 : d ≤ 5) (h1 : 1 ≤ s.fuel) (h2 : s.fuel ≤ n + 1) (h3 : s.fuel ≤ 200) (h4 : (s.names.length : Int) + 4 * s.fuel ≤ 2000) (q : Nat) (hq : nx bs s.i % 32 = (q : Int)) (e : Nat) (hd1 : 1 ≤ d) (hde : (d : Int) - 1 = (e : Int)) (EX : ExprC bs n) (BL : PartC bs n 58 ag1 3) (c1 : q = 25) : ∃ l j f ns, Draws bs 49 (fun g => #[.pointer (some ⟨g, 0, none⟩), .int .i64 (d : Int)]) s l { s with i := j, fuel := f, names := ns } ∧ f ≤ s.fuel - 1 ∧ -10 * s.fuel - 1 ≤ f ∧ (l.length : Int) ≤ 20 * (s.fuel - f) ∧ ns.length ≤ s.names.length + 2 := by
  obtain ⟨k1, hk1, kb1⟩ := nxn hb s.i
  rw [hk1] at hq
  have hq32 : q < 32 := by omega
  subst c1
  have j0 : ¬ ((d : Int) ≤ 0) := by omega
  obtain ⟨l3, j3, f3, hD3, b1_3, b2_3, b3_3, b4_3⟩ := loop_for25 hb hl EX BL { stepG bs s with fuel := s.fuel - 1 } d e hd1 hd5 hde (by show _ ≤ s.fuel - 1; omega) (by show s.fuel - 1 ≤ _; omega) (by show s.fuel - 1 ≤ _; omega) (by show (s.names.length : Int) + 1 + 4 * (s.fuel - 1) ≤ _; omega)
  simp only at b1_3 b2_3 b3_3 b4_3
  refine ⟨l3, j3, f3, s.names, fun V w0 w av cv g r hv hr hG => ?_, by omega, by omega, by omega, by omega⟩
  have C0 : Hid (Cur V w0 av cv bs w g r no w s) := Cur.start hv hr hb hl hG
  have d0_0 := C0.out.gg.c0
  have D3 : Hid (Draws bs 59 (fun g => #[.pointer (some ⟨g, 0, none⟩), .int .i64 (d : Int), .int .i64 25]) { stepG bs s with fuel := s.fuel - 1 } l3 { s with i := j3, fuel := f3 }) := hD3
  clear hG hr hv EX BL h2 h4 hD3 b1_3 b2_3 b3_3 b4_3
  go_enter Try.func49, Try.ntmps49
  go_wp2_with (first
    | (go_at_call 59; refine (C2.out.call D3.out).mono ?_; rintro e w3 ⟨a3, c3, rfl, hX, hC, hF⟩; have C3 : Hid _ := hC; have X3_3 : Hid _ := hX; clear hC hX hF; have d0_3 := C3.out.gg.c0)
    | (go_at_call 9; refine (C0.out.next hk1).mono ?_; rintro e w1 ⟨rfl, hC, hF⟩; have C1 : Hid _ := hC; clear hC hF; have C2 : Hid _ := (C1.out.setFuel (s.fuel - 1) (by omega) (by omega)).1; have d2_1 : w1.cell? ⟨g, 2, none⟩ = some (.int .i64 s.fuel) := C1.out.gg.c2; have f2_1 := C1.out.gg.free 2; have d0_2 := C2.out.gg.c0; have d2_2 : (w1.setCell ⟨g, 2, none⟩ (.int .i64 (s.fuel - 1))).cell? ⟨g, 2, none⟩ = some (.int .i64 (s.fuel - 1)) := C2.out.gg.c2))
  go_returns
  exact C3.out.done X3_3.out
set_option maxRecDepth 100000 in
set_option maxHeartbeats 8000000 in
theorem stat_loop26 {bs : List Int} {n : Nat} (hb : Bts bs) (hl : bs.length ≤ 600) (s : Gs) (d : Nat) (hd5 : d ≤ 5) (h1 : 1 ≤ s.fuel) (h2 : s.fuel ≤ n + 1) (h3 : s.fuel ≤ 200) (h4 : (s.names.length : Int) + 4 * s.fuel ≤ 2000) (q : Nat) (hq : nx bs s.i % 32 = (q : Int)) (e : Nat) (hd1 : 1 ≤ d) (hde : (d : Int) - 1 = (e : Int)) (EX : ExprC bs n) (BL : PartC bs n 58 ag1 3) (c1 : q = 26) : ∃ l j f ns, Draws bs 49 (fun g => #[.pointer (some ⟨g, 0, none⟩), .int .i64 (d : Int)]) s l { s with i := j, fuel := f, names := ns } ∧ f ≤ s.fuel - 1 ∧ -10 * s.fuel - 1 ≤ f ∧ (l.length : Int) ≤ 20 * (s.fuel - f) ∧ ns.length ≤ s.names.length + 2 := by
  obtain ⟨k1, hk1, kb1⟩ := nxn hb s.i
  rw [hk1] at hq
  have hq32 : q < 32 := by omega
  subst c1
  have j0 : ¬ ((d : Int) ≤ 0) := by omega
  obtain ⟨l3, j3, f3, hD3, b1_3, b2_3, b3_3, b4_3⟩ := loop_while hb hl EX BL { stepG bs s with fuel := s.fuel - 1 } d e hd1 hd5 hde (by show _ ≤ s.fuel - 1; omega) (by show s.fuel - 1 ≤ _; omega) (by show s.fuel - 1 ≤ _; omega) (by show (s.names.length : Int) + 1 + 4 * (s.fuel - 1) ≤ _; omega)
  simp only at b1_3 b2_3 b3_3 b4_3
  refine ⟨l3, j3, f3, s.names, fun V w0 w av cv g r hv hr hG => ?_, by omega, by omega, by omega, by omega⟩
  have C0 : Hid (Cur V w0 av cv bs w g r no w s) := Cur.start hv hr hb hl hG
  have d0_0 := C0.out.gg.c0
  have D3 : Hid (Draws bs 59 (fun g => #[.pointer (some ⟨g, 0, none⟩), .int .i64 (d : Int), .int .i64 26]) { stepG bs s with fuel := s.fuel - 1 } l3 { s with i := j3, fuel := f3 }) := hD3
  clear hG hr hv EX BL h2 h4 hD3 b1_3 b2_3 b3_3 b4_3
  go_enter Try.func49, Try.ntmps49
  go_wp2_with (first
    | (go_at_call 59; refine (C2.out.call D3.out).mono ?_; rintro e w3 ⟨a3, c3, rfl, hX, hC, hF⟩; have C3 : Hid _ := hC; have X3_3 : Hid _ := hX; clear hC hX hF; have d0_3 := C3.out.gg.c0)
    | (go_at_call 9; refine (C0.out.next hk1).mono ?_; rintro e w1 ⟨rfl, hC, hF⟩; have C1 : Hid _ := hC; clear hC hF; have C2 : Hid _ := (C1.out.setFuel (s.fuel - 1) (by omega) (by omega)).1; have d2_1 : w1.cell? ⟨g, 2, none⟩ = some (.int .i64 s.fuel) := C1.out.gg.c2; have f2_1 := C1.out.gg.free 2; have d0_2 := C2.out.gg.c0; have d2_2 : (w1.setCell ⟨g, 2, none⟩ (.int .i64 (s.fuel - 1))).cell? ⟨g, 2, none⟩ = some (.int .i64 (s.fuel - 1)) := C2.out.gg.c2))
  go_returns
  exact C3.out.done X3_3.out
set_option maxRecDepth 100000 in
set_option maxHeartbeats 8000000 in
theorem stat_loop27 {bs : List Int} {n : Nat} (hb : Bts bs) (hl : bs.length ≤ 600) (s : Gs) (d : Nat) (hd5 : d ≤ 5) (h1 : 1 ≤ s.fuel) (h2 : s.fuel ≤ n + 1) (h3 : s.fuel ≤ 200) (h4 : (s.names.length : Int) + 4 * s.fuel ≤ 2000) (q : Nat) (hq : nx bs s.i % 32 = (q : Int)) (e : Nat) (hd1 : 1 ≤ d) (hde : (d : Int) - 1 = (e : Int)) (EX : ExprC bs n) (BL : PartC bs n 58 ag1 3) (c1 : q = 27) : ∃ l j f ns, Draws bs 49 (fun g => #[.pointer (some ⟨g, 0, none⟩), .int .i64 (d : Int)]) s l { s with i := j, fuel := f, names := ns } ∧ f ≤ s.fuel - 1 ∧ -10 * s.fuel - 1 ≤ f ∧ (l.length : Int) ≤ 20 * (s.fuel - f) ∧ ns.length ≤ s.names.length + 2 := by
  obtain ⟨k1, hk1, kb1⟩ := nxn hb s.i
  rw [hk1] at hq
  have hq32 : q < 32 := by omega
  subst c1
  have j0 : ¬ ((d : Int) ≤ 0) := by omega
  obtain ⟨l3, j3, f3, hD3, b1_3, b2_3, b3_3, b4_3⟩ := loop_repeat hb hl EX BL { stepG bs s with fuel := s.fuel - 1 } d e hd1 hd5 hde (by show _ ≤ s.fuel - 1; omega) (by show s.fuel - 1 ≤ _; omega) (by show s.fuel - 1 ≤ _; omega) (by show (s.names.length : Int) + 1 + 4 * (s.fuel - 1) ≤ _; omega)
  simp only at b1_3 b2_3 b3_3 b4_3
  refine ⟨l3, j3, f3, s.names, fun V w0 w av cv g r hv hr hG => ?_, by omega, by omega, by omega, by omega⟩
  have C0 : Hid (Cur V w0 av cv bs w g r no w s) := Cur.start hv hr hb hl hG
  have d0_0 := C0.out.gg.c0
  have D3 : Hid (Draws bs 59 (fun g => #[.pointer (some ⟨g, 0, none⟩), .int .i64 (d : Int), .int .i64 27]) { stepG bs s with fuel := s.fuel - 1 } l3 { s with i := j3, fuel := f3 }) := hD3
  clear hG hr hv EX BL h2 h4 hD3 b1_3 b2_3 b3_3 b4_3
  go_enter Try.func49, Try.ntmps49
  go_wp2_with (first
    | (go_at_call 59; refine (C2.out.call D3.out).mono ?_; rintro e w3 ⟨a3, c3, rfl, hX, hC, hF⟩; have C3 : Hid _ := hC; have X3_3 : Hid _ := hX; clear hC hX hF; have d0_3 := C3.out.gg.c0)
    | (go_at_call 9; refine (C0.out.next hk1).mono ?_; rintro e w1 ⟨rfl, hC, hF⟩; have C1 : Hid _ := hC; clear hC hF; have C2 : Hid _ := (C1.out.setFuel (s.fuel - 1) (by omega) (by omega)).1; have d2_1 : w1.cell? ⟨g, 2, none⟩ = some (.int .i64 s.fuel) := C1.out.gg.c2; have f2_1 := C1.out.gg.free 2; have d0_2 := C2.out.gg.c0; have d2_2 : (w1.setCell ⟨g, 2, none⟩ (.int .i64 (s.fuel - 1))).cell? ⟨g, 2, none⟩ = some (.int .i64 (s.fuel - 1)) := C2.out.gg.c2))
  go_returns
  exact C3.out.done X3_3.out
end Go.Proofs.Ytepbddfpdlapbaa.tk
