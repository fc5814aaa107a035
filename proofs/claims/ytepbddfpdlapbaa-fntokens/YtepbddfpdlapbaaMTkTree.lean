import Derived.Test.YtepbddfpdlapbaaMTkFunc
namespace Go.Proofs.Ytepbddfpdlapbaa.tk
open Go.RowKit Go.Proofs.Ytepbddfpdlapbaa.bts Go.Proofs.Ytepbddfpdlapbaa.nod
theorem seqLeft {bs : List Int} {n : Nat} (S : StatC bs n) (s : Gs) (d : Nat) (m : Nat) (hd : d ≤ 5) (h2 : s.fuel ≤ n) (h3 : s.fuel ≤ 200) (h4 : (s.names.length : Int) + 4 * s.fuel ≤ 2000) (h0 : 0 < s.fuel) :
    ∃ (t : Nat) (js : Nat → Nat) (fs : Nat → Int) (ns : Nat → List ByteArray) (ls : Nat → List Nd), t ≤ m ∧ js 0 = s.i ∧ fs 0 = s.fuel ∧ ns 0 = s.names ∧ (t = m ∨ bs.length - js t = 0 ∨ fs t ≤ 0) ∧
      (∀ k, k < t → 0 < bs.length - js k ∧ 0 < fs k ∧ Draws bs 49 (fun g => #[.pointer (some ⟨g, 0, none⟩), .int .i64 (d : Int)]) { s with i := js k, fuel := fs k, names := ns k } (ls k) { s with i := js (k + 1), fuel := fs (k + 1), names := ns (k + 1) }) ∧
      ∀ k, k ≤ t → fs k ≤ s.fuel - k ∧ -10 * s.fuel - 1 ≤ fs k ∧ ((upto ls k).flatten.length : Int) ≤ 20 * (s.fuel - fs k) ∧ ((ns k).length : Int) + 4 * fs k ≤ s.names.length + 4 * s.fuel := by
  induction m with
  | zero => exact ⟨0, fun _ => s.i, fun _ => s.fuel, fun _ => s.names, fun _ => [], Nat.le_refl _, rfl, rfl, rfl, .inl rfl, fun k hk => absurd hk (by omega), fun k hk => by
      obtain rfl : k = 0 := by omega
      simp [upto]
      omega⟩
  | succ m ih =>
    obtain ⟨t, js, fs, ns, ls, htm, e1, e2, e3, hend, hD, hB⟩ := ih
    by_cases hz : bs.length - js t = 0
    · exact ⟨t, js, fs, ns, ls, by omega, e1, e2, e3, .inr (.inl hz), hD, hB⟩
    by_cases hf : fs t ≤ 0
    · exact ⟨t, js, fs, ns, ls, by omega, e1, e2, e3, .inr (.inr hf), hD, hB⟩
    · obtain rfl : t = m := by omega
      have hb := hB t (Nat.le_refl _)
      obtain ⟨l, j, f, nn, hDl, b1, b2, b3, b4⟩ := S { s with i := js t, fuel := fs t, names := ns t } d hd (by show _ < fs t; omega) (by show fs t ≤ _; omega) (by show fs t ≤ _; omega) (by show ((ns t).length : Int) + 4 * fs t ≤ _; omega)
      simp only at b1 b2 b3 b4
      refine ⟨t + 1, fun k => if k ≤ t then js k else j, fun k => if k ≤ t then fs k else f, fun k => if k ≤ t then ns k else nn, fun k => if k < t then ls k else l, Nat.le_refl _, by simp [e1], by simp [e2], by simp [e3], .inl rfl, fun k hk => ?_, fun k hk => ?_⟩
      · by_cases hkm : k < t
        · have := hD k hkm
          simp only [if_pos (show k ≤ t by omega), if_pos (show k + 1 ≤ t by omega), if_pos hkm]
          exact this
        · obtain rfl : k = t := by omega
          simp only [if_pos (Nat.le_refl k), if_neg (show ¬ k + 1 ≤ k by omega), if_neg (Nat.lt_irrefl k)]
          exact ⟨by omega, by omega, hDl⟩
      · have hup : ∀ k, k ≤ t → upto (fun k => if k < t then ls k else l) k = upto ls k := fun k hk => by
          unfold upto
          refine List.map_congr_left (fun i hi => ?_)
          rw [List.mem_range] at hi
          rw [if_pos (by omega)]
        by_cases hkm : k ≤ t
        · rw [hup k hkm]
          simp only [if_pos hkm]
          exact hB k hkm
        · obtain rfl : k = t + 1 := by omega
          rw [upto_succ, hup t (Nat.le_refl _)]
          simp only [if_neg (show ¬ t + 1 ≤ t by omega), if_neg (Nat.lt_irrefl t), List.flatten_append, List.length_append, List.flatten_cons, List.flatten_nil, List.append_nil]
          refine ⟨by omega, by omega, by omega, ?_⟩
          have : (nn.length : Int) ≤ (ns t).length + 2 := by omega
          omega
theorem rd_one {B : Nat → Bool} {W : World} (h : B W.heap.size = false) (z : Int) (hz : 0 ≤ z ∧ z ≤ 255) (T : TypeId) (fr : Nat × Nat) : RdV (veil B (W.alloc (.cells #[.int .u8 z] T fr))) (.slice (some ⟨W.heap.size, 0, none⟩) 1 1) [z] :=
  ⟨_, 1, rfl, by simp, fun i hi => by
    have : i = 0 := by simpa using hi
    subst this
    exact ⟨W.heap.size, 0, rfl, cell_veil (by unfold World.cell?; rw [heap_alloc_new]; rfl) h⟩, bts_one _ hz⟩
theorem three_names {B : Nat → Bool} {W : World} (h : ∀ b, W.heap.size ≤ b → B b = false) (x y z : Int) (hx : 0 ≤ x ∧ x ≤ 255) (hy : 0 ≤ y ∧ y ≤ 255) (hz : 0 ≤ z ∧ z ≤ 255) (T1 T2 T3 U : TypeId) (f1 f2 f3 : Nat × Nat) :
    RdVV (veil B ((((W.alloc (.cells #[.int .u8 x] T1 f1)).alloc (.cells #[.int .u8 y] T2 f2)).alloc (.cells #[.int .u8 z] T3 f3)).alloc (.cells #[.slice (some ⟨W.heap.size, 0, none⟩) 1 1, .slice (some ⟨W.heap.size + 1, 0, none⟩) 1 1, .slice (some ⟨W.heap.size + 2, 0, none⟩) 1 1] U))) (.slice (some ⟨W.heap.size + 3, 0, none⟩) 3 3) [[x], [y], [z]] := by
  have r1 := rd_one (h W.heap.size (Nat.le_refl _)) x hx T1 f1
  have r2 := rd_one (W := W.alloc (.cells #[.int .u8 x] T1 f1)) (h _ (by simp)) y hy T2 f2
  have r3 := rd_one (W := (W.alloc (.cells #[.int .u8 x] T1 f1)).alloc (.cells #[.int .u8 y] T2 f2)) (h _ (by simp; omega)) z hz T3 f3
  simp only [World.size_alloc] at r2 r3
  have r1 := RdV.up (RdV.up (RdV.up r1 (up_alloc _ _ (.cells #[.int .u8 y] T2 f2))) (up_alloc _ _ (.cells #[.int .u8 z] T3 f3))) (up_alloc _ _ (.cells #[.slice (some ⟨W.heap.size, 0, none⟩) 1 1, .slice (some ⟨W.heap.size + 1, 0, none⟩) 1 1, .slice (some ⟨W.heap.size + 2, 0, none⟩) 1 1] U))
  have r2 := RdV.up (RdV.up r2 (up_alloc _ _ (.cells #[.int .u8 z] T3 f3))) (up_alloc _ _ (.cells #[.slice (some ⟨W.heap.size, 0, none⟩) 1 1, .slice (some ⟨W.heap.size + 1, 0, none⟩) 1 1, .slice (some ⟨W.heap.size + 2, 0, none⟩) 1 1] U))
  have r3 := RdV.up r3 (up_alloc _ _ (.cells #[.slice (some ⟨W.heap.size, 0, none⟩) 1 1, .slice (some ⟨W.heap.size + 1, 0, none⟩) 1 1, .slice (some ⟨W.heap.size + 2, 0, none⟩) 1 1] U))
  have hcell : ∀ j u, #[Value.slice (some ⟨W.heap.size, 0, none⟩) 1 1, .slice (some ⟨W.heap.size + 1, 0, none⟩) 1 1, .slice (some ⟨W.heap.size + 2, 0, none⟩) 1 1][j]? = some u → (veil B ((((W.alloc (.cells #[.int .u8 x] T1 f1)).alloc (.cells #[.int .u8 y] T2 f2)).alloc (.cells #[.int .u8 z] T3 f3)).alloc (.cells #[.slice (some ⟨W.heap.size, 0, none⟩) 1 1, .slice (some ⟨W.heap.size + 1, 0, none⟩) 1 1, .slice (some ⟨W.heap.size + 2, 0, none⟩) 1 1] U))).cell? ⟨W.heap.size + 3, j, none⟩ = some u := fun j u hu => by
    have := cell_new (w := ((W.alloc (.cells #[.int .u8 x] T1 f1)).alloc (.cells #[.int .u8 y] T2 f2)).alloc (.cells #[.int .u8 z] T3 f3)) (T := U) (B := B) (h _ (by simp; omega)) hu
    simp only [World.size_alloc] at this
    exact this
  refine ⟨_, 3, rfl, by simp, fun i hi => ?_⟩
  have hi3 : i < 3 := by simpa using hi
  have : i = 0 ∨ i = 1 ∨ i = 2 := by omega
  rcases this with rfl | rfl | rfl
  · exact ⟨_, 0, _, rfl, hcell 0 _ rfl, r1⟩
  · exact ⟨_, 0, _, rfl, hcell 1 _ rfl, r2⟩
  · exact ⟨_, 0, _, rfl, hcell 2 _ rfl, r3⟩
section
variable {V Q : Nat → Bool} {w0 w W W' : World} {av : Option Addr} {cv g r : Nat} {bs : List Int} {s s' : Gs} {x : Value} {l : List Nd}
theorem step_append_kids {ops : Array Oper} {o : Oper} {a : Act} {K : Act → World → Prop} {Z : Exit → Act → World → Prop} {X : Prop} (hgd : o.guard = none) (sv xv : Operand)
    (ho : o.op = .call { callee := .builtin .append, args := #[sv, xv], argTypes := #[72, 72] })
    (C : Cur V w0 av cv bs w g r Q W s) {ao : Option Addr} {n c m : Nat} {ks ls : List (List Nd)} (xs : List Value) (hs : a.eval sv = .slice ao n c) (hxe : a.eval xv = .slice (some ⟨W.heap.size, 0, none⟩) m m) (hW : W' = W.alloc (.cells xs.toArray 60))
    (hK : Kids w Q W (.slice ao n c) ks) (hn : n = ks.length) (hx : KR (hd w Q) W xs ls) (hm : ks.length + ls.length ≤ 1000) (hml : m = xs.length)
    (h : ∀ a' c' w' Q', Kids w Q' w' (.slice a' (n + m) c') (ks ++ ls) → Cur V w0 av cv bs w g r Q' w' s → Mv V w Q W Q' w' → K (a.put o.dst (.slice a' (n + m) c')) w') :
    if Region.wanted o (yielded ops a.tmps) = true then Oper.wp Try.prog o a W' K Z else X := by
  subst hW
  have hw : Region.wanted o (yielded ops a.tmps) = true := by simp [Region.wanted, hgd]
  rw [if_pos hw]
  obtain ⟨a', c', w', Q', h2, h3, h4, h5⟩ := C.append hK hn hx hm o.type m hml
  unfold Oper.wp execOp
  simp only [ho, resolve, invoke, builtin, Sem.run_bind, Sem.run_pure, Result.andThen_ok, List.map_toArray, List.map_cons, List.map_nil, hs, hxe, h2]
  exact h a' c' w' Q' h3 h4 h5
theorem Cur.left (C : Cur V w0 av cv bs w g r Q W s) {lf : Int} (hlf : ((bs.length - s.i : Nat) : Int) = lf) :
    Calls Try.prog 48 #[.pointer (some ⟨r, 0, none⟩)] W fun e w' => e = .returned (.int .i64 lf) ∧ Cur V w0 av cv bs w g r Q w' s ∧ Fg g r W w' :=
  (left_any w0 W av cv r s.i bs C.le C.gg.rd).mono (by
    rintro e w' ⟨rfl, hR, hQ⟩
    exact ⟨by rw [hlf], C.to (.ofq hQ) (C.gg.next hR hQ), .ofq hQ⟩)
theorem tree_end {w1 : World} {j : Nat} {a : Option Addr} {c : Nat} (h0 : Below w.heap.size w w1) (h1 : w1.heap.size = w.heap.size + 1) (hX : FN (tk.lt w1.heap.size) W (.slice a l.length c) l) (hG : Gg V w0 av cv bs W w.heap.size r s) (hF : Fg w.heap.size r w1 W) (hj : s.i = j := by rfl) :
    ∃ a' c', Ending.returned (.slice a l.length c) = .returned (.slice a' l.length c') ∧ FN (tk.lt w.heap.size) W (.slice a' l.length c') l ∧ Rr w0 av cv bs W r j ∧ Fq r w W := by
  subst hj
  have hlt := hG.lt
  refine ⟨a, c, rfl, hX.less (fun b hb => ?_), hG.rd, ?_, fun b hb hbr => ?_⟩
  · simp only [tk.lt, decide_eq_false_iff_not] at hb ⊢
    omega
  · exact (h0.mono (by omega)).trans (hF.below.mono (by omega))
  · exact (hF.keep b (by omega) hbr (by omega)).trans (h0.block b hb)
theorem table_nil (W : World) : Calls Try.prog 45 #[.agg #[.int .i64 20, .int .i64 0, .slice none 0 0, .slice none 0 0, .int .i64 0], .slice none 0 0] W fun e w' => ∃ x, e = .returned x ∧ FN (tk.lt W.heap.size) w' x (node (kn 20) []) ∧ Below W.heap.size W w' :=
  l3node_any (tk.lt W.heap.size) W (kn 20) _ _ _ [] (fun _ hb => lt_ge hb) (rdV_nil _) (rdVV_nil _) ⟨none, 0, rfl, fun i hi => absurd hi (by simp)⟩ (by simp [node]) (by simp)
end
def FirstAt (W : World) (F NB : Nat) : Prop := W.heap[F]? = some (.cells #[.int .i64 1, .int .i64 0, .slice none 0 0, .slice (some ⟨NB, 0, none⟩) 3 3, .int .i64 0] 75)
theorem FirstAt.keep {W W' : World} {F NB g r : Nat} (h : FirstAt W F NB) (hF : Fg g r W W') (h1 : F ≠ g) (h2 : F ≠ r) : FirstAt W' F NB := (hF.keep F (heap_lt h) h2 h1).trans h
theorem FirstAt.alloc {W : World} {F NB : Nat} (h : FirstAt W F NB) (o : Obj) : FirstAt (W.alloc o) F NB := (heap_alloc_old _ _ (heap_lt h)).trans h
theorem FirstAt.cells {W : World} {F NB : Nat} (h : FirstAt W F NB) : W.cell? ⟨F, 0, none⟩ = some (.int .i64 1) ∧ W.cell? ⟨F, 1, none⟩ = some (.int .i64 0) ∧ W.cell? ⟨F, 2, none⟩ = some (.slice none 0 0) ∧ W.cell? ⟨F, 3, none⟩ = some (.slice (some ⟨NB, 0, none⟩) 3 3) ∧ W.cell? ⟨F, 4, none⟩ = some (.int .i64 0) := by
  unfold FirstAt at h
  unfold World.cell?
  rw [h]
  exact ⟨rfl, rfl, rfl, rfl, rfl⟩
def ns0 : List ByteArray := [{ data := #[97] }, { data := #[98] }, { data := #[116] }, { data := #[97] }]
def firstN (z : Int) : List Nd := node ⟨1, 0, [], [[97], [98], [116]], 0⟩ [intN z, textN { data := #[115] }, node (kn 20) []]
set_option maxRecDepth 100000 in
set_option maxHeartbeats 4000000 in
theorem tree_any {bs : List Int} (hb : Bts bs) (hl : bs.length ≤ 600) (i : Nat) : ∃ (l : List Nd) (j : Nat), 0 < l.length ∧ l.length ≤ 60000 ∧ ∀ (w0 w : World) (av : Option Addr) (cv r : Nat), Rd w0 av bs → Rr w0 av cv bs w r i →
    Calls Try.prog 38 #[.pointer (some ⟨r, 0, none⟩)] w fun e w' => ∃ a' c', e = .returned (.slice a' l.length c') ∧ FN (tk.lt w.heap.size) w' (.slice a' l.length c') l ∧ Rr w0 av cv bs w' r j ∧ Fq r w w' := by
  obtain ⟨k1, hk1, kb1⟩ := nxn hb i
  obtain ⟨m, hm, hm6⟩ : ∃ m : Nat, ((k1 : Int) % 6) = (m : Int) ∧ m < 6 := ⟨k1 % 6, by omega, by omega⟩
  have ST := (draw_all hb hl (fun n => func_of hb hl) 120).2
  obtain ⟨t, js, fs, ns, ls, htm, e1, e2, e3, hend, hD, hB⟩ := seqLeft ST { i := nxi bs i, names := ns0, fuel := 120, loop := false, fn := false } 3 14 (by omega) (by show (120 : Int) ≤ _; omega) (by show (120 : Int) ≤ _; omega) (by show ((4 : Nat) : Int) + 4 * 120 ≤ _; omega) (by show (0 : Int) < 120; omega)
  simp only at e1 e2 e3 hD hB
  have hBt := hB t (Nat.le_refl _)
  refine ⟨node (kn 0) (firstN (m : Int) :: upto ls t), js t, by simp [node], ?_, fun w0 w av cv r hr hR => ?_⟩
  · simp only [node, List.length_cons, List.flatten_cons, List.length_append, firstN, List.flatten_nil, List.length_nil, intN, textN, kn]
    omega
  have hlt := hR.lt
  have hG : Gg (tk.lt (w.heap.size + 1)) w0 av cv bs (w.alloc (.cells #[.pointer (some ⟨r, 0, none⟩), .slice none 0 0, .int .i64 120, .bool false, .bool false] 71)) w.heap.size r { i := i, names := [], fuel := 120, loop := false, fn := false } :=
    ⟨hR.keep ((Below.refl _ _).alloc (Nat.le_refl _) _), hlt, ⟨_, Lone.of (heap_alloc_new _ _) rfl, ⟨none, 0, rfl, Nat.le_refl _, fun i hi => absurd hi (by simp)⟩⟩, by simp [tk.lt], by simp [tk.lt]; omega, by simp, by simp, by show -100000 ≤ (120 : Int); omega, by show (120 : Int) ≤ 100000; omega⟩
  have hC := Cur.start (fun b h => by simp [tk.lt] at h ⊢; omega) hr hb hl hG
  obtain ⟨WA, hWA⟩ : ∃ W, W = (((((w.alloc (.cells #[.pointer (some ⟨r, 0, none⟩), .slice none 0 0, .int .i64 120, .bool false, .bool false] 71)).alloc (.cells #[.int .u8 97] 5 (1, 2))).alloc (.cells #[.int .u8 98] 5 (1, 2))).alloc (.cells #[.int .u8 116] 5 (1, 2))).alloc (.cells #[.slice (some ⟨w.heap.size + 1, 0, none⟩) 1 1, .slice (some ⟨w.heap.size + 2, 0, none⟩) 1 1, .slice (some ⟨w.heap.size + 3, 0, none⟩) 1 1] 22)) := ⟨_, rfl⟩
  have hBA : Below (w.alloc (.cells #[.pointer (some ⟨r, 0, none⟩), .slice none 0 0, .int .i64 120, .bool false, .bool false] 71)).heap.size (w.alloc (.cells #[.pointer (some ⟨r, 0, none⟩), .slice none 0 0, .int .i64 120, .bool false, .bool false] 71)) (((((w.alloc (.cells #[.pointer (some ⟨r, 0, none⟩), .slice none 0 0, .int .i64 120, .bool false, .bool false] 71)).alloc (.cells #[.int .u8 97] 5 (1, 2))).alloc (.cells #[.int .u8 98] 5 (1, 2))).alloc (.cells #[.int .u8 116] 5 (1, 2))).alloc (.cells #[.slice (some ⟨w.heap.size + 1, 0, none⟩) 1 1, .slice (some ⟨w.heap.size + 2, 0, none⟩) 1 1, .slice (some ⟨w.heap.size + 3, 0, none⟩) 1 1] 22)) := ((((Below.refl _ _).alloc (Nat.le_refl _) _).alloc (by simp) _).alloc (by simp) _).alloc (by simp) _
  obtain ⟨hC1, hF1⟩ := hC.bel hBA
  have hN1 := three_names (W := (w.alloc (.cells #[.pointer (some ⟨r, 0, none⟩), .slice none 0 0, .int .i64 120, .bool false, .bool false] 71))) (B := tk.lt (w.heap.size + 1)) (fun b h => lt_ge (by simpa using h)) 97 98 116 (by omega) (by omega) (by omega) 5 5 5 22 (1, 2) (1, 2) (1, 2)
  have hsz : (w.alloc (.cells #[.pointer (some ⟨r, 0, none⟩), .slice none 0 0, .int .i64 120, .bool false, .bool false] 71)).heap.size = w.heap.size + 1 := by simp
  rw [hsz] at hN1
  have kv1 := Joins.run_convert_bytes_const_at (P := Try.prog) (w.alloc (.cells #[.pointer (some ⟨r, 0, none⟩), .slice none 0 0, .int .i64 120, .bool false, .bool false] 71)) 22 5 #[.int .u8 97] 1 1 (w.heap.size + 1) (by simp) Try.underlying22 Try.underlying5
  have kv2 := Joins.run_convert_bytes_const_at (P := Try.prog) ((w.alloc (.cells #[.pointer (some ⟨r, 0, none⟩), .slice none 0 0, .int .i64 120, .bool false, .bool false] 71)).alloc (.cells #[.int .u8 97] 5 (1, 2))) 22 5 #[.int .u8 98] 1 1 (w.heap.size + 2) (by simp) Try.underlying22 Try.underlying5
  have kv3 := Joins.run_convert_bytes_const_at (P := Try.prog) (((w.alloc (.cells #[.pointer (some ⟨r, 0, none⟩), .slice none 0 0, .int .i64 120, .bool false, .bool false] 71)).alloc (.cells #[.int .u8 97] 5 (1, 2))).alloc (.cells #[.int .u8 98] 5 (1, 2))) 22 5 #[.int .u8 116] 1 1 (w.heap.size + 3) (by simp) Try.underlying22 Try.underlying5
  rw [← hWA] at hC1 hF1 hN1
  have hWs : WA.heap.size = w.heap.size + 1 + 1 + 1 + 1 + 1 := by rw [hWA]; simp
  have hBB : Below WA.heap.size WA (WA.alloc (.cells #[.int .i64 1, .int .i64 0, .slice none 0 0, .slice (some ⟨w.heap.size + 1 + 1 + 1 + 1, 0, none⟩) 3 3, .int .i64 0] 75)) := (Below.refl _ _).alloc (Nat.le_refl _) _
  obtain ⟨hC2, hF2⟩ := hC1.bel hBB
  have hFA : FirstAt (WA.alloc (.cells #[.int .i64 1, .int .i64 0, .slice none 0 0, .slice (some ⟨w.heap.size + 1 + 1 + 1 + 1, 0, none⟩) 3 3, .int .i64 0] 75)) (w.heap.size + 1 + 1 + 1 + 1 + 1) (w.heap.size + 1 + 1 + 1 + 1) := by have := heap_alloc_new WA (.cells #[.int .i64 1, .int .i64 0, .slice none 0 0, .slice (some ⟨w.heap.size + 1 + 1 + 1 + 1, 0, none⟩) 3 3, .int .i64 0] 75); rw [hWs] at this; exact this
  have hN2 := RdVV.up hN1 (up_alloc _ _ (.cells #[.int .i64 1, .int .i64 0, .slice none 0 0, .slice (some ⟨w.heap.size + 1 + 1 + 1 + 1, 0, none⟩) 3 3, .int .i64 0] 75))
  have hne1 : w.heap.size + 1 + 1 + 1 + 1 + 1 ≠ w.heap.size := by omega
  have hne2 : w.heap.size + 1 + 1 + 1 + 1 + 1 ≠ r := by omega
  have t6 : (k1 : Int).tmod 6 = (m : Int) := by rw [Int.tmod_eq_emod_of_nonneg (by omega)]; exact hm
  have t7 : IntKind.i64.wrap ((k1 : Int).tmod 6) = (m : Int) := by rw [t6]; exact wrap_small m (by omega)
  have hfs : ∀ k, k ≤ t → -50000 ≤ fs k ∧ fs k ≤ 200 := fun k hk => by have := hB k hk; omega
  have HS1 : Hid ((firstN (m : Int)).length ≤ 1000000) := by show _ ≤ _; simp only [firstN, node, List.length_cons, List.flatten_cons, List.length_append, List.flatten_nil, List.length_nil, intN, textN]; omega
  have HS2 : Hid ((node (kn 0) (firstN (m : Int) :: upto ls t)).length ≤ 1000000) := by
    show _ ≤ _
    simp only [node, List.length_cons, List.flatten_cons, List.length_append, firstN, List.flatten_nil, List.length_nil, intN, textN, kn]
    omega
  obtain ⟨WB, hWB⟩ : ∃ W, W = WA.alloc (.cells #[.int .i64 1, .int .i64 0, .slice none 0 0, .slice (some ⟨w.heap.size + 1 + 1 + 1 + 1, 0, none⟩) 3 3, .int .i64 0] 75) := ⟨_, rfl⟩
  rw [← hWB] at hC2 hFA hN2
  have HR0 : Hid (Below w.heap.size w (w.alloc (.cells #[.pointer (some ⟨r, 0, none⟩), .slice none 0 0, .int .i64 120, .bool false, .bool false] 71)) ∧ (w.alloc (.cells #[.pointer (some ⟨r, 0, none⟩), .slice none 0 0, .int .i64 120, .bool false, .bool false] 71)).heap.size = w.heap.size + 1) := ⟨(Below.refl _ _).alloc (Nat.le_refl _) _, by simp⟩
  have hge : (w.alloc (.cells #[.pointer (some ⟨r, 0, none⟩), .slice none 0 0, .int .i64 120, .bool false, .bool false] 71)).heap.size ≤ w.heap.size + 1 + 1 + 1 + 1 + 1 := by rw [World.size_alloc]; omega
  clear hG hR hlt hC hBA hC1 hF1 hN1 hBB hF2 hsz
  go_enter Try.func38, Try.ntmps38
  go_wp2_with fail
  rw [← hWA, ← hWB]
  clear kv1 kv2 kv3 hWA hWB hWs
  generalize (w.alloc (.cells #[.pointer (some ⟨r, 0, none⟩), .slice none 0 0, .int .i64 120, .bool false, .bool false] 71)) = w1 at hC2 HR0 hge
  generalize w.heap.size + 1 + 1 + 1 + 1 + 1 = F at hFA hne1 hne2 hge ⊢
  generalize w.heap.size + 1 + 1 + 1 + 1 = NB at hFA hN2 ⊢
  have C2 : Hid (Cur (tk.lt (w.heap.size + 1)) w0 av cv bs w1 w.heap.size r no WB { i := i, names := [], fuel := 120, loop := false, fn := false }) := hC2
  have F2 : Hid (FirstAt WB F NB) := hFA
  have N2 : Hid (RdVV (veil (hd w1 no) WB) (.slice (some ⟨NB, 0, none⟩) 3 3) [[97], [98], [116]]) := by
    have := HR0.out.2
    exact RdVV.veils hN2 (fun b _ h => by simp [tk.lt] at h; simp [hd, no, tk.lt]; omega)
  have hk1' : nx bs (Gs.i { i := i, names := [], fuel := 120, loop := false, fn := false }) = (k1 : Int) := hk1
  have HFD : Hid (FirstAt WB.drew F NB) := F2.out
  have HGE : Hid (w1.heap.size ≤ F) := hge
  have HC : Hid (∀ W Q, Cur (tk.lt (w.heap.size + 1)) w0 av cv bs w1 w.heap.size r Q W { (stepG bs { i := i, names := [], fuel := 120, loop := false, fn := false }) with names := ns0 } → Cur (tk.lt (w.heap.size + 1)) w0 av cv bs w1 w.heap.size r Q W { i := js 0, names := ns 0, fuel := fs 0, loop := false, fn := false }) := fun W Q h => by
    rw [e1, e2, e3]; exact h
  have HD : Hid (∀ k, k < t → 0 < bs.length - js k ∧ 0 < fs k ∧ Draws bs 49 (fun g => #[.pointer (some ⟨g, 0, none⟩), .int .i64 3]) { i := js k, names := ns k, fuel := fs k, loop := false, fn := false } (ls k) { i := js (k + 1), names := ns (k + 1), fuel := fs (k + 1), loop := false, fn := false }) := hD
  have HFB : Hid (∀ k, k ≤ t → -50000 ≤ fs k ∧ fs k ≤ 200) := hfs
  have HND : Hid (t = 14 ∨ bs.length - js t = 0 ∨ fs t ≤ 0) := hend
  clear hC2 hFA hN2 hge e1 e2 e3 hD hB hBt hfs hend ST hr WA hk1
  go_region_held3 (fun W => W.cell? ⟨F, 0, none⟩ = some (.int .i64 1) ∧ W.cell? ⟨F, 1, none⟩ = some (.int .i64 0) ∧ W.cell? ⟨F, 2, none⟩ = some (.slice none 0 0) ∧ W.cell? ⟨F, 3, none⟩ = some (.slice (some ⟨NB, 0, none⟩) 3 3) ∧ W.cell? ⟨F, 4, none⟩ = some (.int .i64 0)) (first | with_reducible exact F9.out.cells | with_reducible exact (F8.out.alloc _).cells | with_reducible exact F8.out.cells | with_reducible exact (F7.out.alloc _).cells | with_reducible exact F7.out.cells | with_reducible exact F6.out.cells | with_reducible exact F5.out.cells | with_reducible exact F4.out.cells | exact HFD.out.cells) (first | (refine step_append_kids (by rfl) _ _ (by rfl) C8.out (ks := []) (ls := [firstN (m : Int)]) [.slice a8 (firstN (m : Int)).length c8] (by rfl) (by rfl) rfl kids_nil rfl (kr_one X8_8.out) (by simp) rfl ?_; intro a9 c9 w9 Q9 hK hC hM; have C9 : Hid _ := hC; have K9 : Hid (Kids w1 Q9 w9 (.slice a9 1 c9) [firstN (m : Int)]) := hK; have F9 : Hid (FirstAt w9 F NB) := (hM.1.1.block F (hM.1.2 F (heap_lt F8.out) (by have := HGE.out; simp [hd, no, tk.lt]; exact this)) (heap_lt F8.out)).trans F8.out; clear hC hK hM) | (go_at_call 45; obtain ⟨QL, CN, KN, _⟩ := C7.out.lit (kr_three X5_7.out X6_7.out X7_7.out) rfl (by simp); refine (CN.node (n := ⟨1, 0, [], [[97], [98], [116]], 0⟩) rfl KN (rdV_nil _) (RdVV.up (RdVV.veils N7.out (fun b _ h => by simp [hd] at h; exact h.1)) (up_alloc _ _ _)) HS1.out (by simp)).mono ?_; rintro e w8 ⟨a8, c8, rfl, hX, hC, hF⟩; have C8 : Hid _ := hC; have X8_8 : Hid (FN (hd w1 no) w8 (.slice a8 (firstN (m : Int)).length c8) (firstN (m : Int))) := hX; have F8 : Hid (FirstAt w8 F NB) := (F7.out.alloc _).keep hF hne1 hne2; clear hC hX hF CN KN) | (go_at_call 45; refine (C6.out.make (table_nil _)).mono ?_; rintro e w7 ⟨a7, c7, rfl, hX, hC, hF⟩; have C7 : Hid _ := hC; have X7_7 : Hid _ := hX; have X5_7 : Hid _ := C6.out.fn hF X5_6.out; have X6_7 : Hid _ := C6.out.fn hF X6_6.out; have F7 : Hid (FirstAt w7 F NB) := F6.out.keep hF hne1 hne2; have N7 : Hid (RdVV (veil (hd w1 no) w7) (.slice (some ⟨NB, 0, none⟩) 3 3) [[97], [98], [116]]) := RdVV.up N6.out (C6.out.up hF); clear hC hX hF) | (go_at_call 47; refine (C5.out.make (l7text_any _ _ (by decide))).mono ?_; rintro e w6 ⟨a6, c6, rfl, hX, hC, hF⟩; have C6 : Hid _ := hC; have X6_6 : Hid _ := hX; have X5_6 : Hid _ := C5.out.fn hF X5_5.out; have F6 : Hid (FirstAt w6 F NB) := F5.out.keep hF hne1 hne2; have N6 : Hid (RdVV (veil (hd w1 no) w6) (.slice (some ⟨NB, 0, none⟩) 3 3) [[97], [98], [116]]) := RdVV.up N5.out (C5.out.up hF); clear hC hX hF) | (go_at_call 46; (try rw [t7]); (try rw [t6]); refine (C4.out.make (l7int_any _ (m : Int))).mono ?_; rintro e w5 ⟨a5, c5, rfl, hX, hC, hF⟩; have C5 : Hid _ := hC; have X5_5 : Hid _ := hX; have F5 : Hid (FirstAt w5 F NB) := F4.out.keep hF hne1 hne2; have N5 : Hid (RdVV (veil (hd w1 no) w5) (.slice (some ⟨NB, 0, none⟩) 3 3) [[97], [98], [116]]) := RdVV.up N4.out (C4.out.up hF); clear hC hX hF) | (go_at_call 9; (with_reducible refine Calls.mono (C2.out.nextB (by repeat (first | exact Below.refl _ _ | refine Below.drew ?_ | refine bel_drewN ?_ _)) hk1') ?_); rintro e w4 ⟨rfl, hC, hF⟩; have C4 : Hid _ := hC; have F4 : Hid (FirstAt w4 F NB) := F2.out.keep hF hne1 hne2; have N4 : Hid (RdVV (veil (hd w1 no) w4) (.slice (some ⟨NB, 0, none⟩) 3 3) [[97], [98], [116]]) := RdVV.up N2.out (C2.out.up hF); clear hC hF))
  generalize (intN (m : Int)).length = L5
  generalize (textN { data := #[115] }).length = L6
  generalize (node (kn 20) []).length = L7
  generalize 0 + [Value.slice a8 (firstN (m : Int)).length c8].length = L9
  generalize (node ⟨1, 0, [], [[97], [98], [116]], 0⟩ [intN (m : Int), textN { data := #[115] }, node (kn 20) []]).length = L8
  have hbN : Below w9.heap.size w9 (w9.alloc (.cells #[.string { data := #[97] }, .string { data := #[98] }, .string { data := #[116] }, .string { data := #[97] }] 9)) := (Below.refl _ _).alloc (Nat.le_refl _) _
  obtain ⟨hC10, hF10⟩ := C9.out.named hbN (lit_row (us := ns0.map .string) (Nat.le_refl _) (by decide)) rfl (by decide) (by decide)
  have C10 : Hid (Cur (tk.lt (w.heap.size + 1)) w0 av cv bs w1 w.heap.size r Q9 ((w9.alloc (.cells #[.string { data := #[97] }, .string { data := #[98] }, .string { data := #[116] }, .string { data := #[97] }] 9)).setCell ⟨w.heap.size, 1, none⟩ (.slice (some ⟨w9.heap.size, 0, none⟩) 4 4)) { i := js 0, names := ns 0, fuel := fs 0, loop := false, fn := false }) := HC.out _ _ hC10
  have K10 : Hid (Kids w1 Q9 ((w9.alloc (.cells #[.string { data := #[97] }, .string { data := #[98] }, .string { data := #[116] }, .string { data := #[97] }] 9)).setCell ⟨w.heap.size, 1, none⟩ (.slice (some ⟨w9.heap.size, 0, none⟩) 4 4)) (.slice a9 1 c9) [firstN (m : Int)]) := C9.out.kids hF10 K9.out
  have hCN := (C9.out.bel hbN).1
  obtain ⟨za, zb, d1_9, _⟩ := hCN.save
  have f1_9 := hCN.gg.free 1
  clear hC10 hF10 hCN hbN
  go_wp2_with fail
  generalize (w9.alloc (.cells #[.string { data := #[97] }, .string { data := #[98] }, .string { data := #[116] }, .string { data := #[97] }] 9)).setCell ⟨w.heap.size, 1, none⟩ (.slice (some ⟨w9.heap.size, 0, none⟩) 4 4) = W10 at C10 K10 ⊢
  clear d1_9 f1_9
  go_loopw [4, 6] (fun va vi wr => ∃ (k c : Nat) (Q : Nat → Bool) (a : Option Addr), k ≤ t ∧ vi = .int .i64 (k : Int) ∧ va = .slice a (k + 1) c ∧ Hid (Cur (tk.lt (w.heap.size + 1)) w0 av cv bs w1 w.heap.size r Q wr { i := js k, names := ns k, fuel := fs k, loop := false, fn := false }) ∧ Hid (Kids w1 Q wr (.slice a (k + 1) c) (firstN (m : Int) :: upto ls k))) (fun _ x _ => t - (intOf x).toNat)
  case atStart => exact ⟨0, c9, Q9, a9, Nat.zero_le _, rfl, rfl, C10.out, K10.out⟩
  case round =>
    obtain ⟨k, c, Q, a, hkm, rfl, rfl, C20, K20⟩ := hrel
    have d2_20 : wr.cell? ⟨w.heap.size, 2, none⟩ = some (.int .i64 (fs k)) := C20.out.gg.c2
    have fb20 := HFB.out k hkm
    by_cases hlt : k < t
    · have i1 : (k : Int) < 14 := by omega
      obtain ⟨i2, i3, hDk⟩ := HD.out k hlt
      have D21 : Hid _ := hDk
      have i4 : (0 : Int) < ((bs.length - js k : Nat) : Int) := by omega
      generalize hlf : ((bs.length - js k : Nat) : Int) = lf at i4
      have HLF : Hid (((bs.length - js k : Nat) : Int) = lf) := hlf
      clear hDk i2 hlf
      go_wp2_with (first
        | (at_builtin; refine wpList_append_kids rfl _ _ rfl C22.out [.slice a22 (ls k).length c22] rfl rfl rfl K20_22.out (by simp [upto_length]) (kr_one X22.out) (by simp [upto_length]; omega) rfl ?_; intro a23 c23 w23 Q23 hK hC hM; have C23 : Hid _ := hC; have K23 : Hid _ := hK; clear hC hK hM)
        | (go_at_call 49; refine (C21.out.call D21.out).mono ?_; rintro e w22 ⟨a22, c22, rfl, hX, hC, hF⟩; have C22 : Hid _ := hC; have X22 : Hid _ := hX; have K20_22 : Hid _ := C21.out.kids hF K20_21.out; clear hC hX hF)
        | (go_at_call 48; refine (C20.out.left HLF.out).mono ?_; rintro e w21 ⟨rfl, hC, hF⟩; have C21 : Hid _ := hC; have K20_21 : Hid _ := C20.out.kids hF K20.out; clear hC hF; have d2_21 : w21.cell? ⟨w.heap.size, 2, none⟩ = some (.int .i64 (fs k)) := C21.out.gg.c2))
      refine ⟨⟨k + 1, c23, Q23, a23, by omega, by go_num, rfl, C23.out, by rw [upto_succ]; exact K23.out⟩, by simp [intOf]; omega⟩
    · obtain rfl : k = t := by omega
      have HLT : Hid (((bs.length - js k : Nat) : Int) = (((bs.length - js k : Nat) : Int))) := rfl
      generalize hlf : ((bs.length - js k : Nat) : Int) = lf at HLT
      have HLF : Hid (((bs.length - js k : Nat) : Int) = lf) := hlf
      by_cases c14 : k = 14
      · subst c14
        go_wp2_with (first
          | (go_at_call 45; refine (C20.out.node (n := kn 0) rfl K20.out (rdV_nil _) (rdVV_nil _) HS2.out (by simp only [List.length_cons, upto_length]; omega)).mono ?_; rintro e w30 ⟨a30, c30, rfl, hX, hC, hF⟩; have C30 : Hid _ := hC; have X30 : Hid _ := hX; clear hC hX hF))
        go_returns
        obtain ⟨x, ex, h1, h2, h3⟩ := C30.out.done X30.out
        cases ex
        exact tree_end HR0.out.1 HR0.out.2 h1 h2 h3
      · have i1 : (k : Int) < 14 := by omega
        by_cases i4 : (0 : Int) < lf
        · have i3 : ¬ (0 < fs k) := by have := HND.out; omega
          clear hlf HLT
          go_wp2_with (first
          | (go_at_call 45; refine (CX.out.node (n := kn 0) rfl KX.out (rdV_nil _) (rdVV_nil _) HS2.out (by simp only [List.length_cons, upto_length]; omega)).mono ?_; rintro e w30 ⟨a30, c30, rfl, hX, hC, hF⟩; have C30 : Hid _ := hC; have X30 : Hid _ := hX; clear hC hX hF)
            | (go_at_call 48; refine (C20.out.left HLF.out).mono ?_; rintro e w21 ⟨rfl, hC, hF⟩; have CX : Hid _ := hC; have KX : Hid _ := C20.out.kids hF K20.out; clear hC hF; have d2_21 : w21.cell? ⟨w.heap.size, 2, none⟩ = some (.int .i64 (fs k)) := CX.out.gg.c2))
          go_returns
          obtain ⟨x, ex, h1, h2, h3⟩ := C30.out.done X30.out
          cases ex
          exact tree_end HR0.out.1 HR0.out.2 h1 h2 h3
        · clear hlf HLT
          go_wp2_with (first
          | (go_at_call 45; refine (CX.out.node (n := kn 0) rfl KX.out (rdV_nil _) (rdVV_nil _) HS2.out (by simp only [List.length_cons, upto_length]; omega)).mono ?_; rintro e w30 ⟨a30, c30, rfl, hX, hC, hF⟩; have C30 : Hid _ := hC; have X30 : Hid _ := hX; clear hC hX hF)
            | (go_at_call 48; refine (C20.out.left HLF.out).mono ?_; rintro e w21 ⟨rfl, hC, hF⟩; have CX : Hid _ := hC; have KX : Hid _ := C20.out.kids hF K20.out; clear hC hF; have d2_21 : w21.cell? ⟨w.heap.size, 2, none⟩ = some (.int .i64 (fs k)) := CX.out.gg.c2))
          go_returns
          obtain ⟨x, ex, h1, h2, h3⟩ := C30.out.done X30.out
          cases ex
          exact tree_end HR0.out.1 HR0.out.2 h1 h2 h3
end Go.Proofs.Ytepbddfpdlapbaa.tk
