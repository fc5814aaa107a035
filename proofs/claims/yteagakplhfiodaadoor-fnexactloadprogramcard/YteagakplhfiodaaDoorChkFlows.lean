import Derived.Test.YteagakplhfiodaaDoorChkIter
namespace Go.Proofs.YteagakplhfiodaaDoor.chk
open Go.RowKit Go.Shelf Go.Proofs.YteagakplhfiodaaDoor.bts Go.Proofs.YteagakplhfiodaaDoor.pg
attribute [local go_sem] Oper.semAt_some

theorem Ck.alloc {w : World} {g : Nat} {uk up uc ud vT vB : Value} {fp fs : Int} (h : Ck w g uk up fp fs uc ud vT vB) (o : Obj) : Ck (w.alloc o) g uk up fp fs uc ud vT vB := h.below ((Below.refl w.heap.size w).alloc (Nat.le_refl _) o) h.lt

set_option maxRecDepth 100000 in
theorem all_any (g : Nat) (w : World) : Calls Tryd.prog 65 #[.pointer (some ⟨g, 6, none⟩)] w fun e w' => e = .returned (.func (.func 71) #[] #[.pointer (some ⟨w.heap.size, 0, none⟩)]) ∧ w' = w.alloc (.cells #[.pointer (some ⟨g, 6, none⟩)] 130) := by
  go_enter Tryd.func65, Tryd.ntmps65
  go_wp2
  go_returns
  exact ⟨rfl, rfl⟩

theorem Rs.grow {base g gB Bw : Nat} {w0 : World} {code : List In} {uk up uc ud : Value} {fp fs : Int} {k : Nat} {W W' : World} {hs : List Int} {aT : Option Addr} {cT : Nat} {t : List Nat}
    (R : Rs base g gB Bw w0 code uk up uc ud fp fs k W hs aT cT t) (hb : Below W.heap.size W W') (hbs : base ≤ W.heap.size) : Rs base g gB Bw w0 code uk up uc ud fp fs k W' hs aT cT t :=
  ⟨R.fi.below hb (Nat.le_refl _), R.le, R.top, R.low.trans (hb.mono hbs), R.kt.trans (ko_below hb), R.box, R.ne⟩
theorem Fi.put {W : World} {base g gB N l : Nat} {hs : List Int} {aT : Option Addr} {cT : Nat} {t : List Nat} {uk up uc ud : Value} {fp fs : Int} {o o' : Obj} (F : Fi W base g gB N hs aT cT t uk up uc ud fp fs) (hl : W.heap[l]? = some o) (ho : o.isCells = false) : Fi (W.putObj l o') base g gB N hs aT cT t uk up uc ud fp fs := by
  have hne : ∀ b c T fr, W.heap[b]? = some (.cells c T fr) → b ≠ l := by
    intro b c T fr h e
    subst e
    rw [h] at hl
    cases hl; cases ho
  refine ⟨F.ck.block (World.putObj_heap_other (hne g _ _ _ F.ck)), ⟨own_block F.fl.own (fun b hb => ?_), own_block F.fl.todo (fun b hb => ?_), F.fl.apart, F.fl.len⟩, F.ne, F.apart, F.lo⟩
  · rcases F.fl.own.2 with ⟨h, _⟩ | ⟨g', c', cur, e2, _, hh, _⟩
    · simp at h
    · rw [e2] at hb
      have e3 : g' = b := by simpa [Value.ownBlock] using hb
      rw [e3] at hh
      exact World.putObj_heap_other (hne b _ _ _ hh)
  · rcases F.fl.todo.2 with ⟨h, _⟩ | ⟨g', c', cur, e2, _, hh, _⟩
    · rw [h] at hb; cases hb
    · rw [e2] at hb
      have e3 : g' = b := by simpa [Value.ownBlock] using hb
      rw [e3] at hh
      exact World.putObj_heap_other (hne b _ _ _ hh)
theorem Rs.put {base g gB Bw : Nat} {w0 : World} {code : List In} {uk up uc ud : Value} {fp fs : Int} {k l : Nat} {W : World} {hs : List Int} {aT : Option Addr} {cT : Nat} {t : List Nat} {o o' : Obj}
    (R : Rs base g gB Bw w0 code uk up uc ud fp fs k W hs aT cT t) (hB : w0.heap.size ≤ l) (hbs : base ≤ w0.heap.size) (hl : W.heap[l]? = some o) (ho : o.isCells = false) : Rs base g gB Bw w0 code uk up uc ud fp fs k (W.putObj l o') hs aT cT t := by
  refine ⟨R.fi.put hl ho, R.le, R.top, R.low.trans ((Below.refl base W).grown (grownBy_putObj' W l o') (by have := R.low.size; omega) (fun k e => by cases e; omega)), ⟨by have := R.kt.1; simpa using this, fun b x hx hc hg => ?_⟩, R.box, R.ne⟩
  rw [World.putObj_heap_other (fun e => ?_)]
  · exact R.kt.2 b x hx hc hg
  · subst e
    have := (Array.getElem?_eq_some_iff.1 hx).1
    omega

theorem keep7 {W : World} {b g : Nat} {x y v : Value} (h : W.cell? ⟨b, 0, none⟩ = some x ∧ W.cell? ⟨g, 5, none⟩ = some y ∧ W.frozen? ⟨g, 7, none⟩ = false) : (W.setCell ⟨g, 7, none⟩ v).cell? ⟨b, 0, none⟩ = some x ∧ (W.setCell ⟨g, 7, none⟩ v).cell? ⟨g, 5, none⟩ = some y ∧ (W.setCell ⟨g, 7, none⟩ v).frozen? ⟨g, 7, none⟩ = false :=
  ⟨by rw [World.cell?_setCell_other _ _ _ _ (by intro e; simp at e)]; exact h.1, by rw [World.cell?_setCell_other _ _ _ _ (by intro e; simp at e)]; exact h.2.1, by rw [World.frozen?_setCell]; exact h.2.2⟩

set_option maxRecDepth 100000 in
set_option maxHeartbeats 2000000 in
theorem flows_in (n : Nat) (hn : 3 ≤ n) (g : Nat) (uk up uc : Value) (aD : Option Addr) (cD : Nat) (fp fs : Int) (code : List In) (w : World) (C : Ck w g uk up fp fs uc (.slice aD code.length cD) (.slice none 0 0) (.slice none 0 0))
    (hg0 : 2 < g) (hS : Shp w) (hd : ∀ W, Below g w W → RdI W aD code) (hok : ∀ i, i < code.length → XOk code.length (code.getD i in0)) (h0 : 0 < code.length) (h1 : code.length ≤ 1048576) (bb : Bool) (HBB : Hid (bb = true ↔ Good (suN code) code.length)) :
    CallsIn Fence.wide n Tryd.prog 39 #[.pointer (some ⟨g, 0, none⟩)] w fun e w' => e = .returned (.bool bb) ∧ Below g w w' := by
  have hn1 : 1 ≤ n := by omega
  have hgl := C.lt
  obtain ⟨N, hN⟩ : ∃ N, N = code.length := ⟨_, rfl⟩
  have HN : Hid (code.length = N) := hN.symm
  have HC : Hid (Ck w g uk up fp fs uc (.slice aD code.length cD) (.slice none 0 0) (.slice none 0 0)) := C
  have c5 := C.at 5 _ rfl
  rw [← hN] at c5
  obtain ⟨W0, hW0⟩ : ∃ W0, W0 = (w.alloc (.cells #[.pointer (some ⟨g, 0, none⟩)] 78)).alloc (.cells #[.bool false] 4) := ⟨_, rfl⟩
  have hW0s : W0.heap.size = w.heap.size + 2 := by rw [hW0]; simp
  have HW0B : Hid (Below w.heap.size w W0) := by rw [hW0]; exact ((Below.refl _ _).alloc (Nat.le_refl _) _).alloc (by simp) _
  have bxc : W0.cell? ⟨w.heap.size, 0, none⟩ = some (.pointer (some ⟨g, 0, none⟩)) := by rw [hW0]; exact cellOld (cellNew rfl)
  have C0 : Ck W0 g uk up fp fs uc (.slice aD code.length cD) (.slice none 0 0) (.slice none 0 0) := C.below HW0B.out hgl
  have d5 := C0.at 5 _ rfl
  rw [← hN] at d5
  have HC0 : Hid (Ck W0 g uk up fp fs uc (.slice aD code.length cD) (.slice none 0 0) (.slice none 0 0)) := C0
  have HCC : Hid (∀ W, Below W0.heap.size W0 W → W.cell? ⟨w.heap.size, 0, none⟩ = some (.pointer (some ⟨g, 0, none⟩)) ∧ W.cell? ⟨g, 5, none⟩ = some (.slice aD N cD) ∧ W.frozen? ⟨g, 7, none⟩ = false) := fun W hW => ⟨cellB bxc hW, cellB d5 hW, (C0.below hW C0.lt).free 7⟩
  have HD : Hid (∀ W, Below W0.heap.size W0 W → W.cell? ⟨w.heap.size + 2, 0, none⟩ = some (.int .i64 (-1)) → Calls Tryd.prog 63 #[.slice (some ⟨w.heap.size + 2, 0, none⟩) 1 1, .int .i64 N] W fun e w' => ∃ gB, w.heap.size + 2 ≤ gB ∧ e = .returned (.slice (some ⟨gB, 0, none⟩) N N) ∧ w'.ownsRow (w.heap.size + 2) 3 1 (.slice (some ⟨gB, 0, none⟩) N N) N (ic (List.replicate N (-1))) ∧ Below W0.heap.size W0 w') := by
    intro W hW hc
    refine (repeat_any (w.heap.size + 2) N (by rw [hN]; exact h1) (by rw [hN]; exact h0) W hc).mono ?_
    rintro e w' ⟨gB, h2, h3, h4, h5⟩
    exact ⟨gB, by have := hW.size; omega, h3, own_weaken h4 (by have := hW.size; omega), hW.trans (h5.mono hW.size)⟩
  have HBX : Hid (W0 = (w.alloc (.cells #[.pointer (some ⟨g, 0, none⟩)] 78)).alloc (.cells #[.bool false] 4)) := hW0
  have HC7 : Hid (∀ W, Below W0.heap.size W0 W → W.cell? ⟨g, 7, none⟩ = some (.slice none 0 0)) := fun W hW => (HC0.out.below hW HC0.out.lt).at 7 _ rfl
  have HLIT : Hid ((W0.alloc (.cells #[.int .i64 (-1)] 3)).drew.cell? ⟨w.heap.size + 2, 0, none⟩ = some (.int .i64 (-1))) := by
    show _ = _
    rw [← hW0s]
    exact cellNew (w := W0) rfl
  refine callsIn_of_wp_marks Tryd.func39 rfl trivial ?_ rfl
  simp only [Tryd.ntmps39, List.size_toArray, List.length_cons, List.length_nil, Nat.reduceAdd, Nat.reduceSub, Array.replicate_succ, Array.replicate_zero, List.push_toArray, List.append_toArray, List.nil_append, List.cons_append]
  clear C C0 hW0 c5 hN
  gi_wp2_with fail
  rw [← HBX.out]
  refine wpIn_wide.2 ?_
  go_region_held3 (fun W => W.cell? ⟨w.heap.size, 0, none⟩ = some (.pointer (some ⟨g, 0, none⟩)) ∧ W.cell? ⟨g, 5, none⟩ = some (.slice aD N cD) ∧ W.frozen? ⟨g, 7, none⟩ = false) (first | (with_reducible refine keep7 ?_; assumption) | (refine HCC.out _ ?_; (repeat (first | exact Below.refl _ _ | assumption | refine Below.drew ?_ | refine bel_drewN ?_ _ | refine Below.alloc ?_ (by simp) _)); done))
    ((go_at_call 63; with_reducible refine (HD.out _ ?_ ?_).mono ?_; (repeat (first | exact Below.refl _ _ | assumption | refine Below.drew ?_ | refine bel_drewN ?_ _ | refine Below.alloc ?_ (by simp) _)); (first | exact cellNew rfl | exact HLIT.out); rintro e w' ⟨gB, hgB, rfl, hown, hbw⟩; have q7 := HC7.out w' hbw))
  have hN1 : N ≤ 1048576 := by rw [← HN.out]; exact h1
  have hN0 : 0 < N := by rw [← HN.out]; exact h0
  have hgB2 : gB ≠ g := by omega
  obtain ⟨W2, hW2⟩ : ∃ W2, W2 = w'.setCell ⟨g, 7, none⟩ (.slice (some ⟨gB, 0, none⟩) N N) := ⟨_, rfl⟩
  have hbw' : Below W0.heap.size W0 w' := by assumption
  have F2 : Fi W2 g g gB N (List.replicate N (-1)) none 0 [] uk up uc (.slice aD N cD) fp fs := by
    have hc := (HC0.out.below hbw' HC0.out.lt).set7 (.slice (some ⟨gB, 0, none⟩) N N)
    rw [HN.out] at hc
    rw [hW2]
    refine ⟨hc, ⟨own_weaken (own_block (by assumption) (fun b hb => ?_)) (by omega), ⟨rfl, .inl ⟨rfl, rfl⟩⟩, by simp [Value.ownBlock], by simp⟩, hgB2, by simp [Value.ownBlock], Nat.le_refl _⟩
    have e : gB = b := by simpa [Value.ownBlock] using hb
    subst e
    exact Below.heap_setCell w' ⟨g, 7, none⟩ _ gB hgB2
  have hr0 : reach (List.replicate N (-1)) [] 0 0 = some ((List.replicate N (-1)).set 0 0, [0]) := by
    unfold reach
    rw [if_pos (by simpa using hN0), replicate_getD, if_pos (by omega)]; rfl
  have hs2 : w.heap.size + 2 ≤ W2.heap.size := by rw [hW2]; have := hbw'.size; simp; omega
  have CR := reachI_ok g g gB N 0 0 _ _ none 0 [] [0] uk up uc (.slice aD N cD) fp fs W2 F2 hN1 (by simp) (by omega) hr0
  have HB2 : Hid (Below g w W2) := by
    rw [hW2]
    have e1 : Below g w W0 := HW0B.out.mono (by omega)
    have e2 : Below g W0 w' := hbw'.mono (by omega)
    exact (e1.trans e2).setCell (p := ⟨g, 7, none⟩) (Nat.le_refl _) _
  have K2 : Hid (∀ b o, W0.heap[b]? = some o → b ≠ g → W2.heap[b]? = some o) := by
    intro b o ho hg
    rw [hW2, Below.heap_setCell w' ⟨g, 7, none⟩ _ b hg]
    exact (hbw'.block b (Array.getElem?_eq_some_iff.1 ho).1).trans ho
  have HF2 : Hid _ := F2
  have HK7 : Hid (W2 = w'.setCell ⟨g, 7, none⟩ (.slice (some ⟨gB, 0, none⟩) N N)) := hW2
  have bx2 : W2.cell? ⟨w.heap.size, 0, none⟩ = some (.pointer (some ⟨g, 0, none⟩)) := by
    rw [hW2, World.cell?_setCell_other _ _ _ _ (by intro e; simp at e)]
    exact cellB bxc hbw'
  clear F2 hr0 hW2
  rw [← HK7.out]
  gi_wp2_with fail
  refine ⟨trivial, (callsIn_wide.2 CR).mono ?_⟩
  rintro e w3 ⟨rfl, aT, cT, F3, hb3, hk3⟩
  clear CR
  have K3 : Hid (KT g W2 w3) := ko_fi HF2.out hb3.size hk3
  have HB3 : Hid (Below g w w3) := HB2.out.trans hb3
  have HF3 : Hid _ := F3
  have hcb : W0.heap[w.heap.size]? = some (.cells #[.pointer (some ⟨g, 0, none⟩)] 78) := by
    rw [HBX.out, heap_alloc_old _ _ (by simp)]
    exact heap_alloc_new _ _
  have hrb : W0.heap[w.heap.size + 1]? = some (.cells #[.bool false] 4) := by
    rw [HBX.out]
    have := heap_alloc_new (w.alloc (.cells #[.pointer (some ⟨g, 0, none⟩)] 78)) (.cells #[.bool false] 4)
    simpa using this
  have hc3 : w3.heap[w.heap.size]? = some (.cells #[.pointer (some ⟨g, 0, none⟩)] 78) := K3.out.2 _ _ (K2.out _ _ hcb (by omega)) (by intro cur e; cases e) (by omega)
  have hr3 : w3.heap[w.heap.size + 1]? = some (.cells #[.bool false] 4) := K3.out.2 _ _ (K2.out _ _ hrb (by omega)) (by intro cur e; cases e) (by omega)
  have HC3 : Hid (w3.heap[w.heap.size]? = some (.cells #[.pointer (some ⟨g, 0, none⟩)] 78)) := hc3
  have HR3 : Hid (w3.heap[w.heap.size + 1]? = some (.cells #[.bool false] 4)) := hr3
  have bx3 : w3.cell? ⟨w.heap.size, 0, none⟩ = some (.pointer (some ⟨g, 0, none⟩)) := by simp only [World.cell?, hc3]; rfl
  have HS3 : Hid (w.heap.size + 2 ≤ w3.heap.size) := Nat.le_trans hs2 hb3.size
  have AL := all_any g w3
  clear F3 hb3 hk3 hcb hrb hc3 hr3 bx2
  gi_wp2_with fail
  refine ⟨trivial, (callsIn_wide.2 AL).mono ?_⟩
  rintro e w4 ⟨rfl, rfl⟩
  clear AL
  gi_wp2_with fail
  obtain ⟨W4, hW4⟩ : ∃ W4, W4 = w3.alloc (.cells #[.pointer (some ⟨g, 6, none⟩)] 130) := ⟨_, rfl⟩
  have hs4 : W4.heap.size = w3.heap.size + 1 := by rw [hW4]; simp
  have hb4 : Below w3.heap.size w3 W4 := by rw [hW4]; exact (Below.refl _ _).alloc (Nat.le_refl _) _
  have HB4 : Hid (Below g w W4) := HB3.out.trans (hb4.mono (by have := HS3.out; omega))
  have hr4 : W4.heap[w.heap.size + 1]? = some (.cells #[.bool false] 4) := (hb4.block _ (by have := HS3.out; omega)).trans HR3.out
  have hc4 : W4.heap[w.heap.size]? = some (.cells #[.pointer (some ⟨g, 0, none⟩)] 78) := (hb4.block _ (by have := HS3.out; omega)).trans HC3.out
  have hgs : g ≤ W4.heap.size := by have := HS3.out; omega
  have F4 : Fi W4 g g gB code.length ((List.replicate N (-1)).set 0 0) aT cT [0] uk up uc (.slice aD code.length cD) fp fs := by
    rw [HN.out]; exact HF3.out.below hb4 (Nat.le_refl _)
  have R4 : Rs g g gB w3.heap.size W4 code uk up uc (.slice aD code.length cD) fp fs (left ((List.replicate N (-1)).set 0 0) [0]) W4 ((List.replicate N (-1)).set 0 0) aT cT [0] := by
    refine ⟨F4, Nat.le_refl _, ?_, Below.refl _ _, ⟨Nat.le_refl _, fun _ _ h _ _ => h⟩, ?_, by have := HS3.out; omega⟩
    · unfold left
      have := List.length_filter_le (fun z : Int => decide (z < 0)) ((List.replicate N (-1)).set 0 0)
      simp only [List.length_set, List.length_replicate, List.length_singleton] at this ⊢
      have := HN.out
      omega
    · rw [hW4]; exact heap_alloc_new _ _
  have I4 : Inv (suT code) code.length ((List.replicate N (-1)).set 0 0) [0] := by rw [← HN.out]; exact inv_start h0
  have SQ := all1_in (n - 1) (by omega) g g gB w3.heap.size W4.heap.size W4 code uk up uc (.slice aD code.length cD) fp fs (by have := HS3.out; omega) h1 (fun W => ¬ Good (suN code) code.length ∧ W.cell? ⟨w.heap.size + 1, 0, none⟩ = some (.bool false) ∧ Below g w W)
  rw [← hW4]
  clear hW4
  refine wpIn_rangeFunc_st rfl hn1 (gf := 71) (lb := #[.pointer (some ⟨w3.heap.size, 0, none⟩)]) rfl trivial (enters_of Tryd.func71 (by kernel_rfl) rfl) (fun _ => rfl) _ _ _ _ _ SQ ?hI ?hY ?hG ?hX ?hE
    (fun x => { tmps := #[.pointer (some ⟨g, 0, none⟩), .pointer (some ⟨w.heap.size, 0, none⟩), .pointer (some ⟨w.heap.size + 1, 0, none⟩), .int .i64 x.1, .pointer (some ⟨g, 0, none⟩), .slice (some ⟨w.heap.size + 2, 0, none⟩) 1 1, .pointer (some ⟨g, 0, none⟩), .pointer (some ⟨g, 0, none⟩), .pointer (some ⟨g, 2, none⟩), .pointer (some ⟨g, 5, none⟩), .slice aD N cD, .int .i64 N, .slice (some ⟨gB, 0, none⟩) N N, .pointer (some ⟨g, 0, none⟩), .pointer (some ⟨g, 7, none⟩), .pointer (some ⟨g, 0, none⟩), .bool true, .pointer (some ⟨g, 0, none⟩), .pointer (some ⟨g, 0, none⟩), .pointer (some ⟨g, 6, none⟩), .func (.func 71) #[] #[.pointer (some ⟨w3.heap.size, 0, none⟩)], .int .i64 x.1, undef, undef, undef, undef], defers := [] }) ?assign ?body ?done ?stop
  case hI =>
    intro o o2
    exact ⟨_, _, _, _, _, R4.grow (((Below.refl _ _).alloc (Nat.le_refl _) _).alloc (by simp) _) hgs, I4⟩
  case hY =>
    rintro x W l o o' hl ho hc ⟨aT, cT, R, I, hle⟩
    exact ⟨aT, cT, R.put hl hgs ho hc, I, hle⟩
  case hG =>
    rintro x W l o o' hl ho hc ⟨k, hs, aT, cT, t, hlt, R, I⟩
    exact ⟨k, hs, aT, cT, t, hlt, R.put hl hgs ho hc, I⟩
  case hE =>
    rintro W l o o' hl ho hc ⟨k, hs, aT, cT, R, I⟩
    exact ⟨k, hs, aT, cT, R.put hl hgs ho hc, I⟩
  case hX =>
    rintro W l o o' hl ho hc ⟨hbad, hcell, hbl⟩
    refine ⟨hbad, ?_, hbl.grown (grownBy_putObj' W l o') (by have := hbl.size; omega) (fun k e => by cases e; omega)⟩
    rw [World.cell?_of_block (a := ⟨w.heap.size + 1, 0, none⟩) (World.putObj_heap_other (by have := HS3.out; show w.heap.size + 1 ≠ l; omega))]
    exact hcell
  case assign =>
    intro l x W K hK
    gi_wp2
    exact hK
  case body =>
    rintro l ⟨a, hs, t, k⟩ W hl ⟨aT, cT, R, I, hle⟩
    simp only at R I hle
    have hat := I.todo a (by simp)
    have hlow : Below g w W := HB4.out.trans R.low
    have htl : t.length ≤ 4194304 := by
      have e1 := R.le
      have e2 := R.top
      unfold left at e1
      omega
    have hW0g : g ≤ W.heap.size := Nat.le_trans hgs R.low.size
    have FO := follow_any g g gB a hs aT cT t uk up uc aD cD fp fs code W R.fi h1 htl hW0g hg0 (hS.below hlow hg0) (hd W hlow) hat.1 ⟨hat.2, (I.top a).2⟩ (hok a hat.1)
    have hcW : W.heap[w.heap.size]? = some (.cells #[.pointer (some ⟨g, 0, none⟩)] 78) := R.kt.2 _ _ hc4 (by intro cur e; cases e) (by omega)
    have bxW : W.cell? ⟨w.heap.size, 0, none⟩ = some (.pointer (some ⟨g, 0, none⟩)) := by simp only [World.cell?, hcW]; rfl
    have HR : Hid _ := R
    have HRES : Hid (∀ w', Below g W w' → KT g W w' → w'.heap[w.heap.size + 1]? = some (.cells #[.bool false] 4) ∧ Below g w w' ∧ KeepsFrom W4.heap.size W w') := by
      intro w' hb hk
      refine ⟨(R.kt.trans hk).2 _ _ hr4 (by intro cur e; cases e) (by omega), hlow.trans hb, hk.1, fun b o hB ho hc => hk.2 b o ho (by intro cur e; subst e; cases hc) (fun e => ?_)⟩
      subst e
      rw [show W.heap[b]? = _ from R.fi.ck] at ho
      cases ho; cases hc
    have HGO : Hid (∀ hs' t', stepT code hs t a = some (hs', t') → Inv (suT code) code.length hs' t' ∧ left hs' t' < k) := by
      intro hs' t' h
      unfold stepT at h
      cases hsu : suT code a (hs.getD a (-1)) with
      | none => rw [hsu] at h; cases h
      | some es =>
        rw [hsu] at h
        have := inv_next (suT_pos hok) I hsu h
        exact ⟨this.1, Nat.lt_of_lt_of_le this.2 hle⟩
    have HBAD : Hid (stepT code hs t a = none → ¬ Good (suN code) code.length) := by
      intro h hg
      refine inv_bad I (fun es hes => ?_) ((good_same code code.length).2 hg)
      unfold stepT at h
      rw [hes] at h
      exact h
    generalize stepT code hs t a = st at FO HGO HBAD
    clear R I hcW hlow
    gi_wp2_with fail
    refine ⟨trivial, fun h => (by cases h), (CallsIn.inRound l (callsIn_wide.2 FO)).mono ?_⟩
    rintro e w' ⟨hb', hk', hm⟩
    obtain ⟨hr5, hB5, hKF⟩ := HRES.out w' hb' hk'
    have HB5 : Hid (Below g w w') := hB5
    have HKF : Hid (KeepsFrom W4.heap.size W w') := hKF
    have q0 : w'.cell? ⟨w.heap.size + 1, 0, none⟩ = some (.bool false) := by simp only [World.cell?, hr5]; rfl
    have q0f : w'.frozen? ⟨w.heap.size + 1, 0, none⟩ = false := by simp only [World.frozen?, hr5]; rfl
    cases st with
    | none =>
      simp only at hm
      subst hm
      have HNG : Hid (¬ Good (suN code) code.length) := HBAD.out rfl
      clear FO HGO HBAD hr5 hB5 hKF
      gi_wp2_with fail
      exact ⟨by rw [← hs4]; exact HKF.out.trans ((KeepsOthers.setCell _ _ _).from _), HNG.out, World.cell?_setCell_same' _ _ _ (by rw [q0]; rfl), HB5.out.setCell (p := ⟨w.heap.size + 1, 0, none⟩) (by show g ≤ w.heap.size + 1; omega) _⟩
    | some q =>
      simp only at hm
      obtain ⟨rfl, aT', cT', F'⟩ := hm
      obtain ⟨I', hlt'⟩ := HGO.out q.1 q.2 rfl
      have HFIN : Hid (∃ k' hs' aT' cT' t', k' < k ∧ Rs g g gB w3.heap.size W4 code uk up uc (.slice aD code.length cD) fp fs k' w' hs' aT' cT' t' ∧ Inv (suT code) code.length hs' t') :=
        ⟨left q.1 q.2, q.1, aT', cT', q.2, hlt', ⟨F', Nat.le_refl _, by have := HR.out.top; omega, HR.out.low.trans hb', HR.out.kt.trans hk', HR.out.box, HR.out.ne⟩, I'⟩
      clear FO HGO HBAD hr5 hB5 hKF F' I'
      gi_wp2_with fail
      obtain ⟨k', hs', aT', cT', t', y1, y2, y3⟩ := HFIN.out
      refine ⟨by rw [← hs4]; exact HKF.out, ?_⟩
      first
        | exact ⟨k', hs', aT', cT', t', y1, y2, y3⟩
        | exact ⟨k', y1, hs', aT', cT', t', y2, y3⟩
  case done =>
    rintro D W hD ⟨k, hs, aT, cT, R, I⟩ hK
    have HT : Hid (true = bb) := (HBB.out.2 ((good_same code code.length).1 (inv_end I))).symm
    have HBl : Hid (Below g w W) := HB4.out.trans R.low
    have hrW : W.heap[w.heap.size + 1]? = some (.cells #[.bool false] 4) := R.kt.2 _ _ hr4 (by intro cur e; cases e) (by omega)
    have q0 : W.cell? ⟨w.heap.size + 1, 0, none⟩ = some (.bool false) := by simp only [World.cell?, hrW]; rfl
    have q0f : W.frozen? ⟨w.heap.size + 1, 0, none⟩ = false := by simp only [World.frozen?, hrW]; rfl
    clear R I hrW
    gi_wp2_with fail
    have hK' := (KeepsOthers.setCell W ⟨w.heap.size + 1, 0, none⟩ (.bool true)).same D _ hK rfl
    refine ⟨by simp, .inl ⟨_, _, rfl, run_takeDeferred hK', ?_⟩⟩
    have hc5 := cell_kept (World.cell?_setCell_same' W ⟨w.heap.size + 1, 0, none⟩ (.bool true) (by rw [q0]; rfl)) (grownBy_putObj' _ D (.deferred none)) (fun r e => by cases e; exact ⟨_, hK', rfl⟩)
    refine ⟨.bool true, ?_, ret_bI HT.out, (HBl.out.setCell (p := ⟨w.heap.size + 1, 0, none⟩) (by show g ≤ w.heap.size + 1; omega) _).trans (belowK_b (w := W4) hgs _ D _ _ hD hK' rfl rfl)⟩
    simp [results, Tryd.results39, go_sem, hc5]
  case stop =>
    rintro D W hD ⟨hbad, hcell, hbl⟩ hK
    have HF : Hid (false = bb) := by
      show _ = _
      cases bb with
      | false => rfl
      | true => exact absurd (HBB.out.1 rfl) hbad
    gi_wp2_with fail
    refine ⟨by simp, .inl ⟨_, _, rfl, run_takeDeferred hK, ?_⟩⟩
    have hc5 := cell_kept hcell (grownBy_putObj' _ D (.deferred none)) (fun r e => by cases e; exact ⟨_, hK, rfl⟩)
    refine ⟨.bool false, ?_, ret_bI HF.out, hbl.trans (belowK_b (w := W4) hgs W D _ _ hD hK rfl rfl)⟩
    simp [results, Tryd.results39, go_sem, hc5]
end Go.Proofs.YteagakplhfiodaaDoor.chk
