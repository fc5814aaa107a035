import Derived.Test.YteagakplhfiodaaDoorChkImplF
import Derived.Test.YteagakplhfiodaaDoorChkHeights
import Derived.RangeFuncNested
namespace Go.Proofs.YteagakplhfiodaaDoor.chk
open Go.RowKit Go.Proofs.YteagakplhfiodaaDoor.bts Go.Proofs.YteagakplhfiodaaDoor.pg

/-- All blocks but the checker's and rows of numbers are kept. -/
def KT (g : Nat) (w w' : World) : Prop := w.heap.size ≤ w'.heap.size ∧ ∀ b o, w.heap[b]? = some o → (∀ cur, o ≠ .cells cur 3 (0, 0)) → b ≠ g → w'.heap[b]? = some o
theorem KT.trans {g : Nat} {a b c : World} (h : KT g a b) (k : KT g b c) : KT g a c := ⟨Nat.le_trans h.1 k.1, fun x o hx ho hg => k.2 x o (h.2 x o hx ho hg) ho hg⟩
theorem ko_below {g : Nat} {W W' : World} (h : Below W.heap.size W W') : KT g W W' := ⟨h.size, fun k _ hk _ _ => (h.block k (Array.getElem?_eq_some_iff.1 hk).1).trans hk⟩
theorem ko_fi {w w' : World} {base g gB N : Nat} {hs : List Int} {aT : Option Addr} {cT : Nat} {t : List Nat} {uk up uc ud : Value} {fp fs : Int} (F : Fi w base g gB N hs aT cT t uk up uc ud fp fs) (hs' : w.heap.size ≤ w'.heap.size)
    (hk : ∀ b, b < w.heap.size → b ≠ g → b ≠ gB → (Value.slice aT t.length cT).ownBlock ≠ some b → w'.heap[b]? = w.heap[b]?) : KT g w w' := by
  refine ⟨hs', fun k o ho hc hg => ?_⟩
  rw [hk k (Array.getElem?_eq_some_iff.1 ho).1 hg ?_ ?_]
  · exact ho
  · intro e
    subst e
    rcases F.fl.own.2 with ⟨h, _⟩ | ⟨g', c', cur, e2, _, hh, _⟩
    · simp at h
    · have e3 : k = g' := by simp at e2; exact e2.1
      rw [e3, hh] at ho
      cases ho; exact hc _ rfl
  · intro e
    rcases F.fl.todo.2 with ⟨h, _⟩ | ⟨g', c', cur, e2, _, hh, _⟩
    · rw [h] at e; cases e
    · rw [e2] at e
      have e3 : g' = k := by simpa [Value.ownBlock] using e
      rw [e3] at hh
      rw [hh] at ho
      cases ho; exact hc _ rfl

/-- What a round of the program does. -/
def Goes (w w' : World) (e : Ending) (base g gB N : Nat) (_ : List Int) (_ : List Nat) (uk up uc ud : Value) (fp fs : Int) (r : Option (List Int × List Nat)) : Prop :=
  Below base w w' ∧ KT g w w' ∧ match r with
    | none => e = .returned (.bool false)
    | some q => e = .returned (.bool true) ∧ ∃ aT' cT', Fi w' base g gB N q.1 aT' cT' q.2 uk up uc ud fp fs

theorem goes_no {w w' : World} {e : Ending} {base g gB N : Nat} {hs : List Int} {t : List Nat} {uk up uc ud : Value} {fp fs : Int} {r : Option (List Int × List Nat)} (hr : r = none) (he : e = .returned (.bool false)) (hb : Below base w w') (hk : KT g w w') : Goes w w' e base g gB N hs t uk up uc ud fp fs r := by
  subst hr; exact ⟨hb, hk, he⟩
theorem goes_ok {w w' : World} {e : Ending} {base g gB N : Nat} {hs hs' : List Int} {t t' : List Nat} {uk up uc ud : Value} {fp fs : Int} {r : Option (List Int × List Nat)} (hr : r = some (hs', t')) (he : e = .returned (.bool true)) (hb : Below base w w') (hk : KT g w w') {aT' : Option Addr} {cT' : Nat} (hF : Fi w' base g gB N hs' aT' cT' t' uk up uc ud fp fs) : Goes w w' e base g gB N hs t uk up uc ud fp fs r := by
  subst hr; exact ⟨hb, hk, he, aT', cT', hF⟩

/-- The round, purely. -/
def stepT (code : List In) (hs : List Int) (t : List Nat) (a : Nat) : Option (List Int × List Nat) :=
  match suT code a (hs.getD a (-1)) with
  | none => none
  | some es => reachAll hs t es

set_option maxRecDepth 100000 in
set_option maxHeartbeats 4000000 in
theorem follow_any (base g gB a : Nat) (hs : List Int) (aT : Option Addr) (cT : Nat) (t : List Nat) (uk up uc : Value) (aD : Option Addr) (cD : Nat) (fp fs : Int) (code : List In) (w : World) (F : Fi w base g gB code.length hs aT cT t uk up uc (.slice aD code.length cD) fp fs)
    (hN : code.length ≤ 1048576) (ht : t.length ≤ 4194304) (hb : base ≤ w.heap.size) (hb0 : 2 < base) (hS : Shp w) (hd : RdI w aD code) (ha : a < code.length) (hz : 0 ≤ hs.getD a (-1) ∧ hs.getD a (-1) ≤ 300) (hx : XOk code.length (code.getD a in0)) :
    Calls Tryd.prog 66 #[.pointer (some ⟨g, 0, none⟩), .int .i64 a] w fun e w' => Goes w w' e base g gB code.length hs t uk up uc (.slice aD code.length cD) fp fs (stepT code hs t a) := by
  obtain ⟨N, hNN⟩ : ∃ N, N = code.length := ⟨_, rfl⟩
  have hgl := F.ck.lt
  have hgBl := (F.fl.own.lt gB rfl).2
  obtain ⟨gx, hgx⟩ : ∃ gx, gx = w.heap.size := ⟨_, rfl⟩
  have c5 := F.ck.at 5 _ rfl
  have c7 := F.ck.at 7 _ rfl
  have cH := F.fl.own.cellAt a (by omega)
  rw [ic_at (by rw [F.fl.len]; exact ha)] at cH
  obtain ⟨bI, offI, rfl, i0, i1, i2⟩ := hd a ha
  have HST : Hid (stepT code hs t a = if hs.getD a (-1) - tkI (code.getD a in0) < 0 ∨ 300 < hs.getD a (-1) - tkI (code.getD a in0) + lvI (code.getD a in0) then none else reachAll hs t (tgt (code.getD a in0) (hs.getD a (-1) - tkI (code.getD a in0)) ++ nxt (code.getD a in0) a (hs.getD a (-1) - tkI (code.getD a in0)))) := by
    show _ = _
    unfold stepT suT
    by_cases h : hs.getD a (-1) - tkI (code.getD a in0) < 0 ∨ 300 < hs.getD a (-1) - tkI (code.getD a in0) + lvI (code.getD a in0)
    · rw [if_pos h, if_pos h]
    · rw [if_neg h, if_neg h]
  generalize stepT code hs t a = st at HST ⊢
  have htk := hx.takes
  have CM := fun W h1 h2 => moves_any gx _ (code.getD a in0) hx W h1 h2
  have CTG := fun W h1 h2 => target_any gx _ (code.getD a in0) hx W h1 h2
  generalize hs.getD a (-1) = z at *
  generalize code.getD a in0 = X at *
  have hlo := hx.lo
  have hhi := hx.hi
  have hxj := hx.jmp
  have hxl := hx.loop
  have hL0 : (X.op = 18 ∨ X.op = 19 ∨ X.op = 20 ∨ X.op = 21 ∨ X.op = 23 ∨ X.op = 24 ∨ X.op = 26 ∨ X.op = 27) → lvI X = 0 := by
    intro h
    unfold lvI
    rw [if_neg (by omega)]
    rcases h with h | h | h | h | h | h | h | h <;> rw [h] <;> rfl
  have hNX : Hid (∀ n, nxt X a n = if X.op = 18 ∨ X.op = 23 ∨ X.op = 24 then [] else [(a + 1, n + lvI X)]) := fun _ => rfl
  have hTG : Hid (∀ n, tgt X n = if X.op = 18 ∨ X.op = 19 then [(X.a.toNat, n)] else if X.op = 20 ∨ X.op = 21 then [(X.a.toNat, n + 1)] else if X.op = 26 ∨ X.op = 27 then [(X.b.toNat, n)] else []) := fun _ => rfl
  have hTP : Hid (tptr gx X = if 18 ≤ X.op ∧ X.op ≤ 21 then .pointer (some ⟨gx, 1, none⟩) else if 26 ≤ X.op then .pointer (some ⟨gx, 2, none⟩) else .pointer none) := rfl
  generalize tptr gx X = tp at *
  generalize tkI X = T at *
  generalize lvI X = L at *
  obtain ⟨xo, xa, xb⟩ := X
  simp only at i0 i1 i2 hlo hhi hxj hxl hL0 hNX hTG hTP
  have HF : Hid (Fi w base g gB code.length hs aT cT t uk up uc (.slice (some ⟨bI, offI, none⟩) code.length cD) fp fs) := F
  have HSH : Hid (Shp w) := hS
  have ha' : (a : Int) < (N : Int) := by omega
  have hvT : (Value.slice aT t.length cT).ownBlock ≠ some gx := fun e => by have := (F.fl.todo.lt gx e).2; omega
  have HVT : Hid ((Value.slice aT t.length cT).ownBlock ≠ some gx) := hvT
  clear hvT
  obtain ⟨W1, hW1⟩ : ∃ W1, W1 = w.alloc (.cells #[.int .i64 xo, .int .i64 xa, .int .i64 xb] 50) := ⟨_, rfl⟩
  have hb1 : Below w.heap.size w W1 := by rw [hW1]; exact (Below.refl _ _).alloc (Nat.le_refl _) _
  have I1 : InB W1 gx ⟨xo, xa, xb⟩ := by rw [hW1, hgx]; exact ⟨cellNew rfl, cellNew rfl, cellNew rfl⟩
  have hs1 : W1.heap.size = gx + 1 := by rw [hW1, hgx]; simp
  have M := CM W1 (hS.below hb1 (by omega)) I1
  have HI1 : Hid (InB W1 gx ⟨xo, xa, xb⟩) := I1
  have HB1 : Hid (Below w.heap.size w W1) := hb1
  have HW1 : Hid (W1 = w.alloc (.cells #[.int .i64 xo, .int .i64 xa, .int .i64 xb] 50)) := hW1
  have HCT : Hid (∀ W, Shp W → InB W gx ⟨xo, xa, xb⟩ → Calls Tryd.prog 73 #[.pointer (some ⟨gx, 0, none⟩)] W fun e w' => e = .returned tp ∧ Below W.heap.size W w') := CTG
  rw [← hNN] at c5 c7
  have HGX : Hid (gx = w.heap.size) := hgx
  have HNN : Hid (code.length = N) := hNN.symm
  have hN' : N ≤ 1048576 := by rw [hNN]; exact hN
  have hgx2 : g < gx ∧ gB < gx ∧ base ≤ gx := by omega
  clear F hS hd CM CTG hx hb1 I1 hW1 hNN hN hgx
  rw [HNN.out] at HF ⊢
  go_enter Tryd.func66, Tryd.ntmps66
  go_wp2_with fail
  rw [← HW1.out, ← HGX.out]
  refine M.mono ?_
  rintro e w2 ⟨rfl, hb2⟩
  clear M
  have HB2 : Hid (Below w.heap.size w w2) := HB1.out.trans (hb2.mono HB1.out.size)
  have HI2 : Hid (InB w2 gx ⟨xo, xa, xb⟩) := ⟨cellB HI1.out.1 hb2, cellB HI1.out.2.1 hb2, cellB HI1.out.2.2 hb2⟩
  have HX2 : Hid (gx + 1 ≤ w2.heap.size) := by have := hb2.size; rw [hs1] at this; exact this
  have HF2 : Hid (Fi w2 base g gB N hs aT cT t uk up uc (.slice (some ⟨bI, offI, none⟩) N cD) fp fs) := HF.out.below HB2.out (Nat.le_refl _)
  have x0 := HI2.out.1
  have x1 := HI2.out.2.1
  have x2 := HI2.out.2.2
  simp only at x0 x1 x2
  have d7 := cellB c7 HB2.out
  have dH := cellB cH HB2.out
  have HSH2 : Hid (Shp w2) := HSH.out.below HB2.out (by omega)
  clear hb2 i0 i1 i2 c5 c7 cH HI1 HF HSH
  by_cases hneg : z < T
  · have t1 : decide (z < T) = true := by simpa using hneg
    have HR : Hid (st = none) := by show _ = _; rw [HST.out, if_pos (.inl (by omega))]
    clear HST
    go_wp2_with fail
    first
      | go_returns
      | (go_quiet (fail)
         go_wp2_with fail
         go_returns)
    exact goes_no HR.out rfl (by first | exact HB2.out.mono hb | exact bel_drewN (HB2.out.mono hb) _) (ko_below (by first | exact HB2.out | exact bel_drewN HB2.out _))
  have t1 : decide (z < T) = false := by simpa using hneg
  by_cases htop : 300 < z - T + L
  · have t2 : decide (300 < z - T + L) = true := by simpa using htop
    have HR : Hid (st = none) := by show _ = _; rw [HST.out, if_pos (.inr htop)]
    clear HST
    go_wp2_with fail
    first
      | go_returns
      | (go_quiet (fail)
         go_wp2_with fail
         go_returns)
    exact goes_no HR.out rfl (by first | exact HB2.out.mono hb | exact bel_drewN (HB2.out.mono hb) _) (ko_below (by first | exact HB2.out | exact bel_drewN HB2.out _))
  have t2 : decide (300 < z - T + L) = false := by simpa using htop
  have HST2 : Hid (st = reachAll hs t (tgt ⟨xo, xa, xb⟩ (z - T) ++ nxt ⟨xo, xa, xb⟩ a (z - T))) := by show _ = _; rw [HST.out, if_neg (by omega)]
  clear HST
  have T2 := HCT.out w2 HSH2.out HI2.out
  clear HCT
  by_cases hop : xo = 18
  · subst hop
    have hja := hxj (by omega) (by omega)
    have HL : Hid (L = 0) := hL0 (by omega)
    clear hL0
    have HTP : Hid (tp = .pointer (some ⟨gx, 1, none⟩)) := by show _ = _; rw [hTP.out]; simp
    rw [HTP.out] at T2
    have HTG : Hid (tgt ⟨18, xa, xb⟩ (z - T) = [(xa.toNat, z - T + L)]) := by show _ = _; rw [hTG.out]; have := HL.out; simp; omega
    go_wp2_with fail
    refine T2.mono ?_
    rintro e w3 ⟨rfl, hb3⟩
    clear T2
    have HB3 : Hid (Below base w w3) := (HB2.out.mono hb).trans (hb3.mono (by have := HB2.out.size; omega))
    have KO3 : Hid (KT g w w3) := (ko_below HB2.out).trans (ko_below hb3)
    have HF3 : Hid (Fi w3 base g gB N hs aT cT t uk up uc (.slice (some ⟨bI, offI, none⟩) N cD) fp fs) := HF2.out.below hb3 (Nat.le_refl _)
    have y0 := cellB x0 hb3
    have y1 := cellB x1 hb3
    have y2 := cellB x2 hb3
    have HX3 : Hid (gx + 1 ≤ w3.heap.size) := Nat.le_trans HX2.out hb3.size
    clear hb3 x0 x1 x2 d7 dH
    cases hr1 : reach hs t xa.toNat (z - T + L) with
    | none =>
      have HR : Hid (st = none) := by show _ = _; rw [HST2.out, reachAll_append, HTG.out, reachAll_one, hr1]
      have C := reachI_no base g gB N (xa.toNat) (z - T + L) hs aT cT t uk up uc (.slice (some ⟨bI, offI, none⟩) N cD) fp fs w3 HF3.out hN' hr1
      rw [(show ((xa.toNat : Nat) : Int) = xa by omega)] at C
      clear HST2 hr1
      go_wp2_with fail
      refine C.mono ?_
      rintro e w4 ⟨rfl, hb4⟩
      have HB4 : Hid (Below base w w4) := HB3.out.trans (hb4.mono (by have := HB3.out.size; omega))
      have KO4 : Hid (KT g w w4) := KO3.out.trans (ko_below hb4)
      clear hb4 C
      go_wp2_with fail
      go_returns
      exact goes_no HR.out rfl HB4.out KO4.out
    | some q1 =>
      have HTG1 : Hid (reachAll hs t (tgt ⟨18, xa, xb⟩ (z - T)) = some (q1.1, q1.2)) := by show _ = _; rw [HTG.out, reachAll_one]; exact hr1
      have C := reachI_ok base g gB N (xa.toNat) (z - T + L) hs q1.1 aT cT t q1.2 uk up uc (.slice (some ⟨bI, offI, none⟩) N cD) fp fs w3 HF3.out hN' (by omega) (by have := HB3.out.size; omega) hr1
      rw [(show ((xa.toNat : Nat) : Int) = xa by omega)] at C
      have HTB : Hid (q1.2.length ≤ 4194305) := by show _ ≤ _; have := reach_len hr1; omega
      clear hr1
      go_wp2_with fail
      refine C.mono ?_
      rintro e w4 ⟨rfl, aT4, cT4, F4, hb4, hk4⟩
      have HF4 : Hid _ := F4
      have HB4 : Hid (Below base w w4) := HB3.out.trans hb4
      have KO4 : Hid (KT g w w4) := KO3.out.trans (ko_fi HF3.out hb4.size hk4)
      have hxb := hk4 gx (by have := HX3.out; omega) (by omega) (by omega) HVT.out
      have v0 := (World.cell?_of_block (a := ⟨gx, 0, none⟩) hxb).trans y0
      clear F4 hb4 C hk4 hxb y0 y1 y2
      have HR : Hid (st = some (q1.1, q1.2)) := by show _ = _; rw [HST2.out, reachAll_append, HTG1.out, hNX.out]; rfl
      clear HST2
      go_wp2_with fail
      go_returns
      exact goes_ok HR.out rfl HB4.out KO4.out HF4.out
  by_cases hop : xo = 23
  · subst hop
    have HL : Hid (L = 0) := hL0 (by omega)
    clear hL0
    have HTP : Hid (tp = .pointer none) := by show _ = _; rw [hTP.out]; rfl
    rw [HTP.out] at T2
    have HTG : Hid (reachAll hs t (tgt ⟨23, xa, xb⟩ (z - T)) = some (hs, t)) := by show _ = _; rw [hTG.out]; rfl
    go_wp2_with fail
    refine T2.mono ?_
    rintro e w3 ⟨rfl, hb3⟩
    clear T2
    have HB3 : Hid (Below base w w3) := (HB2.out.mono hb).trans (hb3.mono (by have := HB2.out.size; omega))
    have KO3 : Hid (KT g w w3) := (ko_below HB2.out).trans (ko_below hb3)
    have HF3 : Hid (Fi w3 base g gB N hs aT cT t uk up uc (.slice (some ⟨bI, offI, none⟩) N cD) fp fs) := HF2.out.below hb3 (Nat.le_refl _)
    have y0 := cellB x0 hb3
    clear hb3 x0 x1 x2 d7 dH
    have HR : Hid (st = some (hs, t)) := by show _ = _; rw [HST2.out, reachAll_append, HTG.out, hNX.out]; rfl
    clear HST2
    go_wp2_with fail
    go_returns
    exact goes_ok HR.out rfl HB3.out KO3.out HF3.out
  by_cases hop : xo = 24
  · subst hop
    have HL : Hid (L = 0) := hL0 (by omega)
    clear hL0
    have HTP : Hid (tp = .pointer none) := by show _ = _; rw [hTP.out]; rfl
    rw [HTP.out] at T2
    have HTG : Hid (reachAll hs t (tgt ⟨24, xa, xb⟩ (z - T)) = some (hs, t)) := by show _ = _; rw [hTG.out]; rfl
    go_wp2_with fail
    refine T2.mono ?_
    rintro e w3 ⟨rfl, hb3⟩
    clear T2
    have HB3 : Hid (Below base w w3) := (HB2.out.mono hb).trans (hb3.mono (by have := HB2.out.size; omega))
    have KO3 : Hid (KT g w w3) := (ko_below HB2.out).trans (ko_below hb3)
    have HF3 : Hid (Fi w3 base g gB N hs aT cT t uk up uc (.slice (some ⟨bI, offI, none⟩) N cD) fp fs) := HF2.out.below hb3 (Nat.le_refl _)
    have y0 := cellB x0 hb3
    clear hb3 x0 x1 x2 d7 dH
    have HR : Hid (st = some (hs, t)) := by show _ = _; rw [HST2.out, reachAll_append, HTG.out, hNX.out]; rfl
    clear HST2
    go_wp2_with fail
    go_returns
    exact goes_ok HR.out rfl HB3.out KO3.out HF3.out
  by_cases hop : xo = 19
  · subst hop
    have hja := hxj (by omega) (by omega)
    have HL : Hid (L = 0) := hL0 (by omega)
    clear hL0
    have HTP : Hid (tp = .pointer (some ⟨gx, 1, none⟩)) := by show _ = _; rw [hTP.out]; simp
    rw [HTP.out] at T2
    have HTG : Hid (tgt ⟨19, xa, xb⟩ (z - T) = [(xa.toNat, z - T + L)]) := by show _ = _; rw [hTG.out]; have := HL.out; simp; omega
    go_wp2_with fail
    refine T2.mono ?_
    rintro e w3 ⟨rfl, hb3⟩
    clear T2
    have HB3 : Hid (Below base w w3) := (HB2.out.mono hb).trans (hb3.mono (by have := HB2.out.size; omega))
    have KO3 : Hid (KT g w w3) := (ko_below HB2.out).trans (ko_below hb3)
    have HF3 : Hid (Fi w3 base g gB N hs aT cT t uk up uc (.slice (some ⟨bI, offI, none⟩) N cD) fp fs) := HF2.out.below hb3 (Nat.le_refl _)
    have y0 := cellB x0 hb3
    have y1 := cellB x1 hb3
    have y2 := cellB x2 hb3
    have HX3 : Hid (gx + 1 ≤ w3.heap.size) := Nat.le_trans HX2.out hb3.size
    clear hb3 x0 x1 x2 d7 dH
    cases hr1 : reach hs t xa.toNat (z - T + L) with
    | none =>
      have HR : Hid (st = none) := by show _ = _; rw [HST2.out, reachAll_append, HTG.out, reachAll_one, hr1]
      have C := reachI_no base g gB N (xa.toNat) (z - T + L) hs aT cT t uk up uc (.slice (some ⟨bI, offI, none⟩) N cD) fp fs w3 HF3.out hN' hr1
      rw [(show ((xa.toNat : Nat) : Int) = xa by omega)] at C
      clear HST2 hr1
      go_wp2_with fail
      refine C.mono ?_
      rintro e w4 ⟨rfl, hb4⟩
      have HB4 : Hid (Below base w w4) := HB3.out.trans (hb4.mono (by have := HB3.out.size; omega))
      have KO4 : Hid (KT g w w4) := KO3.out.trans (ko_below hb4)
      clear hb4 C
      go_wp2_with fail
      go_returns
      exact goes_no HR.out rfl HB4.out KO4.out
    | some q1 =>
      have HTG1 : Hid (reachAll hs t (tgt ⟨19, xa, xb⟩ (z - T)) = some (q1.1, q1.2)) := by show _ = _; rw [HTG.out, reachAll_one]; exact hr1
      have C := reachI_ok base g gB N (xa.toNat) (z - T + L) hs q1.1 aT cT t q1.2 uk up uc (.slice (some ⟨bI, offI, none⟩) N cD) fp fs w3 HF3.out hN' (by omega) (by have := HB3.out.size; omega) hr1
      rw [(show ((xa.toNat : Nat) : Int) = xa by omega)] at C
      have HTB : Hid (q1.2.length ≤ 4194305) := by show _ ≤ _; have := reach_len hr1; omega
      clear hr1
      go_wp2_with fail
      refine C.mono ?_
      rintro e w4 ⟨rfl, aT4, cT4, F4, hb4, hk4⟩
      have HF4 : Hid _ := F4
      have HB4 : Hid (Below base w w4) := HB3.out.trans hb4
      have KO4 : Hid (KT g w w4) := KO3.out.trans (ko_fi HF3.out hb4.size hk4)
      have hxb := hk4 gx (by have := HX3.out; omega) (by omega) (by omega) HVT.out
      have v0 := (World.cell?_of_block (a := ⟨gx, 0, none⟩) hxb).trans y0
      clear F4 hb4 C hk4 hxb y0 y1 y2
      have HNX : Hid (nxt ⟨19, xa, xb⟩ a (z - T) = [(a + 1, z - T + L)]) := by show _ = _; rw [hNX.out]; simp
      have eC : ((a + 1 : Nat) : Int) = (a : Int) + 1 := by omega
      cases hn : reach q1.1 q1.2 (a + 1) (z - T + L) with
      | none =>
        have HR : Hid (st = none) := by show _ = _; rw [HST2.out, reachAll_append, HTG1.out, HNX.out]; simp only; rw [reachAll_one]; exact hn
        have C := reachI_no base g gB N (a + 1) (z - T + L) q1.1 aT4 cT4 q1.2 uk up uc (.slice (some ⟨bI, offI, none⟩) N cD) fp fs w4 HF4.out hN' hn
        rw [eC] at C
        clear HST2 hn
        go_wp2_with fail
        refine C.mono ?_
        rintro e w9 ⟨rfl, hb9⟩
        have HB9 : Hid (Below base w w9) := HB4.out.trans (hb9.mono (by have := HB4.out.size; omega))
        have KO9 : Hid (KT g w w9) := KO4.out.trans (ko_below hb9)
        clear hb9 C
        go_wp2_with fail
        go_returns
        exact goes_no HR.out rfl HB9.out KO9.out
      | some q =>
        have HR : Hid (st = some (q.1, q.2)) := by show _ = _; rw [HST2.out, reachAll_append, HTG1.out, HNX.out]; simp only; rw [reachAll_one]; exact hn
        have C := reachI_ok base g gB N (a + 1) (z - T + L) q1.1 q.1 aT4 cT4 q1.2 q.2 uk up uc (.slice (some ⟨bI, offI, none⟩) N cD) fp fs w4 HF4.out hN' (by have := HTB.out; omega) (by have := HB4.out.size; omega) hn
        rw [eC] at C
        clear HST2 hn
        go_wp2_with fail
        refine C.mono ?_
        rintro e w9 ⟨rfl, aT9, cT9, F9, hb9, hk9⟩
        have HF9 : Hid _ := F9
        have HB9 : Hid (Below base w w9) := HB4.out.trans hb9
        have KO9 : Hid (KT g w w9) := KO4.out.trans (ko_fi HF4.out hb9.size hk9)
        clear hb9 C F9 hk9
        go_wp2_with fail
        go_returns
        exact goes_ok HR.out rfl HB9.out KO9.out HF9.out
  by_cases hop : xo = 20
  · subst hop
    have hja := hxj (by omega) (by omega)
    have HL : Hid (L = 0) := hL0 (by omega)
    clear hL0
    have HTP : Hid (tp = .pointer (some ⟨gx, 1, none⟩)) := by show _ = _; rw [hTP.out]; simp
    rw [HTP.out] at T2
    have HTG : Hid (tgt ⟨20, xa, xb⟩ (z - T) = [(xa.toNat, z - T + L + 1)]) := by show _ = _; rw [hTG.out]; have := HL.out; simp; omega
    go_wp2_with fail
    refine T2.mono ?_
    rintro e w3 ⟨rfl, hb3⟩
    clear T2
    have HB3 : Hid (Below base w w3) := (HB2.out.mono hb).trans (hb3.mono (by have := HB2.out.size; omega))
    have KO3 : Hid (KT g w w3) := (ko_below HB2.out).trans (ko_below hb3)
    have HF3 : Hid (Fi w3 base g gB N hs aT cT t uk up uc (.slice (some ⟨bI, offI, none⟩) N cD) fp fs) := HF2.out.below hb3 (Nat.le_refl _)
    have y0 := cellB x0 hb3
    have y1 := cellB x1 hb3
    have y2 := cellB x2 hb3
    have HX3 : Hid (gx + 1 ≤ w3.heap.size) := Nat.le_trans HX2.out hb3.size
    clear hb3 x0 x1 x2 d7 dH
    cases hr1 : reach hs t xa.toNat (z - T + L + 1) with
    | none =>
      have HR : Hid (st = none) := by show _ = _; rw [HST2.out, reachAll_append, HTG.out, reachAll_one, hr1]
      have C := reachI_no base g gB N (xa.toNat) (z - T + L + 1) hs aT cT t uk up uc (.slice (some ⟨bI, offI, none⟩) N cD) fp fs w3 HF3.out hN' hr1
      rw [(show ((xa.toNat : Nat) : Int) = xa by omega)] at C
      clear HST2 hr1
      go_wp2_with fail
      refine C.mono ?_
      rintro e w4 ⟨rfl, hb4⟩
      have HB4 : Hid (Below base w w4) := HB3.out.trans (hb4.mono (by have := HB3.out.size; omega))
      have KO4 : Hid (KT g w w4) := KO3.out.trans (ko_below hb4)
      clear hb4 C
      go_wp2_with fail
      go_returns
      exact goes_no HR.out rfl HB4.out KO4.out
    | some q1 =>
      have HTG1 : Hid (reachAll hs t (tgt ⟨20, xa, xb⟩ (z - T)) = some (q1.1, q1.2)) := by show _ = _; rw [HTG.out, reachAll_one]; exact hr1
      have C := reachI_ok base g gB N (xa.toNat) (z - T + L + 1) hs q1.1 aT cT t q1.2 uk up uc (.slice (some ⟨bI, offI, none⟩) N cD) fp fs w3 HF3.out hN' (by omega) (by have := HB3.out.size; omega) hr1
      rw [(show ((xa.toNat : Nat) : Int) = xa by omega)] at C
      have HTB : Hid (q1.2.length ≤ 4194305) := by show _ ≤ _; have := reach_len hr1; omega
      clear hr1
      go_wp2_with fail
      refine C.mono ?_
      rintro e w4 ⟨rfl, aT4, cT4, F4, hb4, hk4⟩
      have HF4 : Hid _ := F4
      have HB4 : Hid (Below base w w4) := HB3.out.trans hb4
      have KO4 : Hid (KT g w w4) := KO3.out.trans (ko_fi HF3.out hb4.size hk4)
      have hxb := hk4 gx (by have := HX3.out; omega) (by omega) (by omega) HVT.out
      have v0 := (World.cell?_of_block (a := ⟨gx, 0, none⟩) hxb).trans y0
      clear F4 hb4 C hk4 hxb y0 y1 y2
      have HNX : Hid (nxt ⟨20, xa, xb⟩ a (z - T) = [(a + 1, z - T + L)]) := by show _ = _; rw [hNX.out]; simp
      have eC : ((a + 1 : Nat) : Int) = (a : Int) + 1 := by omega
      cases hn : reach q1.1 q1.2 (a + 1) (z - T + L) with
      | none =>
        have HR : Hid (st = none) := by show _ = _; rw [HST2.out, reachAll_append, HTG1.out, HNX.out]; simp only; rw [reachAll_one]; exact hn
        have C := reachI_no base g gB N (a + 1) (z - T + L) q1.1 aT4 cT4 q1.2 uk up uc (.slice (some ⟨bI, offI, none⟩) N cD) fp fs w4 HF4.out hN' hn
        rw [eC] at C
        clear HST2 hn
        go_wp2_with fail
        refine C.mono ?_
        rintro e w9 ⟨rfl, hb9⟩
        have HB9 : Hid (Below base w w9) := HB4.out.trans (hb9.mono (by have := HB4.out.size; omega))
        have KO9 : Hid (KT g w w9) := KO4.out.trans (ko_below hb9)
        clear hb9 C
        go_wp2_with fail
        go_returns
        exact goes_no HR.out rfl HB9.out KO9.out
      | some q =>
        have HR : Hid (st = some (q.1, q.2)) := by show _ = _; rw [HST2.out, reachAll_append, HTG1.out, HNX.out]; simp only; rw [reachAll_one]; exact hn
        have C := reachI_ok base g gB N (a + 1) (z - T + L) q1.1 q.1 aT4 cT4 q1.2 q.2 uk up uc (.slice (some ⟨bI, offI, none⟩) N cD) fp fs w4 HF4.out hN' (by have := HTB.out; omega) (by have := HB4.out.size; omega) hn
        rw [eC] at C
        clear HST2 hn
        go_wp2_with fail
        refine C.mono ?_
        rintro e w9 ⟨rfl, aT9, cT9, F9, hb9, hk9⟩
        have HF9 : Hid _ := F9
        have HB9 : Hid (Below base w w9) := HB4.out.trans hb9
        have KO9 : Hid (KT g w w9) := KO4.out.trans (ko_fi HF4.out hb9.size hk9)
        clear hb9 C F9 hk9
        go_wp2_with fail
        go_returns
        exact goes_ok HR.out rfl HB9.out KO9.out HF9.out
  by_cases hop : xo = 21
  · subst hop
    have hja := hxj (by omega) (by omega)
    have HL : Hid (L = 0) := hL0 (by omega)
    clear hL0
    have HTP : Hid (tp = .pointer (some ⟨gx, 1, none⟩)) := by show _ = _; rw [hTP.out]; simp
    rw [HTP.out] at T2
    have HTG : Hid (tgt ⟨21, xa, xb⟩ (z - T) = [(xa.toNat, z - T + L + 1)]) := by show _ = _; rw [hTG.out]; have := HL.out; simp; omega
    go_wp2_with fail
    refine T2.mono ?_
    rintro e w3 ⟨rfl, hb3⟩
    clear T2
    have HB3 : Hid (Below base w w3) := (HB2.out.mono hb).trans (hb3.mono (by have := HB2.out.size; omega))
    have KO3 : Hid (KT g w w3) := (ko_below HB2.out).trans (ko_below hb3)
    have HF3 : Hid (Fi w3 base g gB N hs aT cT t uk up uc (.slice (some ⟨bI, offI, none⟩) N cD) fp fs) := HF2.out.below hb3 (Nat.le_refl _)
    have y0 := cellB x0 hb3
    have y1 := cellB x1 hb3
    have y2 := cellB x2 hb3
    have HX3 : Hid (gx + 1 ≤ w3.heap.size) := Nat.le_trans HX2.out hb3.size
    clear hb3 x0 x1 x2 d7 dH
    cases hr1 : reach hs t xa.toNat (z - T + L + 1) with
    | none =>
      have HR : Hid (st = none) := by show _ = _; rw [HST2.out, reachAll_append, HTG.out, reachAll_one, hr1]
      have C := reachI_no base g gB N (xa.toNat) (z - T + L + 1) hs aT cT t uk up uc (.slice (some ⟨bI, offI, none⟩) N cD) fp fs w3 HF3.out hN' hr1
      rw [(show ((xa.toNat : Nat) : Int) = xa by omega)] at C
      clear HST2 hr1
      go_wp2_with fail
      refine C.mono ?_
      rintro e w4 ⟨rfl, hb4⟩
      have HB4 : Hid (Below base w w4) := HB3.out.trans (hb4.mono (by have := HB3.out.size; omega))
      have KO4 : Hid (KT g w w4) := KO3.out.trans (ko_below hb4)
      clear hb4 C
      go_wp2_with fail
      go_returns
      exact goes_no HR.out rfl HB4.out KO4.out
    | some q1 =>
      have HTG1 : Hid (reachAll hs t (tgt ⟨21, xa, xb⟩ (z - T)) = some (q1.1, q1.2)) := by show _ = _; rw [HTG.out, reachAll_one]; exact hr1
      have C := reachI_ok base g gB N (xa.toNat) (z - T + L + 1) hs q1.1 aT cT t q1.2 uk up uc (.slice (some ⟨bI, offI, none⟩) N cD) fp fs w3 HF3.out hN' (by omega) (by have := HB3.out.size; omega) hr1
      rw [(show ((xa.toNat : Nat) : Int) = xa by omega)] at C
      have HTB : Hid (q1.2.length ≤ 4194305) := by show _ ≤ _; have := reach_len hr1; omega
      clear hr1
      go_wp2_with fail
      refine C.mono ?_
      rintro e w4 ⟨rfl, aT4, cT4, F4, hb4, hk4⟩
      have HF4 : Hid _ := F4
      have HB4 : Hid (Below base w w4) := HB3.out.trans hb4
      have KO4 : Hid (KT g w w4) := KO3.out.trans (ko_fi HF3.out hb4.size hk4)
      have hxb := hk4 gx (by have := HX3.out; omega) (by omega) (by omega) HVT.out
      have v0 := (World.cell?_of_block (a := ⟨gx, 0, none⟩) hxb).trans y0
      clear F4 hb4 C hk4 hxb y0 y1 y2
      have HNX : Hid (nxt ⟨21, xa, xb⟩ a (z - T) = [(a + 1, z - T + L)]) := by show _ = _; rw [hNX.out]; simp
      have eC : ((a + 1 : Nat) : Int) = (a : Int) + 1 := by omega
      cases hn : reach q1.1 q1.2 (a + 1) (z - T + L) with
      | none =>
        have HR : Hid (st = none) := by show _ = _; rw [HST2.out, reachAll_append, HTG1.out, HNX.out]; simp only; rw [reachAll_one]; exact hn
        have C := reachI_no base g gB N (a + 1) (z - T + L) q1.1 aT4 cT4 q1.2 uk up uc (.slice (some ⟨bI, offI, none⟩) N cD) fp fs w4 HF4.out hN' hn
        rw [eC] at C
        clear HST2 hn
        go_wp2_with fail
        refine C.mono ?_
        rintro e w9 ⟨rfl, hb9⟩
        have HB9 : Hid (Below base w w9) := HB4.out.trans (hb9.mono (by have := HB4.out.size; omega))
        have KO9 : Hid (KT g w w9) := KO4.out.trans (ko_below hb9)
        clear hb9 C
        go_wp2_with fail
        go_returns
        exact goes_no HR.out rfl HB9.out KO9.out
      | some q =>
        have HR : Hid (st = some (q.1, q.2)) := by show _ = _; rw [HST2.out, reachAll_append, HTG1.out, HNX.out]; simp only; rw [reachAll_one]; exact hn
        have C := reachI_ok base g gB N (a + 1) (z - T + L) q1.1 q.1 aT4 cT4 q1.2 q.2 uk up uc (.slice (some ⟨bI, offI, none⟩) N cD) fp fs w4 HF4.out hN' (by have := HTB.out; omega) (by have := HB4.out.size; omega) hn
        rw [eC] at C
        clear HST2 hn
        go_wp2_with fail
        refine C.mono ?_
        rintro e w9 ⟨rfl, aT9, cT9, F9, hb9, hk9⟩
        have HF9 : Hid _ := F9
        have HB9 : Hid (Below base w w9) := HB4.out.trans hb9
        have KO9 : Hid (KT g w w9) := KO4.out.trans (ko_fi HF4.out hb9.size hk9)
        clear hb9 C F9 hk9
        go_wp2_with fail
        go_returns
        exact goes_ok HR.out rfl HB9.out KO9.out HF9.out
  by_cases hop : xo = 26
  · subst hop
    have hjb := hxl (by omega)
    have HL : Hid (L = 0) := hL0 (by omega)
    clear hL0
    have HTP : Hid (tp = .pointer (some ⟨gx, 2, none⟩)) := by show _ = _; rw [hTP.out]; simp
    rw [HTP.out] at T2
    have HTG : Hid (tgt ⟨26, xa, xb⟩ (z - T) = [(xb.toNat, z - T + L)]) := by show _ = _; rw [hTG.out]; have := HL.out; simp; omega
    go_wp2_with fail
    refine T2.mono ?_
    rintro e w3 ⟨rfl, hb3⟩
    clear T2
    have HB3 : Hid (Below base w w3) := (HB2.out.mono hb).trans (hb3.mono (by have := HB2.out.size; omega))
    have KO3 : Hid (KT g w w3) := (ko_below HB2.out).trans (ko_below hb3)
    have HF3 : Hid (Fi w3 base g gB N hs aT cT t uk up uc (.slice (some ⟨bI, offI, none⟩) N cD) fp fs) := HF2.out.below hb3 (Nat.le_refl _)
    have y0 := cellB x0 hb3
    have y1 := cellB x1 hb3
    have y2 := cellB x2 hb3
    have HX3 : Hid (gx + 1 ≤ w3.heap.size) := Nat.le_trans HX2.out hb3.size
    clear hb3 x0 x1 x2 d7 dH
    cases hr1 : reach hs t xb.toNat (z - T + L) with
    | none =>
      have HR : Hid (st = none) := by show _ = _; rw [HST2.out, reachAll_append, HTG.out, reachAll_one, hr1]
      have C := reachI_no base g gB N (xb.toNat) (z - T + L) hs aT cT t uk up uc (.slice (some ⟨bI, offI, none⟩) N cD) fp fs w3 HF3.out hN' hr1
      rw [(show ((xb.toNat : Nat) : Int) = xb by omega)] at C
      clear HST2 hr1
      go_wp2_with fail
      refine C.mono ?_
      rintro e w4 ⟨rfl, hb4⟩
      have HB4 : Hid (Below base w w4) := HB3.out.trans (hb4.mono (by have := HB3.out.size; omega))
      have KO4 : Hid (KT g w w4) := KO3.out.trans (ko_below hb4)
      clear hb4 C
      go_wp2_with fail
      go_returns
      exact goes_no HR.out rfl HB4.out KO4.out
    | some q1 =>
      have HTG1 : Hid (reachAll hs t (tgt ⟨26, xa, xb⟩ (z - T)) = some (q1.1, q1.2)) := by show _ = _; rw [HTG.out, reachAll_one]; exact hr1
      have C := reachI_ok base g gB N (xb.toNat) (z - T + L) hs q1.1 aT cT t q1.2 uk up uc (.slice (some ⟨bI, offI, none⟩) N cD) fp fs w3 HF3.out hN' (by omega) (by have := HB3.out.size; omega) hr1
      rw [(show ((xb.toNat : Nat) : Int) = xb by omega)] at C
      have HTB : Hid (q1.2.length ≤ 4194305) := by show _ ≤ _; have := reach_len hr1; omega
      clear hr1
      go_wp2_with fail
      refine C.mono ?_
      rintro e w4 ⟨rfl, aT4, cT4, F4, hb4, hk4⟩
      have HF4 : Hid _ := F4
      have HB4 : Hid (Below base w w4) := HB3.out.trans hb4
      have KO4 : Hid (KT g w w4) := KO3.out.trans (ko_fi HF3.out hb4.size hk4)
      have hxb := hk4 gx (by have := HX3.out; omega) (by omega) (by omega) HVT.out
      have v0 := (World.cell?_of_block (a := ⟨gx, 0, none⟩) hxb).trans y0
      clear F4 hb4 C hk4 hxb y0 y1 y2
      have HNX : Hid (nxt ⟨26, xa, xb⟩ a (z - T) = [(a + 1, z - T + L)]) := by show _ = _; rw [hNX.out]; simp
      have eC : ((a + 1 : Nat) : Int) = (a : Int) + 1 := by omega
      cases hn : reach q1.1 q1.2 (a + 1) (z - T + L) with
      | none =>
        have HR : Hid (st = none) := by show _ = _; rw [HST2.out, reachAll_append, HTG1.out, HNX.out]; simp only; rw [reachAll_one]; exact hn
        have C := reachI_no base g gB N (a + 1) (z - T + L) q1.1 aT4 cT4 q1.2 uk up uc (.slice (some ⟨bI, offI, none⟩) N cD) fp fs w4 HF4.out hN' hn
        rw [eC] at C
        clear HST2 hn
        go_wp2_with fail
        refine C.mono ?_
        rintro e w9 ⟨rfl, hb9⟩
        have HB9 : Hid (Below base w w9) := HB4.out.trans (hb9.mono (by have := HB4.out.size; omega))
        have KO9 : Hid (KT g w w9) := KO4.out.trans (ko_below hb9)
        clear hb9 C
        go_wp2_with fail
        go_returns
        exact goes_no HR.out rfl HB9.out KO9.out
      | some q =>
        have HR : Hid (st = some (q.1, q.2)) := by show _ = _; rw [HST2.out, reachAll_append, HTG1.out, HNX.out]; simp only; rw [reachAll_one]; exact hn
        have C := reachI_ok base g gB N (a + 1) (z - T + L) q1.1 q.1 aT4 cT4 q1.2 q.2 uk up uc (.slice (some ⟨bI, offI, none⟩) N cD) fp fs w4 HF4.out hN' (by have := HTB.out; omega) (by have := HB4.out.size; omega) hn
        rw [eC] at C
        clear HST2 hn
        go_wp2_with fail
        refine C.mono ?_
        rintro e w9 ⟨rfl, aT9, cT9, F9, hb9, hk9⟩
        have HF9 : Hid _ := F9
        have HB9 : Hid (Below base w w9) := HB4.out.trans hb9
        have KO9 : Hid (KT g w w9) := KO4.out.trans (ko_fi HF4.out hb9.size hk9)
        clear hb9 C F9 hk9
        go_wp2_with fail
        go_returns
        exact goes_ok HR.out rfl HB9.out KO9.out HF9.out
  by_cases hop : xo = 27
  · subst hop
    have hjb := hxl (by omega)
    have HL : Hid (L = 0) := hL0 (by omega)
    clear hL0
    have HTP : Hid (tp = .pointer (some ⟨gx, 2, none⟩)) := by show _ = _; rw [hTP.out]; simp
    rw [HTP.out] at T2
    have HTG : Hid (tgt ⟨27, xa, xb⟩ (z - T) = [(xb.toNat, z - T + L)]) := by show _ = _; rw [hTG.out]; have := HL.out; simp; omega
    go_wp2_with fail
    refine T2.mono ?_
    rintro e w3 ⟨rfl, hb3⟩
    clear T2
    have HB3 : Hid (Below base w w3) := (HB2.out.mono hb).trans (hb3.mono (by have := HB2.out.size; omega))
    have KO3 : Hid (KT g w w3) := (ko_below HB2.out).trans (ko_below hb3)
    have HF3 : Hid (Fi w3 base g gB N hs aT cT t uk up uc (.slice (some ⟨bI, offI, none⟩) N cD) fp fs) := HF2.out.below hb3 (Nat.le_refl _)
    have y0 := cellB x0 hb3
    have y1 := cellB x1 hb3
    have y2 := cellB x2 hb3
    have HX3 : Hid (gx + 1 ≤ w3.heap.size) := Nat.le_trans HX2.out hb3.size
    clear hb3 x0 x1 x2 d7 dH
    cases hr1 : reach hs t xb.toNat (z - T + L) with
    | none =>
      have HR : Hid (st = none) := by show _ = _; rw [HST2.out, reachAll_append, HTG.out, reachAll_one, hr1]
      have C := reachI_no base g gB N (xb.toNat) (z - T + L) hs aT cT t uk up uc (.slice (some ⟨bI, offI, none⟩) N cD) fp fs w3 HF3.out hN' hr1
      rw [(show ((xb.toNat : Nat) : Int) = xb by omega)] at C
      clear HST2 hr1
      go_wp2_with fail
      refine C.mono ?_
      rintro e w4 ⟨rfl, hb4⟩
      have HB4 : Hid (Below base w w4) := HB3.out.trans (hb4.mono (by have := HB3.out.size; omega))
      have KO4 : Hid (KT g w w4) := KO3.out.trans (ko_below hb4)
      clear hb4 C
      go_wp2_with fail
      go_returns
      exact goes_no HR.out rfl HB4.out KO4.out
    | some q1 =>
      have HTG1 : Hid (reachAll hs t (tgt ⟨27, xa, xb⟩ (z - T)) = some (q1.1, q1.2)) := by show _ = _; rw [HTG.out, reachAll_one]; exact hr1
      have C := reachI_ok base g gB N (xb.toNat) (z - T + L) hs q1.1 aT cT t q1.2 uk up uc (.slice (some ⟨bI, offI, none⟩) N cD) fp fs w3 HF3.out hN' (by omega) (by have := HB3.out.size; omega) hr1
      rw [(show ((xb.toNat : Nat) : Int) = xb by omega)] at C
      have HTB : Hid (q1.2.length ≤ 4194305) := by show _ ≤ _; have := reach_len hr1; omega
      clear hr1
      go_wp2_with fail
      refine C.mono ?_
      rintro e w4 ⟨rfl, aT4, cT4, F4, hb4, hk4⟩
      have HF4 : Hid _ := F4
      have HB4 : Hid (Below base w w4) := HB3.out.trans hb4
      have KO4 : Hid (KT g w w4) := KO3.out.trans (ko_fi HF3.out hb4.size hk4)
      have hxb := hk4 gx (by have := HX3.out; omega) (by omega) (by omega) HVT.out
      have v0 := (World.cell?_of_block (a := ⟨gx, 0, none⟩) hxb).trans y0
      clear F4 hb4 C hk4 hxb y0 y1 y2
      have HNX : Hid (nxt ⟨27, xa, xb⟩ a (z - T) = [(a + 1, z - T + L)]) := by show _ = _; rw [hNX.out]; simp
      have eC : ((a + 1 : Nat) : Int) = (a : Int) + 1 := by omega
      cases hn : reach q1.1 q1.2 (a + 1) (z - T + L) with
      | none =>
        have HR : Hid (st = none) := by show _ = _; rw [HST2.out, reachAll_append, HTG1.out, HNX.out]; simp only; rw [reachAll_one]; exact hn
        have C := reachI_no base g gB N (a + 1) (z - T + L) q1.1 aT4 cT4 q1.2 uk up uc (.slice (some ⟨bI, offI, none⟩) N cD) fp fs w4 HF4.out hN' hn
        rw [eC] at C
        clear HST2 hn
        go_wp2_with fail
        refine C.mono ?_
        rintro e w9 ⟨rfl, hb9⟩
        have HB9 : Hid (Below base w w9) := HB4.out.trans (hb9.mono (by have := HB4.out.size; omega))
        have KO9 : Hid (KT g w w9) := KO4.out.trans (ko_below hb9)
        clear hb9 C
        go_wp2_with fail
        go_returns
        exact goes_no HR.out rfl HB9.out KO9.out
      | some q =>
        have HR : Hid (st = some (q.1, q.2)) := by show _ = _; rw [HST2.out, reachAll_append, HTG1.out, HNX.out]; simp only; rw [reachAll_one]; exact hn
        have C := reachI_ok base g gB N (a + 1) (z - T + L) q1.1 q.1 aT4 cT4 q1.2 q.2 uk up uc (.slice (some ⟨bI, offI, none⟩) N cD) fp fs w4 HF4.out hN' (by have := HTB.out; omega) (by have := HB4.out.size; omega) hn
        rw [eC] at C
        clear HST2 hn
        go_wp2_with fail
        refine C.mono ?_
        rintro e w9 ⟨rfl, aT9, cT9, F9, hb9, hk9⟩
        have HF9 : Hid _ := F9
        have HB9 : Hid (Below base w w9) := HB4.out.trans hb9
        have KO9 : Hid (KT g w w9) := KO4.out.trans (ko_fi HF4.out hb9.size hk9)
        clear hb9 C F9 hk9
        go_wp2_with fail
        go_returns
        exact goes_ok HR.out rfl HB9.out KO9.out HF9.out
  have o18 : (xo == 18) = false := by simp; omega
  have o20 : (xo == 20) = false := by simp; omega
  have o21 : (xo == 21) = false := by simp; omega
  have o23 : (xo == 23) = false := by simp; omega
  have o24 : (xo == 24) = false := by simp; omega
  clear hL0
  have HTP : Hid (tp = .pointer none) := by show _ = _; rw [hTP.out, if_neg (by omega), if_neg (by omega)]
  rw [HTP.out] at T2
  have HTG : Hid (reachAll hs t (tgt ⟨xo, xa, xb⟩ (z - T)) = some (hs, t)) := by show _ = _; rw [hTG.out, if_neg (by omega), if_neg (by omega), if_neg (by omega)]; rfl
  go_wp2_with fail
  refine T2.mono ?_
  rintro e w3 ⟨rfl, hb3⟩
  clear T2
  have HB3 : Hid (Below base w w3) := (HB2.out.mono hb).trans (hb3.mono (by have := HB2.out.size; omega))
  have KO3 : Hid (KT g w w3) := (ko_below HB2.out).trans (ko_below hb3)
  have HF3 : Hid (Fi w3 base g gB N hs aT cT t uk up uc (.slice (some ⟨bI, offI, none⟩) N cD) fp fs) := HF2.out.below hb3 (Nat.le_refl _)
  have y0 := cellB x0 hb3
  clear hb3 x0 x1 x2 d7 dH
  have HNX : Hid (nxt ⟨xo, xa, xb⟩ a (z - T) = [(a + 1, z - T + L)]) := by show _ = _; rw [hNX.out, if_neg (by omega)]
  have eC : ((a + 1 : Nat) : Int) = (a : Int) + 1 := by omega
  cases hn : reach hs t (a + 1) (z - T + L) with
  | none =>
    have HR : Hid (st = none) := by show _ = _; rw [HST2.out, reachAll_append, HTG.out, HNX.out]; simp only; rw [reachAll_one]; exact hn
    have C := reachI_no base g gB N (a + 1) (z - T + L) hs aT cT t uk up uc (.slice (some ⟨bI, offI, none⟩) N cD) fp fs w3 HF3.out hN' hn
    rw [eC] at C
    clear HST2 hn
    go_wp2_with fail
    refine C.mono ?_
    rintro e w9 ⟨rfl, hb9⟩
    have HB9 : Hid (Below base w w9) := HB3.out.trans (hb9.mono (by have := HB3.out.size; omega))
    have KO9 : Hid (KT g w w9) := KO3.out.trans (ko_below hb9)
    clear hb9 C
    go_wp2_with fail
    go_returns
    exact goes_no HR.out rfl HB9.out KO9.out
  | some q =>
    have HR : Hid (st = some (q.1, q.2)) := by show _ = _; rw [HST2.out, reachAll_append, HTG.out, HNX.out]; simp only; rw [reachAll_one]; exact hn
    have C := reachI_ok base g gB N (a + 1) (z - T + L) hs q.1 aT cT t q.2 uk up uc (.slice (some ⟨bI, offI, none⟩) N cD) fp fs w3 HF3.out hN' (by have := ht; omega) (by have := HB3.out.size; omega) hn
    rw [eC] at C
    clear HST2 hn
    go_wp2_with fail
    refine C.mono ?_
    rintro e w9 ⟨rfl, aT9, cT9, F9, hb9, hk9⟩
    have HF9 : Hid _ := F9
    have HB9 : Hid (Below base w w9) := HB3.out.trans hb9
    have KO9 : Hid (KT g w w9) := KO3.out.trans (ko_fi HF3.out hb9.size hk9)
    clear hb9 C F9 hk9
    go_wp2_with fail
    go_returns
    exact goes_ok HR.out rfl HB9.out KO9.out HF9.out
end Go.Proofs.YteagakplhfiodaaDoor.chk
