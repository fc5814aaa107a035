import Derived.Deep.RegionHeld3
import Derived.Test.YtepbddfpdlapbaaMSkMutC
import Derived.Test.YtepbddfpdlapbaaMTxPure
namespace Go.Proofs.Ytepbddfpdlapbaa.tk
open Go.RowKit Go.Proofs.Ytepbddfpdlapbaa.bts Go.Proofs.Ytepbddfpdlapbaa.nod Go.Proofs.Ytepbddfpdlapbaa.fmt
theorem bts_nil : Bts [] := by intro i; simp
theorem bts_drop {zs : List Int} (h : Bts zs) (n : Nat) : Bts (zs.drop n) := fun i => by
  have := h (n + i)
  rwa [List.getD_eq_getElem?_getD, List.getElem?_drop, ← List.getD_eq_getElem?_getD]
theorem turned_bts {zs : List Int} (hb : Bts zs) (kk a : Nat) {c : Int} (hc : 0 ≤ c ∧ c ≤ 255) : ∀ k, Bts (turned kk a c zs k)
  | 0 => bts_nil
  | k + 1 => by
    rw [turned]
    refine lex.bts_cat (turned_bts hb kk a hc k) ?_
    unfold turn1
    split
    · split
      · exact bts_nil
      · split
        · exact bts_one _ hc
        · exact lex.bts_cat (bts_one _ hc) (bts_one _ (hb k))
    · exact bts_one _ (hb k)
theorem soup_byte (s : ByteArray) (m : Nat) (h : m < s.size) : 0 ≤ ((s[m]'h).toNat : Int) ∧ ((s[m]'h).toNat : Int) ≤ 255 := by
  have := (s[m]'h).toNat_lt
  omega
def MutsB (bs : List Int) (i : Nat) (zs ys : List Int) (j : Nat) : Prop := ∀ (w0 w : World) (av : Option Addr) (cv r base : Nat) (v : Value), Rd w0 av bs → Rr w0 av cv bs w r i → OwB w base v zs → r < base →
  Calls Try.prog 11 #[v, .pointer (some ⟨r, 0, none⟩)] w fun e w' => ∃ v, e = .returned v ∧ OwB w' w.heap.size v ys ∧ Rr w0 av cv bs w' r j ∧ Fq r w w'
theorem mut_any {bs : List Int} (hb : Bts bs) (hl : bs.length ≤ 600) (i : Nat) {zs : List Int} (hz : Bts zs) (hzl : zs.length ≤ 40000) : ∃ ys j, ys.length ≤ 2 * zs.length + 8 ∧ Bts ys ∧ MutsB bs i zs ys j := by
  obtain ⟨k1, hk1, kb1⟩ := nxn hb i
  obtain ⟨k2, hk2, kb2⟩ := nxn hb (nxi bs i)
  obtain ⟨k3, hk3, kb3⟩ := nxn hb (nxi bs (nxi bs i))
  obtain ⟨k4, hk4, kb4⟩ := nxn hb (nxi bs (nxi bs (nxi bs i)))
  obtain ⟨m4, hm4, hm5⟩ : ∃ m : Nat, (k4 : Int) % 22 = (m : Int) ∧ m < 22 := ⟨k4 % 22, by omega, by omega⟩
  obtain ⟨c, hc⟩ : ∃ c, (((ByteArray.mk #[40, 41, 61, 44, 46, 59, 123, 125, 91, 93, 39, 34, 45, 60, 126, 97, 120, 49, 32, 10, 92, 64])[m4]'hm5).toNat : Int) = c := ⟨_, rfl⟩
  have hcb : 0 ≤ c ∧ c ≤ 255 := by rw [← hc]; exact soup_byte (ByteArray.mk #[40, 41, 61, 44, 46, 59, 123, 125, 91, 93, 39, 34, 45, 60, 126, 97, 120, 49, 32, 10, 92, 64]) m4 hm5
  by_cases h0 : 0 < zs.length
  · obtain ⟨a, ha, _⟩ : ∃ m : Nat, ((k2 : Int) * 256 + 1 + (k3 : Int)) % (zs.length : Int) = (m : Int) ∧ m < zs.length := by
      refine ⟨(k2 * 256 + 1 + k3) % zs.length, ?_, Nat.mod_lt _ h0⟩
      rw [Int.natCast_emod, Int.natCast_add, Int.natCast_add, Int.natCast_mul]; rfl
    have open_ : ∀ {w : World} {base r : Nat} {v : Value}, OwB w base v zs → r < base → ∃ g cp, v = .slice (some ⟨g, 0, none⟩) zs.length cp ∧ zs.length ≤ cp ∧ cp ≤ maxLen ∧ Rd w (some ⟨g, 0, none⟩) zs ∧ g ≠ r := by
      intro w base r v hO hr
      obtain ⟨ao, cap, rfl, h1, h2, h3, h4 | ⟨g, rfl, h5, _⟩⟩ := hO.rd
      · rw [h4.2] at h0; cases h0
      · exact ⟨g, cap, rfl, h1, h2, h3, by omega⟩
    by_cases h4 : k1 % 5 < 4
    · refine ⟨mutated (k1 % 5) a c zs, (nxi bs (nxi bs (nxi bs (nxi bs i)))), Nat.le_trans (mutated_length _ a c zs) (by omega), by unfold mutated; exact turned_bts hz _ _ hcb _, fun w0 w av cv r base v hr hR hO hbr => ?_⟩
      obtain ⟨g, cp, rfl, _, _, hrs, hne⟩ := open_ hO hbr
      exact mut_last hb hl i k1 k2 k3 k4 hk1 (k1 % 5) (by omega) h4 hk2 kb2 hk3 kb3 hk4 m4 hm4 hm5 c hc zs (by omega) h0 a ha w0 w av cv r cp g hr hR hrs hne
    · obtain ⟨x, hx, hx20⟩ : ∃ m : Nat, ((k2 : Int) * 256 + 1 + (k3 : Int)) % 20 = (m : Int) ∧ m < 20 := ⟨(k2 * 256 + 1 + k3) % 20, by omega, by omega⟩
      refine ⟨zs.take (fromOf zs a) ++ nums (lex.words.getD x ByteArray.empty) ++ zs.drop (toOf zs (zs.length - a) a), (nxi bs (nxi bs (nxi bs (nxi bs i)))), ?_, lex.bts_cat (lex.bts_cat (bts_take hz (fromOf zs a)) (nums_bts (lex.words.getD x ByteArray.empty))) (bts_drop hz (toOf zs (zs.length - a) a)), fun w0 w av cv r base v hr hR hO hbr => ?_⟩
      · have := words_size x
        rw [List.length_append, List.length_append, nums_length, List.length_take, List.length_drop]
        omega
      · obtain ⟨g, cp, rfl, h1, h2, hrs, hne⟩ := open_ hO hbr
        exact mut_word hb hl i k1 k2 k3 k4 hk1 (by omega) hk2 kb2 hk3 kb3 hk4 m4 hm4 hm5 zs (by omega) h0 a ha x hx hx20 w0 w av cv r cp g h1 h2 hr hR hrs hne
  · have e : zs = [] := List.eq_nil_of_length_eq_zero (by omega)
    subst e
    refine ⟨[], (nxi bs (nxi bs (nxi bs (nxi bs i)))), by simp, bts_nil, fun w0 w av cv r base v hr hR hO hbr => ?_⟩
    obtain ⟨ao, cap, rfl, _⟩ := hO.rd
    exact mut_nil hb hl i k1 k2 k3 k4 hk1 (k1 % 5) (by omega) hk2 kb2 hk3 kb3 hk4 m4 hm4 hm5 w0 w ao av cv r cap hr hR
set_option maxRecDepth 100000 in
set_option maxHeartbeats 1000000 in
theorem any_turn {bs : List Int} (hb : Bts bs) (hl : bs.length ≤ 600) (i k1 : Nat) (hk1 : nx bs i = (k1 : Int)) (kb1 : k1 ≤ 255) (n5 : ¬ k1 = 5) (n9 : ¬ k1 = 9) (n16 : ¬ k1 % 16 = 10) (n4 : k1 % 4 = 1) {zs ys : List Int} {j k : Nat} (HS : ReadsB bs 23 (nxi bs i) zs j) (HM : MutsB bs j zs ys k) : ReadsB bs 10 i ys k := by
  intro w0 w av cv r hr hR
  have R0 : Hid (Rr w0 av cv bs w r i) := hR
  have HR : Hid (Rd w0 av bs) := hr
  have HS : Hid (∀ W, Rr w0 av cv bs W r (nxi bs i) → Calls Try.prog 23 #[.pointer (some ⟨r, 0, none⟩)] W fun e w' => ∃ v, e = .returned v ∧ OwB w' W.heap.size v zs ∧ Rr w0 av cv bs w' r j ∧ Fq r W w') := fun W hW => HS w0 W av cv r hr hW
  have HM : Hid (∀ W B v, Rr w0 av cv bs W r j → OwB W B v zs → r < B → Calls Try.prog 11 #[v, .pointer (some ⟨r, 0, none⟩)] W fun e w' => ∃ v, e = .returned v ∧ OwB w' W.heap.size v ys ∧ Rr w0 av cv bs w' r k ∧ Fq r W w') := fun W B v h1 h2 h3 => HM w0 W av cv r B v hr h1 h2 h3
  have e5 : ((k1 : Int) == 5) = false := by simp; omega
  have e6 : ((k1 : Int) == 6) = false := by simp; omega
  have e7 : ((k1 : Int) == 7) = false := by simp; omega
  have e8 : ((k1 : Int) == 8) = false := by simp; omega
  have e9 : ((k1 : Int) == 9) = false := by simp; omega
  have e16 : ((k1 : Int) % 16 == 10) = false := by simp; omega
  have e4 : ((k1 : Int) % 4 == 1) = true := by simp; omega
  have i4 : (k1 : Int) % 4 = 1 := by omega
  clear hr hR
  go_enter Try.func10, Try.ntmps10
  go_wp2_with (first
    | (go_at_call 11; refine Calls.mono (HM.out _ _ _ R2.out O2.out R1.out.lt) ?_; rintro e w3 ⟨v3, rfl, hO, hR3, hF3⟩; have O3 : Hid (OwB w3 w.heap.size v3 ys) := hO.mono F2.out.below.size; have R3 : Hid (Rr w0 av cv bs w3 r k) := hR3; have F3 : Hid (Fq r w w3) := F2.out.trans hF3; clear hO hR3 hF3)
    | (go_at_call 23; refine Calls.mono (HS.out _ R1.out) ?_; rintro e w2 ⟨v, rfl, hO, hR2, hF2⟩; have O2 : Hid (OwB w2 w1.heap.size v zs) := hO; have R2 : Hid (Rr w0 av cv bs w2 r j) := hR2; have F2 : Hid (Fq r w w2) := F1.out.trans hF2; clear hO hR2 hF2)
    | (go_at_call 9; refine Calls.mono (next_any w0 _ av cv r _ bs HR.out hb hl R0.out) ?_; rintro e w1 ⟨rfl, hR1, hF1⟩; have R1 : Hid (Rr w0 av cv bs w1 r (nxi bs i)) := hR1; have F1 : Hid (Fq r w w1) := hF1; clear hR1 hF1; (try rw [hk1])))
  go_returns
  exact ⟨v3, rfl, O3.out, R3.out, F3.out⟩
theorem srcL_size (m : Nat) : (srcL.getD m default).size ≤ 100 := by
  by_cases h : m < 32
  · revert m; decide
  · rw [List.getD_eq_getElem?_getD, List.getElem?_eq_none (by have : srcL.length = 32 := rfl; omega)]; decide
theorem any_source {bs : List Int} (hb : Bts bs) (hl : bs.length ≤ 600) (i : Nat) : ∃ zs j, zs.length ≤ 12008 ∧ Bts zs ∧ ReadsB bs 10 i zs j := by
  obtain ⟨k1, hk1, kb1⟩ := nxn hb i
  obtain ⟨k2, hk2, kb2⟩ := nxn hb (nxi bs i)
  obtain ⟨k3, hk3, kb3⟩ := nxn hb (nxi bs (nxi bs i))
  by_cases h5 : k1 = 5
  · subst h5
    exact ⟨_, _, by simp; omega, bts_rep _ _ (by omega), any_fill hb hl i hk1 k2 hk2 kb2 (k2 % 3) (by omega) (by omega)⟩
  by_cases h6 : k1 = 6
  · subst h6
    by_cases hp : (k3 : Int) % 2 = 0
    · exact ⟨_, _, by rw [nums_length, adds_size]; simp [ByteArray.size]; omega, nums_bts _, any_names hb hl i hk1 k2 hk2 kb2 (k2 % 3) (by omega) (by omega) k3 hk3 kb3 hp⟩
    · exact ⟨_, _, by rw [nums_length, ByteArray.size_append, adds_size]; simp [ByteArray.size]; omega, nums_bts _, any_args hb hl i hk1 k2 hk2 kb2 (k2 % 3) (by omega) (by omega) k3 hk3 kb3 (by omega)⟩
  by_cases h7 : k1 = 7
  · subst h7
    exact ⟨_, _, by rw [nums_length, ByteArray.size_append, adds_size]; simp [ByteArray.size]; omega, nums_bts _, any_not hb hl i hk1 k2 hk2 kb2 (k2 % 8) (by omega) (by omega)⟩
  by_cases h8 : k1 = 8
  · subst h8
    exact ⟨_, _, by rw [nums_length, adds_size, adds_size, typeText_size]; simp [ByteArray.size]; omega, nums_bts _, any_stand hb hl i hk1 k2 hk2 kb2 (k2 % 12) (by omega) (by omega)⟩
  by_cases h9 : k1 = 9
  · subst h9
    exact ⟨_, _, by rw [nums_length, adds_size]; simp [ByteArray.size]; omega, nums_bts _, any_local hb hl i hk1 k2 hk2 kb2 (k2 % 4) (by omega) (by omega)⟩
  by_cases h16 : k1 % 16 = 10
  · exact ⟨_, _, by rw [nums_length]; exact Nat.le_trans (srcL_size _) (by omega), nums_bts _, any_list hb hl i k1 hk1 kb1 h16 k2 hk2 kb2 (k2 % 32) (by omega) (by omega)⟩
  obtain ⟨zs, j, hz1, hz2, HS⟩ := source_any hb hl (nxi bs i)
  by_cases h4 : k1 % 4 = 1
  · obtain ⟨ys, k, hy1, hy2, HM⟩ := mut_any hb hl j hz2 (by omega)
    exact ⟨ys, k, by omega, hy2, any_turn hb hl i k1 hk1 kb1 h5 h9 h16 h4 HS HM⟩
  · exact ⟨zs, j, by omega, hz2, any_plain hb hl i k1 hk1 kb1 h5 h6 h7 h8 h9 h16 h4 HS⟩
theorem OwB.ge {w : World} {base q : Nat} {v : Value} {zs : List Int} (h : OwB w base v zs) (hq : v.ownBlock = some q) : base ≤ q := by
  rcases h with ⟨rfl, _⟩ | ⟨g, cap, cur, fz, rfl, hg, _⟩
  · cases hq
  · simp only [Value.ownBlock, Option.some.injEq] at hq; omega
theorem step_append_owb {ops : Array Oper} {o : Oper} {a : Act} {K : Act → World → Prop} {Q : Exit → Act → World → Prop} {X : Prop} {w : World} (hgd : o.guard = none) (s x : Operand)
    (ho : o.op = .call { callee := .builtin .append, args := #[s, x], argTypes := #[22, 22] })
    {base : Nat} {v : Value} {zs : List Int} (hs : a.eval s = v) (h : OwB w base v zs) (ao : Option Addr) (m cx : Nat) (ys : List Int) (hx : a.eval x = .slice ao m cx) (hm : ys.length = m) (hr : Rd w ao ys) (hb : zs.length + m ≤ 1000000000) (hbase : base ≤ w.heap.size)
    (hK : ∀ v' w', OwB w' base v' (zs ++ ys) → w.grownBy w' v.ownBlock → K (a.put o.dst v') w') :
    if Region.wanted o (yielded ops a.tmps) = true then Oper.wp Try.prog o a w K Q else X := by
  have hw : Region.wanted o (yielded ops a.tmps) = true := by simp [Region.wanted, hgd]
  rw [if_pos hw]
  obtain ⟨v', w', h2, h3, h4⟩ := append_owb h ao m cx ys hm hr hb hbase o.type
  unfold Oper.wp execOp
  simp only [ho, resolve, invoke, builtin, Sem.run_bind, Sem.run_pure, Result.andThen_ok, List.map_toArray, List.map_cons, List.map_nil, hs, hx, h2]
  exact hK v' w' h3 h4
set_option maxRecDepth 100000 in
set_option maxHeartbeats 1000000 in
theorem lex_plain {zs : List Int} (hz : Bts zs) (k1 : Nat) (hk1 : nx (zs.take 600) 0 = (k1 : Int)) (h3 : ¬ k1 % 3 = 0) (h12 : ¬ k1 % 12 = 1) {ss : List Int} {j : Nat} (HA : ReadsB (zs.take 600) 10 (nxi (zs.take 600) 0) ss j) : DrawsB 4 zs ss := by
  intro w av cv hr hc hm0
  have hl : (zs.take 600).length ≤ 600 := by rw [List.length_take]; omega
  have hb : Bts (zs.take 600) := bts_take hz 600
  have hr6 : Hid (Rd w av (zs.take 600)) := rd_take hr 600
  have OP : Hid (Calls Try.prog 8 #[.slice av zs.length cv] w fun e w' => ∃ r, e = .returned (.pointer (some ⟨r, 0, none⟩)) ∧ Rr w av cv (zs.take 600) w' r 0 ∧ Below w.heap.size w w' ∧ r = w.heap.size) := open_any w av cv zs hc hm0
  have AS : Hid (∀ W r, Rr w av cv (zs.take 600) W r (nxi (zs.take 600) 0) → Calls Try.prog 10 #[.pointer (some ⟨r, 0, none⟩)] W fun e w' => ∃ v, e = .returned v ∧ OwB w' W.heap.size v ss ∧ Rr w av cv (zs.take 600) w' r j ∧ Fq r W w') := fun W r h => HA w W av cv r hr6.out h
  have e3 : ((k1 : Int) % 3 == 0) = false := by simp; omega
  have e12 : ((k1 : Int) % 12 == 1) = false := by simp; omega
  clear hr
  go_enter Try.func4, Try.ntmps4
  go_wp2_with (first
    | (go_at_call 10; refine Calls.mono (AS.out _ _ R2.out) ?_; rintro e w3 ⟨v3, rfl, hO3, hR3, hF3⟩; have B3 : Hid (Below w.heap.size w w3) := B2.out.trans (HRW.out ▸ hF3.below); have O3 : Hid (OwB w3 w.heap.size v3 ss) := hO3.mono B2.out.size; clear hO3 hR3 hF3)
    | (go_at_call 9; refine Calls.mono (next_any w _ av cv r _ _ hr6.out hb hl R1.out) ?_; rintro e w2 ⟨rfl, hR2, hF2⟩; have R2 : Hid (Rr w av cv (zs.take 600) w2 r (nxi (zs.take 600) 0)) := hR2; have B2 : Hid (Below w.heap.size w w2) := B1.out.trans (HRW.out ▸ hF2.below); clear hR2 hF2; (try rw [hk1]))
    | (go_at_call 8; refine OP.out.mono ?_; rintro e w1 ⟨r, rfl, hR1, hB1, hrw⟩; have R1 : Hid (Rr w av cv (zs.take 600) w1 r 0) := hR1; have B1 : Hid (Below w.heap.size w w1) := hB1; have HRW : Hid (r = w.heap.size) := hrw; clear hR1 hB1 hrw))
  go_returns
  exact ⟨_, rfl, O3.out, B3.out⟩
set_option maxRecDepth 100000 in
set_option maxHeartbeats 1000000 in
theorem lex_turn {zs : List Int} (hz : Bts zs) (k1 : Nat) (hk1 : nx (zs.take 600) 0 = (k1 : Int)) (h3 : k1 % 3 = 0) {ss ys : List Int} {j k : Nat} (HA : ReadsB (zs.take 600) 10 (nxi (zs.take 600) 0) ss j) (HM : MutsB (zs.take 600) j ss ys k) : DrawsB 4 zs ys := by
  intro w av cv hr hc hm0
  have hl : (zs.take 600).length ≤ 600 := by rw [List.length_take]; omega
  have hb : Bts (zs.take 600) := bts_take hz 600
  have hr6 : Hid (Rd w av (zs.take 600)) := rd_take hr 600
  have OP : Hid (Calls Try.prog 8 #[.slice av zs.length cv] w fun e w' => ∃ r, e = .returned (.pointer (some ⟨r, 0, none⟩)) ∧ Rr w av cv (zs.take 600) w' r 0 ∧ Below w.heap.size w w' ∧ r = w.heap.size) := open_any w av cv zs hc hm0
  have AS : Hid (∀ W r, Rr w av cv (zs.take 600) W r (nxi (zs.take 600) 0) → Calls Try.prog 10 #[.pointer (some ⟨r, 0, none⟩)] W fun e w' => ∃ v, e = .returned v ∧ OwB w' W.heap.size v ss ∧ Rr w av cv (zs.take 600) w' r j ∧ Fq r W w') := fun W r h => HA w W av cv r hr6.out h
  have MS : Hid (∀ W r B v, Rr w av cv (zs.take 600) W r j → OwB W B v ss → r < B → Calls Try.prog 11 #[v, .pointer (some ⟨r, 0, none⟩)] W fun e w' => ∃ v, e = .returned v ∧ OwB w' W.heap.size v ys ∧ Rr w av cv (zs.take 600) w' r k ∧ Fq r W w') := fun W r B v h1 h2 h3 => HM w W av cv r B v hr6.out h1 h2 h3
  have i3 : (k1 : Int) % 3 = 0 := by omega
  clear hr
  go_enter Try.func4, Try.ntmps4
  go_wp2_with (first
    | (go_at_call 11; refine Calls.mono (MS.out _ _ _ _ R3.out O3.out R2.out.lt) ?_; rintro e w4 ⟨v4, rfl, hO4, hR4, hF4⟩; have B4 : Hid (Below w.heap.size w w4) := B3.out.trans (HRW.out ▸ hF4.below); have O4 : Hid (OwB w4 w.heap.size v4 ys) := hO4.mono B3.out.size; clear hO4 hR4 hF4)
    | (go_at_call 10; refine Calls.mono (AS.out _ _ R2.out) ?_; rintro e w3 ⟨v3, rfl, hO3, hR3, hF3⟩; have B3 : Hid (Below w.heap.size w w3) := B2.out.trans (HRW.out ▸ hF3.below); have O3 : Hid (OwB w3 w2.heap.size v3 ss) := hO3; have R3 : Hid (Rr w av cv (zs.take 600) w3 r j) := hR3; clear hO3 hR3 hF3)
    | (go_at_call 9; refine Calls.mono (next_any w _ av cv r _ _ hr6.out hb hl R1.out) ?_; rintro e w2 ⟨rfl, hR2, hF2⟩; have R2 : Hid (Rr w av cv (zs.take 600) w2 r (nxi (zs.take 600) 0)) := hR2; have B2 : Hid (Below w.heap.size w w2) := B1.out.trans (HRW.out ▸ hF2.below); clear hR2 hF2; (try rw [hk1]))
    | (go_at_call 8; refine OP.out.mono ?_; rintro e w1 ⟨r, rfl, hR1, hB1, hrw⟩; have R1 : Hid (Rr w av cv (zs.take 600) w1 r 0) := hR1; have B1 : Hid (Below w.heap.size w w1) := hB1; have HRW : Hid (r = w.heap.size) := hrw; clear hR1 hB1 hrw))
  go_returns
  exact ⟨_, rfl, O4.out, B4.out⟩
theorem rd_from {w : World} {b off : Nat} {zs : List Int} (h : Rd w (some ⟨b, off, none⟩) zs) (t : Nat) : Rd w (some ⟨b, off + t, none⟩) (zs.drop t) := by
  intro i hi
  rw [List.length_drop] at hi
  obtain ⟨b2, o2, e, hc⟩ := h (t + i) (by omega)
  simp only [Option.some.injEq, Addr.mk.injEq, and_true] at e
  obtain ⟨rfl, rfl⟩ := e
  refine ⟨b, off + t, rfl, ?_⟩
  rw [Nat.add_assoc, hc, List.getD_eq_getElem?_getD, List.getD_eq_getElem?_getD, List.getElem?_drop]
theorem rd_none {w : World} {X : Option Addr} {zs : List Int} {t : Nat} (h : zs.length ≤ t) : Rd w X (zs.drop t) := fun i hi => by rw [List.length_drop] at hi; omega
set_option maxRecDepth 100000 in
set_option maxHeartbeats 4000000 in
theorem lex_scan_mid {zs : List Int} (hz : Bts zs) (k1 : Nat) (hk1 : nx (zs.take 600) 0 = (k1 : Int)) (h12 : k1 % 12 = 1) {ss ds : List Int} {j : Nat} (hss : ss.length ≤ 100000) (hds : ds.length ≤ 1000) (HA : ReadsB (zs.take 600) 10 (nxi (zs.take 600) 0) ss j) (HD : DrawsB 12 ((zs.take 600).drop j) ds) (hj : j < (zs.take 600).length) (w : World) (b off : Nat) (cv : Nat) (hr : Rd w (some ⟨b, off, none⟩) zs) (hc : zs.length ≤ cv) (hm0 : cv ≤ 9223372036854775807) :
    Calls Try.prog 4 #[.slice (some ⟨b, off, none⟩) zs.length cv] w fun e w' => ∃ v, e = .returned v ∧ OwB w' w.heap.size v (ss ++ ds) ∧ Below w.heap.size w w' := by
  have hl : (zs.take 600).length ≤ 600 := by rw [List.length_take]; omega
  have hl2 : (zs.take 600).length ≤ zs.length := by rw [List.length_take]; omega
  have hb : Bts (zs.take 600) := bts_take hz 600
  have hr6 : Hid (Rd w (some ⟨b, off, none⟩) (zs.take 600)) := rd_take hr 600
  have OP : Hid (Calls Try.prog 8 #[.slice (some ⟨b, off, none⟩) zs.length cv] w fun e w' => ∃ r, e = .returned (.pointer (some ⟨r, 0, none⟩)) ∧ Rr w (some ⟨b, off, none⟩) cv (zs.take 600) w' r 0 ∧ Below w.heap.size w w' ∧ r = w.heap.size) := open_any w (some ⟨b, off, none⟩) cv zs hc hm0
  have AS : Hid (∀ W r, Rr w (some ⟨b, off, none⟩) cv (zs.take 600) W r (nxi (zs.take 600) 0) → Calls Try.prog 10 #[.pointer (some ⟨r, 0, none⟩)] W fun e w' => ∃ v, e = .returned v ∧ OwB w' W.heap.size v ss ∧ Rr w (some ⟨b, off, none⟩) cv (zs.take 600) w' r j ∧ Fq r W w') := fun W r h => HA w W (some ⟨b, off, none⟩) cv r hr6.out h
  have e3 : ((k1 : Int) % 3 == 0) = false := by simp; omega
  have i12 : (k1 : Int) % 12 = 1 := by omega
  obtain ⟨n, hn⟩ : ∃ n, n = (zs.take 600).length := ⟨_, rfl⟩
  have HN : Hid (n = (zs.take 600).length) := hn
  have j1 : (j : Int) ≤ (n : Int) := by omega
  have j2 : (n : Int) ≤ (cv : Int) := by omega
  have j3 : ¬ cv = j := by omega
  have j4 : j < n := by omega
  have j5 : n ≤ cv := by omega
  have j6 : (0 : Int) ≤ (j : Int) := by omega
  clear hr
  try clear hn
  go_enter Try.func4, Try.ntmps4
  go_wp2_with (first
    | (go_at_call 10; refine Calls.mono (AS.out _ _ R2.out) ?_; rintro e w3 ⟨v3, rfl, hO3, hR3, hF3⟩; have B3 : Hid (Below w.heap.size w w3) := B2.out.trans (HRW.out ▸ hF3.below); have O3 : Hid (OwB w3 w2.heap.size v3 ss) := hO3; have R3 : Hid (Rr w (some ⟨b, off, none⟩) cv (zs.take 600) w3 r j) := hR3; have S3 : Hid (w2.heap.size ≤ w3.heap.size) := hF3.below.size; clear hO3 hR3 hF3)
    | (go_at_call 9; refine Calls.mono (next_any w _ (some ⟨b, off, none⟩) cv r _ _ hr6.out hb hl R1.out) ?_; rintro e w2 ⟨rfl, hR2, hF2⟩; have R2 : Hid (Rr w (some ⟨b, off, none⟩) cv (zs.take 600) w2 r (nxi (zs.take 600) 0)) := hR2; have B2 : Hid (Below w.heap.size w w2) := B1.out.trans (HRW.out ▸ hF2.below); clear hR2 hF2; (try rw [hk1]))
    | (go_at_call 8; refine OP.out.mono ?_; rintro e w1 ⟨r, rfl, hR1, hB1, hrw⟩; have R1 : Hid (Rr w (some ⟨b, off, none⟩) cv (zs.take 600) w1 r 0) := hR1; have B1 : Hid (Below w.heap.size w w1) := hB1; have HRW : Hid (r = w.heap.size) := hrw; clear hR1 hB1 hrw))
  have HC : Hid (∀ B W, r < B → Below B w3 W → W.cell? ⟨r, 0, none⟩ = some (.slice (some ⟨b, off, none⟩) n cv) ∧ W.cell? ⟨r, 1, none⟩ = some (.int .i64 (j : Int))) := fun B W hB hW => by
    have c0 : w3.cell? ⟨r, 0, none⟩ = some (.slice (some ⟨b, off, none⟩) (zs.take 600).length cv) := R3.out.2.2.1.at (j := 0) (by omega)
    have c1 : w3.cell? ⟨r, 1, none⟩ = some (.int .i64 (j : Int)) := R3.out.2.2.1.at (j := 1) (by omega)
    rw [← HN.out] at c0
    exact ⟨(hW.cell (p := ⟨r, 0, none⟩) hB).trans c0, (hW.cell (p := ⟨r, 1, none⟩) hB).trans c1⟩
  have DS : Hid (∀ W X C, Rd W X ((zs.take 600).drop j) → (n - j) ≤ C → C ≤ 9223372036854775807 → Below w3.heap.size w3 W → Calls Try.prog 12 #[.slice X (n - j) C] W fun e w' => ∃ ao cap, e = .returned (.slice ao ds.length cap) ∧ Rd w' ao ds ∧ Below w3.heap.size w3 w') := fun W X C h1 h2 h3 h4 => by
    have e : ((zs.take 600).drop j).length = (n - j) := by rw [List.length_drop, ← HN.out]
    have := HD W X C h1 (by rw [e]; exact h2) h3
    rw [e] at this
    refine this.mono ?_
    rintro x w' ⟨v, rfl, hO, hB⟩
    obtain ⟨ao, cap, rfl, _, _, hrd, _⟩ := hO.rd
    exact ⟨ao, cap, rfl, hrd, vt.bup h4 hB⟩
  have RQ : Hid (∀ W, Below w3.heap.size w3 W → Rd W (some ⟨b, off, none⟩) (zs.take 600)) := fun W hW => hr6.out.below (vt.bup B3.out hW)
  have L2 : Hid (r < w2.heap.size) := R2.out.lt
  have L3 : Hid (r < w3.heap.size) := R3.out.lt
  go_region_held3 (fun W => W.cell? ⟨r, 0, none⟩ = some (.slice (some ⟨b, off, none⟩) n cv) ∧ W.cell? ⟨r, 1, none⟩ = some (.int .i64 (j : Int))) (first | exact HC.out _ _ L2.out B5.out | (refine HC.out _ _ L3.out ?_; repeat (first | exact Below.refl _ _ | exact H4.out | refine Below.drew ?_ | refine bel_drewN ?_ _))) (first
    | (go_at_call 12; (with_reducible refine Calls.mono (DS.out _ _ _ (rd_from (RQ.out _ (by repeat (first | exact Below.refl _ _ | refine Below.drew ?_ | refine bel_drewN ?_ _))) j) (by omega) (by omega) (by repeat (first | exact Below.refl _ _ | refine Below.drew ?_ | refine bel_drewN ?_ _))) ?_); rintro e w4 ⟨ao, cp, rfl, hrd, hb4⟩; have H4 : Hid (Below w3.heap.size w3 w4) := hb4; have RD4 : Hid (Rd w4 ao ds) := hrd; clear hrd hb4)
    | (refine step_append_owb (by rfl) _ _ (by rfl) (by rfl) (O3.out.below H4.out) ao ds.length cp ds (by rfl) rfl RD4.out (by omega) (Nat.le_trans S3.out H4.out.size) ?_; intro v5 w5 hO5 hG5; have B5 : Hid (Below w2.heap.size w3 w5) := (H4.out.mono S3.out).grown hG5 (Nat.le_trans S3.out H4.out.size) (fun q hq => O3.out.ge hq); have O5 : Hid (OwB w5 w2.heap.size v5 (ss ++ ds)) := hO5; clear hO5 hG5))
  all_goals (go_wp2; go_returns; exact ⟨_, rfl, O5.out.mono B2.out.size, B3.out.trans (B5.out.mono B2.out.size)⟩)
set_option maxRecDepth 100000 in
set_option maxHeartbeats 4000000 in
theorem lex_scan_end {zs : List Int} (hz : Bts zs) (k1 : Nat) (hk1 : nx (zs.take 600) 0 = (k1 : Int)) (h12 : k1 % 12 = 1) {ss ds : List Int} {j : Nat} (hss : ss.length ≤ 100000) (hds : ds.length ≤ 1000) (HA : ReadsB (zs.take 600) 10 (nxi (zs.take 600) 0) ss j) (HD : DrawsB 12 ((zs.take 600).drop j) ds) (hj : j = (zs.take 600).length)  (w : World) (ad : Addr) (cv : Nat) (hcj : ¬ cv = j) (hr : Rd w (some ad) zs) (hc : zs.length ≤ cv) (hm0 : cv ≤ 9223372036854775807) :
    Calls Try.prog 4 #[.slice (some ad) zs.length cv] w fun e w' => ∃ v, e = .returned v ∧ OwB w' w.heap.size v (ss ++ ds) ∧ Below w.heap.size w w' := by
  have hl : (zs.take 600).length ≤ 600 := by rw [List.length_take]; omega
  have hl2 : (zs.take 600).length ≤ zs.length := by rw [List.length_take]; omega
  have hb : Bts (zs.take 600) := bts_take hz 600
  have hr6 : Hid (Rd w (some ad) (zs.take 600)) := rd_take hr 600
  have OP : Hid (Calls Try.prog 8 #[.slice (some ad) zs.length cv] w fun e w' => ∃ r, e = .returned (.pointer (some ⟨r, 0, none⟩)) ∧ Rr w (some ad) cv (zs.take 600) w' r 0 ∧ Below w.heap.size w w' ∧ r = w.heap.size) := open_any w (some ad) cv zs hc hm0
  have AS : Hid (∀ W r, Rr w (some ad) cv (zs.take 600) W r (nxi (zs.take 600) 0) → Calls Try.prog 10 #[.pointer (some ⟨r, 0, none⟩)] W fun e w' => ∃ v, e = .returned v ∧ OwB w' W.heap.size v ss ∧ Rr w (some ad) cv (zs.take 600) w' r j ∧ Fq r W w') := fun W r h => HA w W (some ad) cv r hr6.out h
  have e3 : ((k1 : Int) % 3 == 0) = false := by simp; omega
  have i12 : (k1 : Int) % 12 = 1 := by omega
  obtain ⟨n, hn⟩ : ∃ n, n = (zs.take 600).length := ⟨_, rfl⟩
  have HN : Hid (n = (zs.take 600).length) := hn
  rw [← hn] at hj
  subst hj
  have j2 : (j : Int) ≤ (cv : Int) := by omega
  have j5 : j ≤ cv := by omega
  have j6 : (0 : Int) ≤ (j : Int) := by omega
  clear hr
  try clear hn
  go_enter Try.func4, Try.ntmps4
  go_wp2_with (first
    | (go_at_call 10; refine Calls.mono (AS.out _ _ R2.out) ?_; rintro e w3 ⟨v3, rfl, hO3, hR3, hF3⟩; have B3 : Hid (Below w.heap.size w w3) := B2.out.trans (HRW.out ▸ hF3.below); have O3 : Hid (OwB w3 w2.heap.size v3 ss) := hO3; have R3 : Hid (Rr w (some ad) cv (zs.take 600) w3 r j) := hR3; have S3 : Hid (w2.heap.size ≤ w3.heap.size) := hF3.below.size; clear hO3 hR3 hF3)
    | (go_at_call 9; refine Calls.mono (next_any w _ (some ad) cv r _ _ hr6.out hb hl R1.out) ?_; rintro e w2 ⟨rfl, hR2, hF2⟩; have R2 : Hid (Rr w (some ad) cv (zs.take 600) w2 r (nxi (zs.take 600) 0)) := hR2; have B2 : Hid (Below w.heap.size w w2) := B1.out.trans (HRW.out ▸ hF2.below); clear hR2 hF2; (try rw [hk1]))
    | (go_at_call 8; refine OP.out.mono ?_; rintro e w1 ⟨r, rfl, hR1, hB1, hrw⟩; have R1 : Hid (Rr w (some ad) cv (zs.take 600) w1 r 0) := hR1; have B1 : Hid (Below w.heap.size w w1) := hB1; have HRW : Hid (r = w.heap.size) := hrw; clear hR1 hB1 hrw))
  have HC : Hid (∀ B W, r < B → Below B w3 W → W.cell? ⟨r, 0, none⟩ = some (.slice (some ad) j cv) ∧ W.cell? ⟨r, 1, none⟩ = some (.int .i64 (j : Int))) := fun B W hB hW => by
    have c0 : w3.cell? ⟨r, 0, none⟩ = some (.slice (some ad) (zs.take 600).length cv) := R3.out.2.2.1.at (j := 0) (by omega)
    have c1 : w3.cell? ⟨r, 1, none⟩ = some (.int .i64 (j : Int)) := R3.out.2.2.1.at (j := 1) (by omega)
    rw [← HN.out] at c0
    exact ⟨(hW.cell (p := ⟨r, 0, none⟩) hB).trans c0, (hW.cell (p := ⟨r, 1, none⟩) hB).trans c1⟩
  have DS : Hid (∀ W X C, Rd W X ((zs.take 600).drop j) → 0 ≤ C → C ≤ 9223372036854775807 → Below w3.heap.size w3 W → Calls Try.prog 12 #[.slice X 0 C] W fun e w' => ∃ ao cap, e = .returned (.slice ao ds.length cap) ∧ Rd w' ao ds ∧ Below w3.heap.size w3 w') := fun W X C h1 h2 h3 h4 => by
    have e : ((zs.take 600).drop j).length = 0 := by rw [List.length_drop, ← HN.out]; omega
    have := HD W X C h1 (by rw [e]; exact h2) h3
    rw [e] at this
    refine this.mono ?_
    rintro x w' ⟨v, rfl, hO, hB⟩
    obtain ⟨ao, cap, rfl, _, _, hrd, _⟩ := hO.rd
    exact ⟨ao, cap, rfl, hrd, vt.bup h4 hB⟩
  have RQ : Hid (∀ W, Below w3.heap.size w3 W → Rd W (some ad) (zs.take 600)) := fun W hW => hr6.out.below (vt.bup B3.out hW)
  have L2 : Hid (r < w2.heap.size) := R2.out.lt
  have L3 : Hid (r < w3.heap.size) := R3.out.lt
  go_region_held3 (fun W => W.cell? ⟨r, 0, none⟩ = some (.slice (some ad) j cv) ∧ W.cell? ⟨r, 1, none⟩ = some (.int .i64 (j : Int))) (first | exact HC.out _ _ L2.out B5.out | (refine HC.out _ _ L3.out ?_; repeat (first | exact Below.refl _ _ | exact H4.out | refine Below.drew ?_ | refine bel_drewN ?_ _))) (first
    | (go_at_call 12; (with_reducible refine Calls.mono (DS.out _ _ _ (rd_none (by rw [← HN.out]; exact Nat.le_refl _)) (by omega) (by omega) (by repeat (first | exact Below.refl _ _ | refine Below.drew ?_ | refine bel_drewN ?_ _))) ?_); rintro e w4 ⟨ao, cp, rfl, hrd, hb4⟩; have H4 : Hid (Below w3.heap.size w3 w4) := hb4; have RD4 : Hid (Rd w4 ao ds) := hrd; clear hrd hb4)
    | (refine step_append_owb (by rfl) _ _ (by rfl) (by rfl) (O3.out.below H4.out) ao ds.length cp ds (by rfl) rfl RD4.out (by omega) (Nat.le_trans S3.out H4.out.size) ?_; intro v5 w5 hO5 hG5; have B5 : Hid (Below w2.heap.size w3 w5) := (H4.out.mono S3.out).grown hG5 (Nat.le_trans S3.out H4.out.size) (fun q hq => O3.out.ge hq); have O5 : Hid (OwB w5 w2.heap.size v5 (ss ++ ds)) := hO5; clear hO5 hG5))
  all_goals (go_wp2; go_returns; exact ⟨_, rfl, O5.out.mono B2.out.size, B3.out.trans (B5.out.mono B2.out.size)⟩)
set_option maxRecDepth 100000 in
set_option maxHeartbeats 4000000 in
theorem lex_scan_full {zs : List Int} (hz : Bts zs) (k1 : Nat) (hk1 : nx (zs.take 600) 0 = (k1 : Int)) (h12 : k1 % 12 = 1) {ss ds : List Int} {j : Nat} (hss : ss.length ≤ 100000) (hds : ds.length ≤ 1000) (HA : ReadsB (zs.take 600) 10 (nxi (zs.take 600) 0) ss j) (HD : DrawsB 12 ((zs.take 600).drop j) ds) (hj : j = (zs.take 600).length) (w : World) (ad : Addr) (hr : Rd w (some ad) zs) (hc : zs.length ≤ j) (hm0 : j ≤ 9223372036854775807) :
    Calls Try.prog 4 #[.slice (some ad) zs.length j] w fun e w' => ∃ v, e = .returned v ∧ OwB w' w.heap.size v (ss ++ ds) ∧ Below w.heap.size w w' := by
  have hl : (zs.take 600).length ≤ 600 := by rw [List.length_take]; omega
  have hl2 : (zs.take 600).length ≤ zs.length := by rw [List.length_take]; omega
  have hb : Bts (zs.take 600) := bts_take hz 600
  have hr6 : Hid (Rd w (some ad) (zs.take 600)) := rd_take hr 600
  have OP : Hid (Calls Try.prog 8 #[.slice (some ad) zs.length j] w fun e w' => ∃ r, e = .returned (.pointer (some ⟨r, 0, none⟩)) ∧ Rr w (some ad) j (zs.take 600) w' r 0 ∧ Below w.heap.size w w' ∧ r = w.heap.size) := open_any w (some ad) j zs hc hm0
  have AS : Hid (∀ W r, Rr w (some ad) j (zs.take 600) W r (nxi (zs.take 600) 0) → Calls Try.prog 10 #[.pointer (some ⟨r, 0, none⟩)] W fun e w' => ∃ v, e = .returned v ∧ OwB w' W.heap.size v ss ∧ Rr w (some ad) j (zs.take 600) w' r j ∧ Fq r W w') := fun W r h => HA w W (some ad) j r hr6.out h
  have e3 : ((k1 : Int) % 3 == 0) = false := by simp; omega
  have i12 : (k1 : Int) % 12 = 1 := by omega
  obtain ⟨n, hn⟩ : ∃ n, n = (zs.take 600).length := ⟨_, rfl⟩
  have HN : Hid (n = (zs.take 600).length) := hn
  rw [← hn] at hj
  subst hj
  have j2 : (j : Int) ≤ (j : Int) := by omega
  have j5 : j ≤ j := by omega
  have j6 : (0 : Int) ≤ (j : Int) := by omega
  clear hr
  try clear hn
  go_enter Try.func4, Try.ntmps4
  go_wp2_with (first
    | (go_at_call 10; refine Calls.mono (AS.out _ _ R2.out) ?_; rintro e w3 ⟨v3, rfl, hO3, hR3, hF3⟩; have B3 : Hid (Below w.heap.size w w3) := B2.out.trans (HRW.out ▸ hF3.below); have O3 : Hid (OwB w3 w2.heap.size v3 ss) := hO3; have R3 : Hid (Rr w (some ad) j (zs.take 600) w3 r j) := hR3; have S3 : Hid (w2.heap.size ≤ w3.heap.size) := hF3.below.size; clear hO3 hR3 hF3)
    | (go_at_call 9; refine Calls.mono (next_any w _ (some ad) j r _ _ hr6.out hb hl R1.out) ?_; rintro e w2 ⟨rfl, hR2, hF2⟩; have R2 : Hid (Rr w (some ad) j (zs.take 600) w2 r (nxi (zs.take 600) 0)) := hR2; have B2 : Hid (Below w.heap.size w w2) := B1.out.trans (HRW.out ▸ hF2.below); clear hR2 hF2; (try rw [hk1]))
    | (go_at_call 8; refine OP.out.mono ?_; rintro e w1 ⟨r, rfl, hR1, hB1, hrw⟩; have R1 : Hid (Rr w (some ad) j (zs.take 600) w1 r 0) := hR1; have B1 : Hid (Below w.heap.size w w1) := hB1; have HRW : Hid (r = w.heap.size) := hrw; clear hR1 hB1 hrw))
  have HC : Hid (∀ B W, r < B → Below B w3 W → W.cell? ⟨r, 0, none⟩ = some (.slice (some ad) j j) ∧ W.cell? ⟨r, 1, none⟩ = some (.int .i64 (j : Int))) := fun B W hB hW => by
    have c0 : w3.cell? ⟨r, 0, none⟩ = some (.slice (some ad) (zs.take 600).length j) := R3.out.2.2.1.at (j := 0) (by omega)
    have c1 : w3.cell? ⟨r, 1, none⟩ = some (.int .i64 (j : Int)) := R3.out.2.2.1.at (j := 1) (by omega)
    rw [← HN.out] at c0
    exact ⟨(hW.cell (p := ⟨r, 0, none⟩) hB).trans c0, (hW.cell (p := ⟨r, 1, none⟩) hB).trans c1⟩
  have DS : Hid (∀ W X C, Rd W X ((zs.take 600).drop j) → 0 ≤ C → C ≤ 9223372036854775807 → Below w3.heap.size w3 W → Calls Try.prog 12 #[.slice X 0 C] W fun e w' => ∃ ao cap, e = .returned (.slice ao ds.length cap) ∧ Rd w' ao ds ∧ Below w3.heap.size w3 w') := fun W X C h1 h2 h3 h4 => by
    have e : ((zs.take 600).drop j).length = 0 := by rw [List.length_drop, ← HN.out]; omega
    have := HD W X C h1 (by rw [e]; exact h2) h3
    rw [e] at this
    refine this.mono ?_
    rintro x w' ⟨v, rfl, hO, hB⟩
    obtain ⟨ao, cap, rfl, _, _, hrd, _⟩ := hO.rd
    exact ⟨ao, cap, rfl, hrd, vt.bup h4 hB⟩
  have RQ : Hid (∀ W, Below w3.heap.size w3 W → Rd W (some ad) (zs.take 600)) := fun W hW => hr6.out.below (vt.bup B3.out hW)
  have L2 : Hid (r < w2.heap.size) := R2.out.lt
  have L3 : Hid (r < w3.heap.size) := R3.out.lt
  go_region_held3 (fun W => W.cell? ⟨r, 0, none⟩ = some (.slice (some ad) j j) ∧ W.cell? ⟨r, 1, none⟩ = some (.int .i64 (j : Int))) (first | exact HC.out _ _ L2.out B5.out | (refine HC.out _ _ L3.out ?_; repeat (first | exact Below.refl _ _ | exact H4.out | refine Below.drew ?_ | refine bel_drewN ?_ _))) (first
    | (go_at_call 12; (with_reducible refine Calls.mono (DS.out _ _ _ (rd_none (by rw [← HN.out]; exact Nat.le_refl _)) (by omega) (by omega) (by repeat (first | exact Below.refl _ _ | refine Below.drew ?_ | refine bel_drewN ?_ _))) ?_); rintro e w4 ⟨ao, cp, rfl, hrd, hb4⟩; have H4 : Hid (Below w3.heap.size w3 w4) := hb4; have RD4 : Hid (Rd w4 ao ds) := hrd; clear hrd hb4)
    | (refine step_append_owb (by rfl) _ _ (by rfl) (by rfl) (O3.out.below H4.out) ao ds.length cp ds (by rfl) rfl RD4.out (by omega) (Nat.le_trans S3.out H4.out.size) ?_; intro v5 w5 hO5 hG5; have B5 : Hid (Below w2.heap.size w3 w5) := (H4.out.mono S3.out).grown hG5 (Nat.le_trans S3.out H4.out.size) (fun q hq => O3.out.ge hq); have O5 : Hid (OwB w5 w2.heap.size v5 (ss ++ ds)) := hO5; clear hO5 hG5))
  all_goals (go_wp2; go_returns; exact ⟨_, rfl, O5.out.mono B2.out.size, B3.out.trans (B5.out.mono B2.out.size)⟩)
set_option maxRecDepth 100000 in
set_option maxHeartbeats 4000000 in
theorem lex_scan_nil {zs : List Int} (hz : Bts zs) (k1 : Nat) (hk1 : nx (zs.take 600) 0 = (k1 : Int)) (h12 : k1 % 12 = 1) {ss ds : List Int} {j : Nat} (hss : ss.length ≤ 100000) (hds : ds.length ≤ 1000) (HA : ReadsB (zs.take 600) 10 (nxi (zs.take 600) 0) ss j) (HD : DrawsB 12 ((zs.take 600).drop j) ds) (hj : j = (zs.take 600).length) (h0 : (zs.take 600).length = 0) (w : World)  (cv : Nat) (hr : Rd w none zs) (hc : zs.length ≤ cv) (hm0 : cv ≤ 9223372036854775807) :
    Calls Try.prog 4 #[.slice none zs.length cv] w fun e w' => ∃ v, e = .returned v ∧ OwB w' w.heap.size v (ss ++ ds) ∧ Below w.heap.size w w' := by
  have hl : (zs.take 600).length ≤ 600 := by rw [List.length_take]; omega
  have hl2 : (zs.take 600).length ≤ zs.length := by rw [List.length_take]; omega
  have hb : Bts (zs.take 600) := bts_take hz 600
  have hr6 : Hid (Rd w none (zs.take 600)) := rd_take hr 600
  have OP : Hid (Calls Try.prog 8 #[.slice none zs.length cv] w fun e w' => ∃ r, e = .returned (.pointer (some ⟨r, 0, none⟩)) ∧ Rr w none cv (zs.take 600) w' r 0 ∧ Below w.heap.size w w' ∧ r = w.heap.size) := open_any w none cv zs hc hm0
  have AS : Hid (∀ W r, Rr w none cv (zs.take 600) W r (nxi (zs.take 600) 0) → Calls Try.prog 10 #[.pointer (some ⟨r, 0, none⟩)] W fun e w' => ∃ v, e = .returned v ∧ OwB w' W.heap.size v ss ∧ Rr w none cv (zs.take 600) w' r j ∧ Fq r W w') := fun W r h => HA w W none cv r hr6.out h
  have e3 : ((k1 : Int) % 3 == 0) = false := by simp; omega
  have i12 : (k1 : Int) % 12 = 1 := by omega
  obtain ⟨n, hn⟩ : ∃ n, n = (zs.take 600).length := ⟨_, rfl⟩
  have HN : Hid (n = (zs.take 600).length) := hn
  rw [h0] at hj hn
  subst hj
  subst hn
  clear hr
  try clear hn
  go_enter Try.func4, Try.ntmps4
  go_wp2_with (first
    | (go_at_call 10; refine Calls.mono (AS.out _ _ R2.out) ?_; rintro e w3 ⟨v3, rfl, hO3, hR3, hF3⟩; have B3 : Hid (Below w.heap.size w w3) := B2.out.trans (HRW.out ▸ hF3.below); have O3 : Hid (OwB w3 w2.heap.size v3 ss) := hO3; have R3 : Hid (Rr w none cv (zs.take 600) w3 r 0) := hR3; have S3 : Hid (w2.heap.size ≤ w3.heap.size) := hF3.below.size; clear hO3 hR3 hF3)
    | (go_at_call 9; refine Calls.mono (next_any w _ none cv r _ _ hr6.out hb hl R1.out) ?_; rintro e w2 ⟨rfl, hR2, hF2⟩; have R2 : Hid (Rr w none cv (zs.take 600) w2 r (nxi (zs.take 600) 0)) := hR2; have B2 : Hid (Below w.heap.size w w2) := B1.out.trans (HRW.out ▸ hF2.below); clear hR2 hF2; (try rw [hk1]))
    | (go_at_call 8; refine OP.out.mono ?_; rintro e w1 ⟨r, rfl, hR1, hB1, hrw⟩; have R1 : Hid (Rr w none cv (zs.take 600) w1 r 0) := hR1; have B1 : Hid (Below w.heap.size w w1) := hB1; have HRW : Hid (r = w.heap.size) := hrw; clear hR1 hB1 hrw))
  have HC : Hid (∀ B W, r < B → Below B w3 W → W.cell? ⟨r, 0, none⟩ = some (.slice none 0 cv) ∧ W.cell? ⟨r, 1, none⟩ = some (.int .i64 (0 : Int))) := fun B W hB hW => by
    have c0 : w3.cell? ⟨r, 0, none⟩ = some (.slice none (zs.take 600).length cv) := R3.out.2.2.1.at (j := 0) (by omega)
    have c1 : w3.cell? ⟨r, 1, none⟩ = some (.int .i64 (0 : Int)) := R3.out.2.2.1.at (j := 1) (by omega)
    rw [← HN.out] at c0
    exact ⟨(hW.cell (p := ⟨r, 0, none⟩) hB).trans c0, (hW.cell (p := ⟨r, 1, none⟩) hB).trans c1⟩
  have DS : Hid (∀ W X C, Rd W X ((zs.take 600).drop 0) → 0 ≤ C → C ≤ 9223372036854775807 → Below w3.heap.size w3 W → Calls Try.prog 12 #[.slice X 0 C] W fun e w' => ∃ ao cap, e = .returned (.slice ao ds.length cap) ∧ Rd w' ao ds ∧ Below w3.heap.size w3 w') := fun W X C h1 h2 h3 h4 => by
    have e : ((zs.take 600).drop 0).length = 0 := by rw [List.length_drop, ← HN.out]
    have := HD W X C h1 (by rw [e]; exact h2) h3
    rw [e] at this
    refine this.mono ?_
    rintro x w' ⟨v, rfl, hO, hB⟩
    obtain ⟨ao, cap, rfl, _, _, hrd, _⟩ := hO.rd
    exact ⟨ao, cap, rfl, hrd, vt.bup h4 hB⟩
  have RQ : Hid (∀ W, Below w3.heap.size w3 W → Rd W none (zs.take 600)) := fun W hW => hr6.out.below (vt.bup B3.out hW)
  have L2 : Hid (r < w2.heap.size) := R2.out.lt
  have L3 : Hid (r < w3.heap.size) := R3.out.lt
  go_region_held3 (fun W => W.cell? ⟨r, 0, none⟩ = some (.slice none 0 cv) ∧ W.cell? ⟨r, 1, none⟩ = some (.int .i64 (0 : Int))) (first | exact HC.out _ _ L2.out B5.out | (refine HC.out _ _ L3.out ?_; repeat (first | exact Below.refl _ _ | exact H4.out | refine Below.drew ?_ | refine bel_drewN ?_ _))) (first
    | (go_at_call 12; (with_reducible refine Calls.mono (DS.out _ _ _ (rd_none (by rw [← HN.out]; exact Nat.le_refl _)) (by omega) (by omega) (by repeat (first | exact Below.refl _ _ | refine Below.drew ?_ | refine bel_drewN ?_ _))) ?_); rintro e w4 ⟨ao, cp, rfl, hrd, hb4⟩; have H4 : Hid (Below w3.heap.size w3 w4) := hb4; have RD4 : Hid (Rd w4 ao ds) := hrd; clear hrd hb4)
    | (refine step_append_owb (by rfl) _ _ (by rfl) (by rfl) (O3.out.below H4.out) ao ds.length cp ds (by rfl) rfl RD4.out (by omega) (Nat.le_trans S3.out H4.out.size) ?_; intro v5 w5 hO5 hG5; have B5 : Hid (Below w2.heap.size w3 w5) := (H4.out.mono S3.out).grown hG5 (Nat.le_trans S3.out H4.out.size) (fun q hq => O3.out.ge hq); have O5 : Hid (OwB w5 w2.heap.size v5 (ss ++ ds)) := hO5; clear hO5 hG5))
  all_goals (go_wp2; go_returns; exact ⟨_, rfl, O5.out.mono B2.out.size, B3.out.trans (B5.out.mono B2.out.size)⟩)
set_option maxRecDepth 100000 in
set_option maxHeartbeats 1000000 in
theorem lex_never {zs xs : List Int} (hz : Bts zs) (k1 : Nat) (hk1 : nx (zs.take 600) 0 = (k1 : Int)) {ss : List Int} {j : Nat} (HA : ReadsB (zs.take 600) 10 (nxi (zs.take 600) 0) ss j) (hj : (zs.take 600).length < j) : DrawsB 4 zs xs := by
  intro w av cv hr hc hm0
  have hl : (zs.take 600).length ≤ 600 := by rw [List.length_take]; omega
  have hb : Bts (zs.take 600) := bts_take hz 600
  have hr6 : Hid (Rd w av (zs.take 600)) := rd_take hr 600
  have OP : Hid (Calls Try.prog 8 #[.slice av zs.length cv] w fun e w' => ∃ r, e = .returned (.pointer (some ⟨r, 0, none⟩)) ∧ Rr w av cv (zs.take 600) w' r 0 ∧ Below w.heap.size w w' ∧ r = w.heap.size) := open_any w av cv zs hc hm0
  have AS : Hid (∀ W r, Rr w av cv (zs.take 600) W r (nxi (zs.take 600) 0) → Calls Try.prog 10 #[.pointer (some ⟨r, 0, none⟩)] W fun e w' => ∃ v, e = .returned v ∧ OwB w' W.heap.size v ss ∧ Rr w av cv (zs.take 600) w' r j ∧ Fq r W w') := fun W r h => HA w W av cv r hr6.out h
  clear hr
  go_enter Try.func4, Try.ntmps4
  go_wp2_with (first
    | (go_at_call 10; refine Calls.mono (AS.out _ _ R2.out) ?_; rintro e w3 ⟨v3, rfl, hO3, hR3, hF3⟩; exact absurd hR3.2.2.2 (by omega))
    | (go_at_call 9; refine Calls.mono (next_any w _ av cv r _ _ hr6.out hb hl R1.out) ?_; rintro e w2 ⟨rfl, hR2, hF2⟩; have R2 : Hid (Rr w av cv (zs.take 600) w2 r (nxi (zs.take 600) 0)) := hR2; clear hR2 hF2; (try rw [hk1]))
    | (go_at_call 8; refine OP.out.mono ?_; rintro e w1 ⟨r, rfl, hR1, hB1, hrw⟩; have R1 : Hid (Rr w av cv (zs.take 600) w1 r 0) := hR1; clear hR1 hB1 hrw))
theorem drawLex_any {zs : List Int} (hz : Bts zs) : ∃ ys, ys.length ≤ 40000 ∧ Bts ys ∧ DrawsB 4 zs ys := by
  have hb := bts_take hz 600
  have hl : (zs.take 600).length ≤ 600 := by rw [List.length_take]; omega
  obtain ⟨k1, hk1, kb1⟩ := nxn hb 0
  obtain ⟨ss, j, hs1, hs2, HA⟩ := any_source hb hl (nxi (zs.take 600) 0)
  by_cases h3 : k1 % 3 = 0
  · obtain ⟨ys, k, hy1, hy2, HM⟩ := mut_any hb hl j hs2 (by omega)
    exact ⟨ys, by omega, hy2, lex_turn hz k1 hk1 h3 HA HM⟩
  by_cases h12 : k1 % 12 = 1
  · obtain ⟨ds, hd1, hd2, HD⟩ := drawScan_any (bts_drop hb j)
    refine ⟨ss ++ ds, by rw [List.length_append]; omega, lex.bts_cat hs2 hd2, fun w av cv hr hc hm0 => ?_⟩
    by_cases hj : j < (zs.take 600).length
    · obtain ⟨b, off, rfl, _⟩ := rd_take hr 600 j hj
      exact lex_scan_mid hz k1 hk1 h12 (by omega) (by omega) HA HD hj w b off cv hr hc hm0
    by_cases hj2 : j = (zs.take 600).length
    · cases av with
      | none =>
        have h0 : (zs.take 600).length = 0 := by
          rcases Nat.eq_zero_or_pos (zs.take 600).length with h | h
          · exact h
          · obtain ⟨b, off, e, _⟩ := rd_take hr 600 0 h
            cases e
        exact lex_scan_nil hz k1 hk1 h12 (by omega) (by omega) HA HD hj2 h0 w cv hr hc hm0
      | some ad =>
        by_cases hcj : cv = j
        · subst hcj
          exact lex_scan_full hz k1 hk1 h12 (by omega) (by omega) HA HD hj2 w ad hr hc hm0
        · exact lex_scan_end hz k1 hk1 h12 (by omega) (by omega) HA HD hj2 w ad cv hcj hr hc hm0
    · exact lex_never hz k1 hk1 HA (by omega) w av cv hr hc hm0
  · exact ⟨ss, by omega, hs2, lex_plain hz k1 hk1 h3 h12 HA⟩
end Go.Proofs.Ytepbddfpdlapbaa.tk
namespace Go.Proofs.Ytepbddfpdlapbaa.lex
open Go.RowKit Go.Proofs.Ytepbddfpdlapbaa.bts Go.Proofs.Ytepbddfpdlapbaa.scn Go.Proofs.Ytepbddfpdlapbaa.lit
set_option maxRecDepth 100000 in
set_option maxHeartbeats 2000000 in
theorem implLex_nil (w : World) : Calls Try.prog 6 #[.slice none 0 0] w (LexPost [] (lexR []).1.length w) := by
  have HE : Hid (lexR [] = ([], 0, 0)) := by show _ = _; unfold lexR; rw [if_neg (by decide), lx_end (by decide)]
  obtain ⟨P, hP⟩ : ∃ P, P = LexPost [] (lexR []).1.length w := ⟨_, rfl⟩
  rw [← hP]
  have HP : Hid (P = LexPost [] (lexR []).1.length w) := hP
  clear hP
  go_enter Try.func6, Try.ntmps6
  go_wp2
  refine wp_scope_enter (fun N l a wr => N = 0 ∧ l = 0 ∧ wr = w ∧ ∃ kd sz u, a = fr (.slice none 0 0) (.slice none 0 0) kd (.int .i64 0) sz u) ?pass ?first
  case first =>
    intro HF0
    have HF : Hid _ := HF0
    clear HF0
    go_wp2
    go_step3
    rename_i hK
    exact hK _ _ (HF.out 0 0 _ _ ⟨rfl, rfl, rfl, _, _, _, fr_of rfl rfl⟩ _ rfl)
  case pass =>
    rintro N IH l a wr ⟨rfl, rfl, rfl, kd, sz, u, rfl⟩
    clear IH
    refine ⟨_, rfl, ?_⟩
    unfold fr
    go_wp2
    first | (rw [Leaps_ret]; go_ret3) | skip
    rw [HP.out]
    exact lex_post HE.out rfl (Below.refl _ _) (World.ownsRow_nil _ _ _ _)
set_option maxHeartbeats 400000 in
theorem sameB_any (ao bo : Option Addr) (cap cap' n : Nat) (zs : List Int) (w : World) (hn0 : zs.length = n) (hr : Rd w ao zs) (hs : Rd w bo zs) (hn : n ≤ 140737488355328) :
    Calls Try.prog 7 #[.slice ao n cap, .slice bo n cap'] w fun e w' => e = .returned (.bool true) ∧ ∃ m, w' = w.drewN m := by
  have HN : Hid (n = zs.length) := hn0.symm
  clear hn0
  go_enter Try.func7, Try.ntmps7
  go_wp2
  go_loopw [5] (fun i wr => ∃ (k m : Nat), k ≤ n ∧ i = .int .i64 k ∧ wr = w.drewN m) (fun i _ => n - (intOf i).toNat)
  case atStart => exact ⟨0, 0, Nat.zero_le _, rfl, rfl⟩
  case round =>
    obtain ⟨k, m, hk, rfl, rfl⟩ := hrel
    by_cases hlt : k < n
    · obtain ⟨b, off, rfl, hbw, hcell⟩ := hr.at (by have := HN.out; omega)
      obtain ⟨b', off', rfl, hbw', hcell'⟩ := hs.at (by have := HN.out; omega)
      have hc := hcell k (by have := HN.out; omega)
      have hc' := hcell' k (by have := HN.out; omega)
      obtain ⟨z, hz⟩ : ∃ z, z = zs.getD k 0 := ⟨_, rfl⟩
      rw [← hz] at hc hc'
      have hlt' : (k : Int) < (n : Int) := by omega
      clear hz hcell hcell' hr hs
      go_wp2
      go_quiet (fail)
      go_wp2
      go_roundw
      case rel => exact ⟨k + 1, m + nq, by omega, by go_num, by simp⟩
      case measure => simp [intOf]; omega
    · go_wp2
      go_ret
      exact ⟨rfl, _, rfl⟩
def endT : Nat → List (Int × Nat × Nat) → Nat
  | e, [] => e
  | _, (_, a, n) :: r => endT (a + n) r
theorem endT_snoc : ∀ (e : Nat) (l : List (Int × Nat × Nat)) (t : Int × Nat × Nat), endT e (l ++ [t]) = t.2.1 + t.2.2
  | _, [], (_, _, _) => rfl
  | _, (_, a, n) :: r, t => endT_snoc (a + n) r t
theorem joinT_snoc (zs : List Int) : ∀ (l : List (Int × Nat × Nat)) (t : Int × Nat × Nat), joinT zs (l ++ [t]) = joinT zs l ++ part zs t.2.1 t.2.2 ++ [10]
  | [], (_, a, n) => by simp [joinT]
  | (_, a, n) :: r, t => by rw [List.cons_append, joinT, joinT_snoc zs r t, joinT]; simp
theorem joinT_app (zs : List Int) : ∀ (l r : List (Int × Nat × Nat)), joinT zs (l ++ r) = joinT zs l ++ joinT zs r
  | [], r => by simp [joinT]
  | (_, a, n) :: l, r => by rw [List.cons_append, joinT, joinT_app zs l r, joinT]; simp
theorem take_snoc {l : List (Int × Nat × Nat)} {k : Nat} (h : k < l.length) : l.take (k + 1) = l.take k ++ [l.getD k (0, 0, 0)] := by
  rw [List.take_add_one, List.getElem?_eq_getElem h, List.getD_eq_getElem?_getD, List.getElem?_eq_getElem h]
  rfl
theorem take_all {l : List (Int × Nat × Nat)} {k : Nat} (h : k < l.length) : l = l.take k ++ [l.getD k (0, 0, 0)] ++ l.drop (k + 1) := by
  rw [← take_snoc h, List.take_append_drop]
theorem Toks.at {zs : List Int} : ∀ {l : List (Int × Nat × Nat)} {e : Nat}, Toks zs e l → ∀ k, k < l.length → endT e (l.take k) ≤ (l.getD k (0, 0, 0)).2.1 ∧ 1 ≤ (l.getD k (0, 0, 0)).2.2 ∧ (l.getD k (0, 0, 0)).2.1 + (l.getD k (0, 0, 0)).2.2 ≤ zs.length
  | [], _, _, k, hk => by simp at hk
  | (kd, a, n) :: r, e, h, 0, _ => ⟨h.1, h.2.1, h.2.2.1⟩
  | (kd, a, n) :: r, e, h, k + 1, hk => by
    have := Toks.at h.2.2.2.2.2.2 k (by simpa using hk)
    simpa [endT, List.getD_eq_getElem?_getD] using this
theorem Toks.len {zs : List Int} : ∀ {l : List (Int × Nat × Nat)} {e : Nat}, Toks zs e l → e ≤ zs.length → l.length + e ≤ zs.length ∧ (joinT zs l).length + 2 * e ≤ 2 * zs.length
  | [], e, _, h => by simp [joinT]; omega
  | (kd, a, n) :: r, e, h, he => by
    obtain ⟨h1, h2, h3, _, _, _, h7⟩ := h
    have := Toks.len h7 h3
    rw [joinT, List.length_cons, List.length_append, List.length_append, part_len h3]
    simp only [List.length_cons, List.length_nil]
    omega
theorem placed_at {zs : List Int} : ∀ {l : List (Int × Nat × Nat)} {e p : Nat}, Toks zs e l → ∀ k, k < l.length → (placed p l).getD k (0, 0, 0) = ((l.getD k (0, 0, 0)).1, p + (joinT zs (l.take k)).length, (l.getD k (0, 0, 0)).2.2)
  | [], _, _, _, k, hk => by simp at hk
  | (kd, a, n) :: r, e, p, h, 0, _ => by simp [placed, joinT]
  | (kd, a, n) :: r, e, p, h, k + 1, hk => by
    have := placed_at (p := p + n + 1) h.2.2.2.2.2.2 k (by simpa using hk)
    have hl := part_len h.2.2.1
    simp only [placed, List.take_succ_cons, joinT, List.length_append, hl, List.length_cons, List.length_nil]
    simp only [List.getD_eq_getElem?_getD, List.getElem?_cons_succ] at this ⊢
    rw [this]
    simp only [Prod.mk.injEq, true_and, and_true]
    omega
theorem join_part {zs : List Int} {l : List (Int × Nat × Nat)} {e : Nat} (h : Toks zs e l) {k : Nat} (hk : k < l.length) :
    (joinT zs (l.take k)).length + (l.getD k (0, 0, 0)).2.2 ≤ (joinT zs l).length ∧ part (joinT zs l) (joinT zs (l.take k)).length (l.getD k (0, 0, 0)).2.2 = part zs (l.getD k (0, 0, 0)).2.1 (l.getD k (0, 0, 0)).2.2 := by
  obtain ⟨_, h1, h2⟩ := h.at k hk
  have e1 : joinT zs l = joinT zs (l.take k) ++ (part zs (l.getD k (0, 0, 0)).2.1 (l.getD k (0, 0, 0)).2.2 ++ ([10] ++ joinT zs (l.drop (k + 1)))) := by
    have := congrArg (joinT zs) (take_all hk)
    rw [joinT_app, joinT_snoc] at this
    rw [this]; simp
  have hl := part_len h2
  refine ⟨by rw [e1, List.length_append, List.length_append, hl]; omega, ?_⟩
  rw [e1]
  unfold part at hl ⊢
  rw [List.drop_left, List.take_append_of_le_length (by omega), List.take_of_length_le (by omega)]
theorem implLex_owb {w : World} {base : Nat} {v : Value} {zs : List Int} (h : tk.OwB w base v zs) (hb : Bts zs) : Calls Try.prog 6 #[v] w (LexPost zs (lexR zs).1.length w) := by
  obtain ⟨ao, cap, rfl, h1, h2, h3, ⟨rfl, rfl⟩ | ⟨g, rfl, _⟩⟩ := h.rd
  · rcases h with ⟨e, _⟩ | ⟨g, cap, cur, fz, e, _⟩
    · rw [e]; exact implLex_nil w
    · simp at e
  · exact implLex_any g _ cap zs w hb h3 rfl (by unfold maxLen at h2; omega) h1
theorem specLex_owb {w : World} {base : Nat} {v : Value} {zs : List Int} (h : tk.OwB w base v zs) (hb : Bts zs) : Calls Try.prog 5 #[v] w (LexPost zs (lexR zs).1.length w) := by
  obtain ⟨ao, cap, rfl, h1, h2, h3, ⟨rfl, rfl⟩ | ⟨g, rfl, _⟩⟩ := h.rd
  · exact specLex_nil none cap w
  · exact specLex_any g cap zs w hb h3 (by unfold maxLen at h2; omega) h1
end Go.Proofs.Ytepbddfpdlapbaa.lex
