import Derived.Test.YtepbddfpdlapbaaMVtName
import Derived.Test.YtepbddfpdlapbaaMVtGoodB
import Derived.Test.YtepbddfpdlapbaaMVtGoodC
import Derived.Test.YtepbddfpdlapbaaMVtGoodD
import Derived.Test.YtepbddfpdlapbaaMPtList
import Derived.Test.YtepbddfpdlapbaaMPtOps
namespace Go.Proofs.Ytepbddfpdlapbaa.vt
open Go.RowKit Go.Proofs.Ytepbddfpdlapbaa.bts Go.Proofs.Ytepbddfpdlapbaa.nod Go.Proofs.Ytepbddfpdlapbaa.lex
def Fine (l : List Nd) : Prop := ∀ i, i < l.length → (l.getD i nd0).text.length + sizeSS (l.getD i nd0).names ≤ 1048576
theorem l3good_any (b off n cap : Nat) (l : List Nd) (hl : l.length = n) (hn : n ≤ 6000) (hsz : Fine l) : ∀ (d : Nat), d ≤ 200 → ∀ (i : Nat) (lp : Bool) (w : World), RdN w (some ⟨b, off, none⟩) l → (∃ e, endAt l d i = some e) →
    Calls Try.prog 62 #[.slice (some ⟨b, off, none⟩) n cap, .int .i64 i, .bool lp] w fun r w' => r = .returned (.bool (good l d i lp)) ∧ Below w.heap.size w w' := by
  intro d
  induction d with
  | zero => rintro _ i lp w _ ⟨e, he⟩; cases he
  | succ d ih =>
    rintro hd i lp w hr ⟨e, hE⟩
    obtain ⟨⟨hin, hct0, hct1⟩, _⟩ := endAt_step hE
    have hs := hsz i hin
    obtain ⟨b', off', ut, un, e1, c0, c1, c2, c3, c4, ht, hnm⟩ := hr i hin
    simp only [Option.some.injEq, Addr.mk.injEq, and_true] at e1
    obtain ⟨rfl, rfl⟩ := e1
    have IH : Hid (∀ (x : Nat) (lp : Bool) (W : World), RdN W (some ⟨b, off, none⟩) l → (∃ e, endAt l d x = some e) → Calls Try.prog 62 #[.slice (some ⟨b, off, none⟩) n cap, .int .i64 x, .bool lp] W fun r w' => r = .returned (.bool (good l d x lp)) ∧ Below W.heap.size W w') :=
      fun x lp W h1 h2 => ih (by omega) x lp W h1 h2
    rw [good]
    have hcn : cnt l i = (l.getD i nd0).count := rfl
    have hkn : knd l i = (l.getD i nd0).kind := rfl
    rw [hkn]
    rw [hcn] at hct0 hct1 ⊢
    rw [hl] at hin hct1
    have ht2 := ht
    have hn2 := hnm
    obtain ⟨at_, ca, rfl, _, _, _⟩ := ht2
    obtain ⟨an, cn, rfl, _, _⟩ := hn2
    have CS : Hid (∀ W, Calls Try.prog 71 #[.agg #[.int .i64 (l.getD i nd0).kind, .int .i64 (l.getD i nd0).n, .slice at_ (l.getD i nd0).text.length ca, .slice an (l.getD i nd0).names.length cn, .int .i64 (l.getD i nd0).count]] W fun x w' => x = .returned (.string (shape (l.getD i nd0).kind (l.getD i nd0).n (l.getD i nd0).count)) ∧ Below W.heap.size W w') := fun W => l3shape_any _ _ _ _ _ W (by omega) (by omega)
    have CF : Hid (∀ W, Below w.heap.size w W → Calls Try.prog 72 #[.agg #[.int .i64 (l.getD i nd0).kind, .int .i64 (l.getD i nd0).n, .slice at_ (l.getD i nd0).text.length ca, .slice an (l.getD i nd0).names.length cn, .int .i64 (l.getD i nd0).count]] W fun e w' => e = .returned (.bool (fieldsB (l.getD i nd0).kind (l.getD i nd0).n (l.getD i nd0).text (l.getD i nd0).names)) ∧ Below W.heap.size W w') := fun W hW => l3fields_any _ _ _ _ _ _ _ W (ht.below hW) (hnm.below hW) hs
    clear ht hnm hs hkn
    generalize hdd : l.getD i nd0 = dd at c0 c1 c2 c3 c4 CS CF hct0 hct1 hcn ⊢
    obtain ⟨kd, nn, tx, nms, ct⟩ := dd
    simp only at c0 c1 c2 c3 c4 CS CF hct0 hct1 hcn ⊢
    clear hdd
    have hct6 : ct ≤ 6000 := by omega
    by_cases h0 : kd < 0
    · rw [show headOk kd nn tx nms ct lp = false by unfold headOk; rw [decide_eq_false (show ¬ 0 ≤ kd by omega)]; rfl]
      exact bad_neg n cap b off i _ ca _ cn at_ an kd nn ct lp w hin hn hct0 hct6 c0 c1 c2 c3 c4 CS h0
    have h0' : 0 ≤ kd := by omega
    by_cases h26 : 26 < kd
    · rw [show headOk kd nn tx nms ct lp = false by unfold headOk; rw [decide_eq_false (show ¬ kd ≤ 26 by omega)]; simp]
      exact bad_big n cap b off i _ ca _ cn at_ an kd nn ct lp w hin hn hct0 hct6 c0 c1 c2 c3 c4 CS h26
    have h26' : kd ≤ 26 := by omega
    cases hf : fieldsB kd nn tx nms with
    | false =>
      rw [show headOk kd nn tx nms ct lp = false by unfold headOk; rw [hf]; simp]
      exact bad_fields n cap b off i _ ca _ cn at_ an kd nn ct lp tx nms w hin hn hct0 hct6 c0 c1 c2 c3 c4 CS CF h0' h26' hf
    | true =>
      by_cases hsz2 : ((shape kd nn ct).size : Int) = ct
      · cases hq : ((shape kd nn ct).toList == [63]) with
        | true =>
          rw [show headOk kd nn tx nms ct lp = false by unfold headOk; rw [hq]; simp]
          exact bad_shape n cap b off i _ ca _ cn at_ an kd nn ct lp tx nms w hin hn hct0 hct6 c0 c1 c2 c3 c4 CS CF h0' h26' hf hsz2 hq
        | false =>
          have hH : headOk kd nn tx nms ct lp = (!(kd == 8) || lp) := by unfold headOk; rw [hf, hq, decide_eq_true h0', decide_eq_true h26', decide_eq_true hsz2]; rfl
          rw [hH]
          by_cases k8 : kd = 8
          · subst k8
            cases lp with
            | false => exact bad_break n cap b off i _ ca _ cn at_ an nn ct false tx nms w hin hn hct0 hct6 c0 c1 c2 c3 c4 CS CF rfl hf hsz2 hq
            | true => exact good8 n cap b off i _ ca _ cn at_ an nn ct true tx nms w hin hn hct0 hct6 c0 c1 c2 c3 c4 CS CF rfl hf hsz2 hq l d e hl hr hE hd hcn IH
          rw [show (!(kd == 8) || lp) = true by simp [k8], Bool.true_and]
          by_cases k4 : kd = 4
          · subst k4; exact good4 n cap b off i _ ca _ cn at_ an nn ct lp tx nms w hin hn hct0 hct6 c0 c1 c2 c3 c4 CS CF hf hsz2 hq l d e hl hr hE hd hcn IH
          by_cases k5 : kd = 5
          · subst k5; exact good5 n cap b off i _ ca _ cn at_ an nn ct lp tx nms w hin hn hct0 hct6 c0 c1 c2 c3 c4 CS CF hf hsz2 hq l d e hl hr hE hd hcn IH
          by_cases k7 : kd = 7
          · subst k7; exact good7 n cap b off i _ ca _ cn at_ an nn ct lp tx nms w hin hn hct0 hct6 c0 c1 c2 c3 c4 CS CF hf hsz2 hq l d e hl hr hE hd hcn IH
          by_cases k19 : kd = 19
          · subst k19; exact good19 n cap b off i _ ca _ cn at_ an nn ct lp tx nms w hin hn hct0 hct6 c0 c1 c2 c3 c4 CS CF hf hsz2 hq l d e hl hr hE hd hcn IH
          have hinn : innerOf kd lp = lp := by unfold innerOf; rw [if_neg (by omega), if_neg k19]
          rw [hinn]
          by_cases k0 : kd = 0
          · subst k0; exact good0 n cap b off i _ ca _ cn at_ an nn ct lp tx nms w hin hn hct0 hct6 c0 c1 c2 c3 c4 CS CF hf hsz2 hq l d e hl hr hE hd hcn IH
          rw [show (kd == 0) = false by simp; exact k0]
          exact goodX n cap b off i _ ca _ cn at_ an kd nn ct lp tx nms w hin hn hct0 hct6 c0 c1 c2 c3 c4 CS CF h0' h26' k8 k4 k5 k7 k19 k0 hf hsz2 hq l d e hl hr hE hd hcn IH
      · rw [show headOk kd nn tx nms ct lp = false by unfold headOk; rw [decide_eq_false hsz2]; simp]
        exact bad_size n cap b off i _ ca _ cn at_ an kd nn ct lp tx nms w hin hn hct0 hct6 c0 c1 c2 c3 c4 CS CF h0' h26' hf hsz2
def valid (l : List Nd) : Bool := decide (1 ≤ l.length) && (decide (l.length ≤ 6000) && ((knd l 0 == 0) && (decide (endAt l 200 0 = some l.length) && good l 200 0 false)))
set_option maxRecDepth 100000 in
set_option maxHeartbeats 2000000 in
theorem specValid_fine (ao : Option Addr) (n cap : Nat) (l : List Nd) (w : World) (hl : l.length = n) (hr : RdN w ao l) (hnb : n ≤ 1048576) (hsz : Fine l) :
    Calls Try.prog 50 #[.slice ao n cap] w fun r w' => r = .returned (.bool (valid l)) ∧ Below w.heap.size w w' := by
  by_cases h1 : 1 ≤ n
  · by_cases h2 : n ≤ 6000
    · obtain ⟨b, off, _, _, rfl, c0, _⟩ := hr 0 (by omega)
      have hk : (l.getD 0 nd0).kind = knd l 0 := rfl
      rw [hk] at c0
      simp only [Nat.zero_mul, Nat.add_zero] at c0
      clear hk
      have d1 : decide ((n : Int) < 1) = false := by simp; omega
      have d2 : decide ((6000 : Int) < (n : Int)) = false := by simp; omega
      by_cases h3 : knd l 0 = 0
      · rw [h3] at c0
        have CE := l3end_any (some ⟨b, off, none⟩) n cap l w hl hr h2 200 0 (by omega) (by omega)
        by_cases h4 : endAt l 200 0 = some n
        · have CG := l3good_any b off n cap l hl h2 hsz 200 (by omega) 0 false w hr ⟨_, h4⟩
          have HV : Hid (valid l = good l 200 0 false) := by show _ = _; unfold valid; rw [hl, decide_eq_true h1, decide_eq_true h2, h3, decide_eq_true h4]; rfl
          rw [h4] at CE
          generalize good l 200 0 false = gd at CG HV
          clear hr hl hsz h3 h4
          unfold endI at CE
          go_enter Try.func50, Try.ntmps50
          go_wp2_with fail
          refine CE.mono ?_
          rintro r w' ⟨rfl, hw⟩
          replace hw := hw.symm
          subst hw
          clear CE
          go_wp2_with fail
          refine CG.mono ?_
          rintro r w1 ⟨rfl, hb1⟩
          clear CG
          go_wp2_with fail
          go_ret
          exact ⟨ret_bool (by rw [HV.out]), hb1⟩
        · have HV : Hid (valid l = false) := by show _ = _; unfold valid; rw [hl, decide_eq_false h4]; simp
          have hne : (endI (endAt l 200 0) == (n : Int)) = false := by
            cases hE : endAt l 200 0 with
            | none => simp [endI]
            | some m =>
              have : ¬ m = n := fun e => h4 (by rw [hE, e])
              simp [endI]; omega
          generalize endI (endAt l 200 0) = z at CE hne
          clear hr hl hsz h3 h4
          go_enter Try.func50, Try.ntmps50
          go_wp2_with fail
          refine CE.mono ?_
          rintro r w' ⟨rfl, hw⟩
          replace hw := hw.symm
          subst hw
          clear CE
          go_wp2_with fail
          go_ret
          exact ⟨ret_bool (by rw [HV.out]), Below.refl _ _⟩
      · have HV : Hid (valid l = false) := by show _ = _; unfold valid; rw [show (knd l 0 == 0) = false by simp; exact h3]; simp
        have hne : (knd l 0 != 0) = true := bne_iff_ne.mpr h3
        generalize knd l 0 = kz at c0 hne h3
        clear hr hl hsz
        go_enter Try.func50, Try.ntmps50
        go_wp2_with fail
        go_ret
        exact ⟨ret_bool (by rw [HV.out]), Below.refl _ _⟩
    · have HV : Hid (valid l = false) := by show _ = _; unfold valid; rw [hl, decide_eq_false h2]; simp
      have d1 : decide ((n : Int) < 1) = false := by simp; omega
      have d2 : decide ((6000 : Int) < (n : Int)) = true := by simp; omega
      clear hr hl hsz
      go_enter Try.func50, Try.ntmps50
      go_wp2_with fail
      go_ret
      exact ⟨ret_bool (by rw [HV.out]), Below.refl _ _⟩
  · have HV : Hid (valid l = false) := by show _ = _; unfold valid; rw [hl, decide_eq_false h1]; rfl
    have hn0 : n = 0 := by omega
    subst hn0
    clear hr hl hsz
    go_enter Try.func50, Try.ntmps50
    go_wp2_with fail
    go_ret
    exact ⟨ret_bool (by rw [HV.out]), Below.refl _ _⟩
theorem letAt_app_l {a b : ByteArray} {k : Nat} (h : k < a.size) : letAt (a ++ b) k = letAt a k := by
  rw [letAt_in h, letAt_in (by rw [ByteArray.size_append]; omega), ByteArray.getElem_append_left h]
theorem letAt_app_r {a b : ByteArray} {k : Nat} (h : a.size ≤ k) (h2 : k < a.size + b.size) : letAt (a ++ b) k = letAt b (k - a.size) := by
  rw [letAt_in (show k - a.size < b.size by omega), letAt_in (by rw [ByteArray.size_append]; omega), ByteArray.getElem_append_right h]
theorem letAt_rep1 {c : UInt8} {n : Nat} : ∀ {k : Nat}, k < n → letAt (rep { data := #[c] } n) k = c.toNat := by
  induction n with
  | zero => intro k h; omega
  | succ n ih =>
    intro k h
    have hs : (rep { data := #[c] } n).size = n := by rw [rep_size]; show n * 1 = n; omega
    rw [rep]
    by_cases hk : k < n
    · rw [letAt_app_l (by omega)]; exact ih hk
    · have : k = n := by omega
      subst this
      rw [letAt_app_r (by omega) (by rw [hs]; show k < k + 1; omega), hs, Nat.sub_self]
      rfl
theorem letAt_rep2 {n : Nat} : ∀ {k : Nat}, k < n * 2 → letAt (rep { data := #[101, 98] } n) k = if k % 2 = 1 then 98 else 101 := by
  induction n with
  | zero => intro k h; omega
  | succ n ih =>
    intro k h
    have hs : (rep { data := #[101, 98] } n).size = n * 2 := by rw [rep_size]; rfl
    rw [rep]
    by_cases hk : k < n * 2
    · rw [letAt_app_l (by omega)]; exact ih hk
    · rw [letAt_app_r (by omega) (by rw [hs]; show k < n * 2 + 2; omega), hs]
      have : k = n * 2 ∨ k = n * 2 + 1 := by omega
      rcases this with rfl | rfl
      · rw [Nat.sub_self, if_neg (by omega)]; rfl
      · rw [show n * 2 + 1 - n * 2 = 1 by omega, if_pos (by omega)]; rfl
theorem loop_eq (bs : ByteArray) : ∀ (n i : Nat) (r : List UInt8), bs.size - i = n → ByteArray.toList.loop bs i r = r.reverse ++ bs.data.toList.drop i := by
  intro n
  induction n with
  | zero =>
    intro i r h
    rw [ByteArray.toList.loop, if_neg (by omega), List.drop_eq_nil_of_le (by show bs.size ≤ i; omega), List.append_nil]
  | succ n ih =>
    intro i r h
    have hi : i < bs.data.toList.length := by show i < bs.size; omega
    rw [ByteArray.toList.loop, if_pos (by omega), ih _ _ (by omega), List.drop_eq_getElem_cons hi]
    simp only [List.reverse_cons, List.append_assoc, List.singleton_append, List.append_cancel_left_eq, List.cons.injEq, and_true]
    have hi2 : i < bs.data.size := hi
    simp only [ByteArray.get!]
    simpa using getElem!_pos bs.data i hi2
theorem toList_eq (bs : ByteArray) : bs.toList = bs.data.toList := by
  rw [ByteArray.toList, loop_eq bs _ 0 [] rfl]; simp
theorem one {P : Nat → Prop} (h0 : P 0) : ∀ k, k < 1 → P k := by
  intro k hk
  have : k = 0 := by omega
  subst this
  exact h0
theorem zero {P : Nat → Prop} : ∀ k, k < 0 → P k := fun k hk => absurd hk (by omega)
theorem goodKids_iff {f : Nat → Bool} {l : List Nd} {blk : Bool} {sh : ByteArray} : ∀ {ks : List Nat} {j : Nat}, goodKids f l blk sh j ks = true ↔ ∀ k, k < ks.length → fits (letAt sh (j + k)) (knd l (ks.getD k 0)) = true ∧ f (ks.getD k 0) = true ∧ (blk = true → k + 1 < ks.length → ¬ (knd l (ks.getD k 0) = 9 ∨ knd l (ks.getD k 0) = 8))
  | [], j => by simp [goodKids]
  | a :: r, j => by
    rw [goodKids, Bool.and_eq_true, Bool.and_eq_true, Bool.and_eq_true, goodKids_iff (ks := r)]
    constructor
    · rintro ⟨h1, h2, h3, h4⟩ k hk
      cases k with
      | zero =>
        refine ⟨h1, h2, fun hb hlt => ?_⟩
        subst hb
        have : r.isEmpty = false := by cases r with
          | nil => simp at hlt
          | cons => rfl
        simpa [this] using h3
      | succ k =>
        have := h4 k (by simpa using hk)
        rw [show j + (k + 1) = j + 1 + k by omega]
        exact ⟨this.1, this.2.1, fun hb hlt => this.2.2 hb (by simpa using hlt)⟩
    · intro h
      refine ⟨(h 0 (by simp)).1, (h 0 (by simp)).2.1, ?_, fun k hk => ?_⟩
      · have := (h 0 (by simp)).2.2
        cases blk with
        | false => rfl
        | true =>
          cases r with
          | nil => simp
          | cons b r => simpa using this rfl (by simp)
      · have := h (k + 1) (by simpa using hk)
        rw [show j + (k + 1) = j + 1 + k by omega] at this
        exact ⟨this.1, this.2.1, fun hb hlt => this.2.2 hb (by simpa using hlt)⟩
def posK (l : List Nd) (d p : Nat) : Nat → Nat
  | 0 => p
  | k + 1 => (endAt l d (posK l d p k)).getD 0
theorem pos_shift (l : List Nd) (d p : Nat) : ∀ k, posK l d p (k + 1) = posK l d ((endAt l d p).getD 0) k
  | 0 => rfl
  | k + 1 => by rw [posK, pos_shift l d p k]; rfl
theorem pos_all {l : List Nd} {d : Nat} (hd : d ≤ 200) : ∀ {c p e : Nat}, loopN (endAt l d) c p = some e → posK l d p c = e ∧ ∀ k, k < c → endAt l d (posK l d p k) = some (posK l d p (k + 1)) ∧ (kidsL l c p).getD k 0 = posK l d p k := by
  intro c
  induction c with
  | zero => intro p e h; rw [loopN] at h; cases h; exact ⟨rfl, fun k hk => absurd hk (by omega)⟩
  | succ c ih =>
    intro p e h
    cases hf : endAt l d p with
    | none => rw [loopN_none hf] at h; cases h
    | some m =>
      rw [loopN_some hf] at h
      obtain ⟨h1, h2⟩ := ih h
      have hs : ∀ k, posK l d p (k + 1) = posK l d m k := fun k => by rw [pos_shift, hf]; rfl
      refine ⟨by rw [hs]; exact h1, fun k hk => ?_⟩
      cases k with
      | zero => exact ⟨by rw [hs]; exact hf, rfl⟩
      | succ k =>
        have e3 : (kidsL l (c + 1) p).getD (k + 1) 0 = (kidsL l c m).getD k 0 := by
          rw [kidsL]; unfold nx; rw [endAt_le hf hd]; rfl
        rw [hs, hs, e3]
        exact h2 k (by omega)
structure Parts (l : List Nd) (d i e c : Nat) (lp : Bool) (pos : Nat → Nat) : Prop where
  low : i < l.length
  cnt : cnt l i = (c : Int)
  few : c ≤ l.length
  len : (kids l i).length = c
  first : pos 0 = i + 1
  last : pos c = e
  ends : ∀ k, k < c → endAt l d (pos k) = some (pos (k + 1))
  at_ : ∀ k, k < c → (kids l i).getD k 0 = pos k
  good : ∀ k, k < c → good l d (pos k) (innerOf (knd l i) lp) = true
  fit : ∀ k, k < c → fits (letAt (shape (knd l i) (l.getD i nd0).n (c : Int)) k) (knd l (pos k)) = true
  num : (shape (knd l i) (l.getD i nd0).n (c : Int)).size = c
  mark : ((shape (knd l i) (l.getD i nd0).n (c : Int)).toList == [63]) = false
  flds : fieldsB (knd l i) (l.getD i nd0).n (l.getD i nd0).text (l.getD i nd0).names = true
theorem parts_of {l : List Nd} {d i e : Nat} {lp : Bool} (hd : d ≤ 200) (hE : endAt l (d + 1) i = some e) (hg : good l (d + 1) i lp = true) : ∃ c pos, Parts l d i e c lp pos := by
  obtain ⟨⟨hin, hc0, hc1⟩, hL⟩ := endAt_step hE
  obtain ⟨c, hc⟩ : ∃ c : Nat, vt.cnt l i = (c : Int) := ⟨(vt.cnt l i).toNat, by omega⟩
  rw [hc, Int.toNat_natCast] at hL
  obtain ⟨h1, h2⟩ := pos_all hd hL
  have hkl : (kids l i).length = c := by unfold kids; rw [kidsL_len, hc, Int.toNat_natCast]
  have hka : ∀ k, k < c → (kids l i).getD k 0 = posK l d (i + 1) k := fun k hk => by
    unfold kids; rw [hc, Int.toNat_natCast]; exact (h2 k hk).2
  rw [vt.good, Bool.and_eq_true, goodKids_iff, hkl, hc] at hg
  obtain ⟨hh, hk⟩ := hg
  unfold headOk at hh
  simp only [Bool.and_eq_true, decide_eq_true_eq, Bool.not_eq_true'] at hh
  obtain ⟨_, _, hf, hs, hm, _⟩ := hh
  refine ⟨c, posK l d (i + 1), hin, hc, by omega, hkl, rfl, h1, fun k hk' => (h2 k hk').1, hka, fun k hk' => ?_, fun k hk' => ?_, by omega, hm, hf⟩
  · have := (hk k hk').2.1
    rw [hka k hk'] at this
    exact this
  · have := (hk k hk').1
    rw [hka k hk', Nat.zero_add] at this
    exact this
section
variable {l : List Nd} {d i e c : Nat} {lp : Bool} {pos : Nat → Nat}
theorem fit_e {k : Int} (h : fits 101 k = true) : isExpr k = true := by unfold fits at h; exact h
theorem fit_b {k : Int} (h : fits 98 k = true) : k = 0 := by unfold fits at h; simpa using h
theorem fit_s {k : Int} (h : fits 115 k = true) : isStat k = true := by unfold fits at h; exact h
theorem fit_f {k : Int} (h : fits 102 k = true) : k = 19 := by unfold fits at h; simpa using h
theorem fit_c {k : Int} (h : fits 99 k = true) : k = 18 := by unfold fits at h; simpa using h
theorem fit_t {k : Int} (h : fits 116 k = true) : isExpr k = true := by
  unfold fits at h
  simp only [show ¬ (116 : Int) = 101 by omega, show ¬ (116 : Int) = 98 by omega, show ¬ (116 : Int) = 115 by omega, show ¬ (116 : Int) = 102 by omega, show ¬ (116 : Int) = 99 by omega, if_false, Bool.or_eq_true, beq_iff_eq] at h
  exact isExpr_yes (by omega)
theorem no_mark {p : Prop} (h : (({ data := #[63] } : ByteArray).toList == [63]) = false) : p := by
  rw [toList_eq] at h
  cases h
theorem Parts.k0 (h : Parts l d i e c lp pos) (hk : knd l i = 0) : ∀ k, k < c → isStat (knd l (pos k)) = true := fun k hkc => by
  have := h.fit k hkc
  rw [hk, show ∀ n x, shape 0 n x = rep { data := #[115] } x.toNat from fun _ _ => rfl, Int.toNat_natCast, letAt_rep1 hkc] at this
  exact fit_s this
theorem Parts.k1 (h : Parts l d i e c lp pos) (hk : knd l i = 1 ∨ knd l i = 9) : c ≤ 50 ∧ ∀ k, k < c → isExpr (knd l (pos k)) = true := by
  have hs : shape (knd l i) (l.getD i nd0).n (c : Int) = if 50 < (c : Int) then { data := #[63] } else rep { data := #[101] } (c : Int).toNat := by
    rcases hk with hk | hk <;> rw [hk] <;> rfl
  have hm := h.mark
  rw [hs] at hm
  by_cases h5 : 50 < (c : Int)
  · rw [if_pos h5] at hm; exact no_mark hm
  · refine ⟨by omega, fun k hkc => ?_⟩
    have := h.fit k hkc
    rw [hs, if_neg h5, Int.toNat_natCast, letAt_rep1 hkc] at this
    exact fit_e this
theorem Parts.k26 (h : Parts l d i e c lp pos) (hk : knd l i = 26) : c = 1 ∧ knd l (pos 0) = 19 := by
  have hs : ∀ n x, shape 26 n x = { data := #[102] } := fun _ _ => rfl
  have hn := h.num
  rw [hk, hs] at hn
  obtain rfl : c = 1 := hn.symm
  have := h.fit 0 (by omega)
  rw [hk, hs] at this
  exact ⟨rfl, fit_f this⟩
theorem Parts.k2 (h : Parts l d i e c lp pos) (hk : knd l i = 2) : 1 ≤ (l.getD i nd0).n ∧ (l.getD i nd0).n ≤ 50 ∧ (l.getD i nd0).n < (c : Int) ∧ (c : Int) ≤ (l.getD i nd0).n + 50 ∧ ∀ k, k < c → isExpr (knd l (pos k)) = true := by
  have hs : ∀ n x, shape 2 n x = if n < 1 ∨ 50 < n ∨ x ≤ n ∨ n + 50 < x then { data := #[63] } else rep { data := #[116] } n.toNat ++ rep { data := #[101] } (x - n).toNat := fun _ _ => rfl
  have hm := h.mark
  rw [hk, hs] at hm
  by_cases h5 : (l.getD i nd0).n < 1 ∨ 50 < (l.getD i nd0).n ∨ (c : Int) ≤ (l.getD i nd0).n ∨ (l.getD i nd0).n + 50 < (c : Int)
  · rw [if_pos h5] at hm; exact no_mark hm
  · refine ⟨by omega, by omega, by omega, by omega, fun k hkc => ?_⟩
    have := h.fit k hkc
    rw [hk, hs, if_neg h5] at this
    have s1 : (rep { data := #[116] } (l.getD i nd0).n.toNat).size = (l.getD i nd0).n.toNat := by rw [rep_size]; exact Nat.mul_one _
    have s2 : (rep { data := #[101] } ((c : Int) - (l.getD i nd0).n).toNat).size = ((c : Int) - (l.getD i nd0).n).toNat := by rw [rep_size]; exact Nat.mul_one _
    by_cases hlt : k < (l.getD i nd0).n.toNat
    · rw [letAt_app_l (by omega), letAt_rep1 hlt] at this
      exact fit_t this
    · rw [letAt_app_r (by omega) (by omega), s1, letAt_rep1 (by omega)] at this
      exact fit_e this
theorem Parts.k3 (h : Parts l d i e c lp pos) (hk : knd l i = 3 ∨ knd l i = 19) : c = 1 ∧ knd l (pos 0) = 0 := by
  have hs : shape (knd l i) (l.getD i nd0).n (c : Int) = { data := #[98] } := by rcases hk with hk | hk <;> rw [hk] <;> rfl
  have hn := h.num
  rw [hs] at hn
  obtain rfl : c = 1 := hn.symm
  have := h.fit 0 (by omega)
  rw [hs] at this
  exact ⟨rfl, fit_b this⟩
theorem Parts.k4 (h : Parts l d i e c lp pos) (hk : knd l i = 4) : c = 2 ∧ isExpr (knd l (pos 0)) = true ∧ knd l (pos 1) = 0 := by
  have hs : ∀ n x, shape 4 n x = { data := #[101, 98] } := fun _ _ => rfl
  have hn := h.num
  rw [hk, hs] at hn
  obtain rfl : c = 2 := hn.symm
  have h0 := h.fit 0 (by omega)
  have h1 := h.fit 1 (by omega)
  rw [hk, hs] at h0 h1
  exact ⟨rfl, fit_e h0, fit_b h1⟩
theorem Parts.k5 (h : Parts l d i e c lp pos) (hk : knd l i = 5) : c = 2 ∧ knd l (pos 0) = 0 ∧ isExpr (knd l (pos 1)) = true := by
  have hs : ∀ n x, shape 5 n x = { data := #[98, 101] } := fun _ _ => rfl
  have hn := h.num
  rw [hk, hs] at hn
  obtain rfl : c = 2 := hn.symm
  have h0 := h.fit 0 (by omega)
  have h1 := h.fit 1 (by omega)
  rw [hk, hs] at h0 h1
  exact ⟨rfl, fit_b h0, fit_e h1⟩
theorem Parts.k6 (h : Parts l d i e c lp pos) (hk : knd l i = 6) : 2 ≤ c ∧ ∀ k, k < c → (if k % 2 = 1 ∨ k + 1 = c then knd l (pos k) = 0 else isExpr (knd l (pos k)) = true) := by
  have hs : ∀ n x, shape 6 n x = if x < 2 then { data := #[63] } else rep { data := #[101, 98] } (x / 2).toNat ++ rep { data := #[98] } (x % 2).toNat := fun _ _ => rfl
  have hm := h.mark
  rw [hk, hs] at hm
  by_cases h5 : (c : Int) < 2
  · rw [if_pos h5] at hm; exact no_mark hm
  · refine ⟨by omega, fun k hkc => ?_⟩
    have := h.fit k hkc
    rw [hk, hs, if_neg h5, show ((c : Int) / 2).toNat = c / 2 by omega, show ((c : Int) % 2).toNat = c % 2 by omega] at this
    have s1 : (rep { data := #[101, 98] } (c / 2)).size = c / 2 * 2 := rep_size _ _
    have s2 : (rep { data := #[98] } (c % 2)).size = c % 2 := by rw [rep_size]; exact Nat.mul_one _
    by_cases hlt : k < c / 2 * 2
    · rw [letAt_app_l (by omega), letAt_rep2 hlt] at this
      by_cases ho : k % 2 = 1
      · rw [if_pos ho] at this
        rw [if_pos (by omega)]
        exact fit_b this
      · rw [if_neg ho] at this
        rw [if_neg (by omega)]
        exact fit_e this
    · rw [letAt_app_r (by omega) (by omega), s1, letAt_rep1 (by omega)] at this
      rw [if_pos (by omega)]
      exact fit_b this
theorem Parts.k7 (h : Parts l d i e c lp pos) (hk : knd l i = 7) : (c = 3 ∨ c = 4) ∧ ∀ k, k < c → (if k + 1 = c then knd l (pos k) = 0 else isExpr (knd l (pos k)) = true) := by
  have hs : ∀ n x, shape 7 n x = if x = 4 then { data := #[101, 101, 101, 98] } else { data := #[101, 101, 98] } := fun _ _ => rfl
  have hn := h.num
  rw [hk, hs] at hn
  by_cases h4 : (c : Int) = 4
  · obtain rfl : c = 4 := by omega
    refine ⟨.inr rfl, fun k hkc => ?_⟩
    have := h.fit k hkc
    rw [hk, hs, if_pos h4] at this
    have : k = 0 ∨ k = 1 ∨ k = 2 ∨ k = 3 := by omega
    rcases this with rfl | rfl | rfl | rfl
    · exact fit_e this
    · exact fit_e this
    · exact fit_e this
    · exact fit_b this
  · rw [if_neg h4] at hn
    obtain rfl : c = 3 := hn.symm
    refine ⟨.inl rfl, fun k hkc => ?_⟩
    have := h.fit k hkc
    rw [hk, hs, if_neg h4] at this
    have : k = 0 ∨ k = 1 ∨ k = 2 := by omega
    rcases this with rfl | rfl | rfl
    · exact fit_e this
    · exact fit_e this
    · exact fit_b this
theorem Parts.k10 (h : Parts l d i e c lp pos) (hk : knd l i = 10) : c = 1 ∧ knd l (pos 0) = 18 := by
  have hs : ∀ n x, shape 10 n x = { data := #[99] } := fun _ _ => rfl
  have hn := h.num
  rw [hk, hs] at hn
  obtain rfl : c = 1 := hn.symm
  have := h.fit 0 (by omega)
  rw [hk, hs] at this
  exact ⟨rfl, fit_c this⟩
theorem Parts.k17 (h : Parts l d i e c lp pos) (hk : knd l i = 17 ∨ knd l i = 21 ∨ knd l i = 22 ∨ knd l i = 23) : c = 2 ∧ isExpr (knd l (pos 0)) = true ∧ isExpr (knd l (pos 1)) = true := by
  have hs : shape (knd l i) (l.getD i nd0).n (c : Int) = { data := #[101, 101] } := by rcases hk with hk | hk | hk | hk <;> rw [hk] <;> rfl
  have hn := h.num
  rw [hs] at hn
  obtain rfl : c = 2 := hn.symm
  have h0 := h.fit 0 (by omega)
  have h1 := h.fit 1 (by omega)
  rw [hs] at h0 h1
  exact ⟨rfl, fit_e h0, fit_e h1⟩
theorem Parts.k18 (h : Parts l d i e c lp pos) (hk : knd l i = 18) : 1 ≤ c ∧ c ≤ 51 ∧ ∀ k, k < c → isExpr (knd l (pos k)) = true := by
  have hs : ∀ n x, shape 18 n x = if x < 1 ∨ 51 < x then { data := #[63] } else rep { data := #[101] } x.toNat := fun _ _ => rfl
  have hm := h.mark
  rw [hk, hs] at hm
  by_cases h5 : (c : Int) < 1 ∨ 51 < (c : Int)
  · rw [if_pos h5] at hm; exact no_mark hm
  · refine ⟨by omega, by omega, fun k hkc => ?_⟩
    have := h.fit k hkc
    rw [hk, hs, if_neg h5, Int.toNat_natCast, letAt_rep1 hkc] at this
    exact fit_e this
theorem Parts.k20 (h : Parts l d i e c lp pos) (hk : knd l i = 20) : c % 2 = 0 ∧ ∀ k, k < c → isExpr (knd l (pos k)) = true := by
  have hs : ∀ n x, shape 20 n x = if ¬ x % 2 = 0 then { data := #[63] } else rep { data := #[101] } x.toNat := fun _ _ => rfl
  have hm := h.mark
  rw [hk, hs] at hm
  by_cases h5 : ¬ (c : Int) % 2 = 0
  · rw [if_pos h5] at hm; exact no_mark hm
  · refine ⟨by omega, fun k hkc => ?_⟩
    have := h.fit k hkc
    rw [hk, hs, if_neg h5, Int.toNat_natCast, letAt_rep1 hkc] at this
    exact fit_e this
theorem Parts.k24 (h : Parts l d i e c lp pos) (hk : knd l i = 24 ∨ knd l i = 25) : c = 1 ∧ isExpr (knd l (pos 0)) = true := by
  have hs : shape (knd l i) (l.getD i nd0).n (c : Int) = { data := #[101] } := by rcases hk with hk | hk <;> rw [hk] <;> rfl
  have hn := h.num
  rw [hs] at hn
  obtain rfl : c = 1 := hn.symm
  have := h.fit 0 (by omega)
  rw [hs] at this
  exact ⟨rfl, fit_e this⟩
theorem Parts.names (h : Parts l d i e c lp pos) : least (knd l i) ≤ (l.getD i nd0).names.length ∧ (l.getD i nd0).names.length ≤ most (knd l i) ∧ ∀ j, j < (l.getD i nd0).names.length → 0 < ((l.getD i nd0).names.getD j []).length := by
  have hf := h.flds
  unfold fieldsB at hf
  simp only [Bool.and_eq_true, decide_eq_true_eq, List.all_eq_true] at hf
  refine ⟨hf.1, hf.2.1, fun j hj => ?_⟩
  have := hf.2.2.1 _ (List.getElem_mem hj)
  unfold isName at this
  simp only [Bool.and_eq_true, decide_eq_true_eq] at this
  rw [List.getD_eq_getElem?_getD, List.getElem?_eq_getElem hj]
  exact this.1
theorem Parts.num21 (h : Parts l d i e c lp pos) (hk : knd l i = 21) : 0 ≤ (l.getD i nd0).n ∧ (l.getD i nd0).n ≤ 11 := by
  have hf := h.flds
  unfold fieldsB at hf
  simp only [Bool.and_eq_true, decide_eq_true_eq] at hf
  have := hf.2.2.2.2
  rw [hk] at this
  unfold numOk at this
  simpa using this
theorem num_of (hE : endAt l d i = some e) (hg : vt.good l d i lp = true) (hd : d ≤ 200) (hk : knd l i = 21) : 0 ≤ (l.getD i nd0).n ∧ (l.getD i nd0).n ≤ 11 := by
  obtain ⟨d, rfl⟩ := endAt_pos hE
  obtain ⟨c, pos, h⟩ := parts_of (by omega) hE hg
  exact h.num21 hk
end
def Says (l : List Nd) (f : Nat) (ag : Value → Array Value) (s : ByteArray) : Prop :=
  ∀ (b off cap : Nat) (w : World), RdN w (some ⟨b, off, none⟩) l → Calls Try.prog f (ag (.slice (some ⟨b, off, none⟩) l.length cap)) w fun r w' => r = .returned (.string s) ∧ Below w.heap.size w w'
def at2 (i lv : Nat) : Value → Array Value := fun t => #[t, .int .i64 (i : Int), .int .i64 (lv : Int)]
def RdP (w : World) (ka : Option Addr) (ps : Nat → Nat) (m : Nat) : Prop := ∀ k, k < m → ∃ b off, ka = some ⟨b, off, none⟩ ∧ w.cell? ⟨b, off + k, none⟩ = some (.int .i64 (ps k : Int))
theorem RdP.below {w w' : World} {ka : Option Addr} {ps : Nat → Nat} {m : Nat} (h : RdP w ka ps m) (hb : Below w.heap.size w w') : RdP w' ka ps m := fun k hk => by
  obtain ⟨b, off, e, hc⟩ := h k hk
  exact ⟨b, off, e, (hb.cell (p := ⟨b, off + k, none⟩) (World.block_lt_of_cell? _ _ hc)).trans hc⟩
theorem kind_at {w : World} {b off i : Nat} {l : List Nd} (h : RdN w (some ⟨b, off, none⟩) l) (hi : i < l.length) : w.cell? ⟨b, off + i * 5, none⟩ = some (.int .i64 (knd l i)) := by
  obtain ⟨b', off', ut, un, e, c0, _⟩ := h i hi
  simp only [Option.some.injEq, Addr.mk.injEq, and_true] at e
  obtain ⟨rfl, rfl⟩ := e
  exact c0
def headP (kd : Int) : Bool := (kd != 16) && ((kd != 17) && (kd != 18))
set_option maxRecDepth 100000 in
set_option maxHeartbeats 1000000 in
theorem head_any {l : List Nd} {i lv : Nat} {s : ByteArray} (hi : i < l.length) (_hn : l.length ≤ 6000) (hs : s.size ≤ 1000000000) (H : Says l 77 (at2 i lv) s) : Says l 85 (at2 i lv) (paren s (headP (knd l i))) := by
  intro b off cap w hr
  have c0 := kind_at hr hi
  have CS : Hid (Calls Try.prog 77 #[.slice (some ⟨b, off, none⟩) l.length cap, .int .i64 (i : Int), .int .i64 (lv : Int)] w fun r w' => r = .returned (.string s) ∧ Below w.heap.size w w') := H b off cap w hr
  have i1 : (i : Int) < (l.length : Int) := by omega
  unfold at2
  generalize l.length = n at i1 _hn CS
  generalize knd l i = kd at c0
  clear hr H hi
  unfold headP
  by_cases k1 : kd = 16
  · subst k1
    go_enter Try.func85, Try.ntmps85
    go_wp2_with (first | (go_at_call 87; refine (l3paren_any _ _ _ hs).mono ?_; rintro r w2 ⟨rfl, hw⟩; replace hw := hw.symm; subst hw) | (go_at_call 77; refine CS.out.mono ?_; rintro r w1 ⟨rfl, hb⟩))
    go_ret
    exact ⟨rfl, hb⟩
  by_cases k2 : kd = 17
  · subst k2
    go_enter Try.func85, Try.ntmps85
    go_wp2_with (first | (go_at_call 87; refine (l3paren_any _ _ _ hs).mono ?_; rintro r w2 ⟨rfl, hw⟩; replace hw := hw.symm; subst hw) | (go_at_call 77; refine CS.out.mono ?_; rintro r w1 ⟨rfl, hb⟩))
    go_ret
    exact ⟨rfl, hb⟩
  have e1 : (kd != 16) = true := bne_iff_ne.mpr k1
  have e2 : (kd != 17) = true := bne_iff_ne.mpr k2
  rw [e1, e2]
  go_enter Try.func85, Try.ntmps85
  go_wp2_with (first | (go_at_call 87; refine (l3paren_any _ _ _ hs).mono ?_; rintro r w2 ⟨rfl, hw⟩; replace hw := hw.symm; subst hw) | (go_at_call 77; refine CS.out.mono ?_; rintro r w1 ⟨rfl, hb⟩))
  go_ret
  exact ⟨rfl, hb⟩
def joinS (ss : Nat → ByteArray) : Nat → ByteArray
  | 0 => { data := #[] }
  | k + 1 => (if 0 < k then joinS ss k ++ { data := #[44, 32] } else joinS ss k) ++ ss k
def linesS (ss : Nat → ByteArray) (lv : Nat) : Nat → ByteArray
  | 0 => { data := #[] }
  | k + 1 => linesS ss lv k ++ ((ind lv ++ ss k) ++ { data := #[59, 10] })
def room (ss : Nat → ByteArray) : Nat → Nat
  | 0 => 0
  | k + 1 => room ss k + (ss k).size + 1000
theorem joinS_size (ss : Nat → ByteArray) : ∀ k, (joinS ss k).size ≤ room ss k
  | 0 => Nat.zero_le _
  | k + 1 => by
    have ih := joinS_size ss k
    rw [joinS, ByteArray.size_append, room]
    by_cases hk : 0 < k
    · rw [if_pos hk, ByteArray.size_append]
      have : (ByteArray.mk #[44, 32]).size = 2 := rfl
      omega
    · rw [if_neg hk]; omega
theorem ind_size (lv : Nat) : (ind lv).size = lv * 2 := rep_size _ _
theorem linesS_size (ss : Nat → ByteArray) (lv : Nat) (h : lv ≤ 400) : ∀ k, (linesS ss lv k).size ≤ room ss k
  | 0 => Nat.zero_le _
  | k + 1 => by
    have ih := linesS_size ss lv h k
    rw [linesS, ByteArray.size_append, ByteArray.size_append, ByteArray.size_append, room, ind_size]
    have : (ByteArray.mk #[59, 10]).size = 2 := rfl
    omega
theorem room_le (ss : Nat → ByteArray) {k m : Nat} (h : k ≤ m) : room ss k ≤ room ss m := by
  induction m with
  | zero => obtain rfl : k = 0 := by omega
            exact Nat.le_refl _
  | succ m ih =>
    by_cases hk : k = m + 1
    · rw [hk]; exact Nat.le_refl _
    · rw [room]
      have := ih (by omega)
      omega
set_option maxRecDepth 100000 in
set_option maxHeartbeats 2000000 in
theorem exprs_any {l : List Nd} {lv m : Nat} {ps : Nat → Nat} {ss : Nat → ByteArray} (hm : m ≤ 6000) (hz : room ss m ≤ 1000000000) (H : ∀ k, k < m → Says l 77 (at2 (ps k) lv) (ss k)) (b off cap : Nat) (w : World) (hr : RdN w (some ⟨b, off, none⟩) l) (ka : Option Addr) (kc : Nat) (hp : RdP w ka ps m) :
    Calls Try.prog 76 #[.slice (some ⟨b, off, none⟩) l.length cap, .slice ka m kc, .int .i64 (lv : Int)] w fun r w' => r = .returned (.string (joinS ss m)) ∧ Below w.heap.size w w' := by
  have HH : Hid (∀ k, k < m → Says l 77 (at2 (ps k) lv) (ss k)) := H
  have HR : Hid (RdN w (some ⟨b, off, none⟩) l) := hr
  have HP : Hid (RdP w ka ps m) := hp
  obtain ⟨n, hn⟩ : ∃ n, n = l.length := ⟨_, rfl⟩
  have HN : Hid (n = l.length) := hn
  rw [← hn]
  clear H hr hp hn
  go_enter Try.func76, Try.ntmps76
  go_wp2
  go_loopw [7, 8] (fun p q wr => ∃ (k : Nat) (s : ByteArray), k ≤ m ∧ p = .string s ∧ q = .int .i64 (k : Int) ∧ Hid (s = joinS ss k) ∧ Hid (Below w.heap.size w wr)) (fun _ q _ => m - (intOf q).toNat)
  case atStart => exact ⟨0, _, Nat.zero_le _, rfl, rfl, rfl, Below.refl _ _⟩
  case round =>
    obtain ⟨k, s, hk, rfl, rfl, HK, HB⟩ := hrel
    by_cases hlt : k < m
    · obtain ⟨kb, ko, rfl, hcu⟩ := (HP.out.below HB.out) k hlt
      have CS := HH.out k hlt b off cap wr (HR.out.below HB.out)
      rw [← HN.out] at CS
      have CS : Hid (Calls Try.prog 77 #[.slice (some ⟨b, off, none⟩) n cap, .int .i64 (ps k : Int), .int .i64 (lv : Int)] wr fun r w' => r = .returned (.string (ss k)) ∧ Below wr.heap.size wr w') := CS
      have hsz := joinS_size ss k
      have h1 := room_le ss (show k + 1 ≤ m by omega)
      rw [room] at h1
      rw [← HK.out] at hsz
      have hm1 : ¬ 9223372036854775807 < s.size + 2 := by omega
      have hm2 : ¬ 9223372036854775807 < s.size + (ss k).size := by omega
      have hm3 : ¬ 9223372036854775807 < s.size + 2 + (ss k).size := by omega
      have hnx : Hid (∀ t, t = (if 0 < k then s ++ { data := #[44, 32] } else s) ++ ss k → t = joinS ss (k + 1)) := fun t ht => by rw [ht, joinS, ← HK.out]
      generalize ss k = tx at CS hm2 hm3 hnx
      generalize ps k = px at CS hcu
      have i1 : (k : Int) < (m : Int) := by omega
      clear hsz h1
      by_cases hk0 : 0 < k
      · have d0 : decide ((0 : Int) < (k : Int)) = true := by simp; omega
        go_wp2_with (go_at_call 77; refine CS.out.mono ?_; rintro r w1 ⟨rfl, hb⟩; have HB1 : Hid (Below w.heap.size w w1) := HB.out.trans (hb.mono HB.out.size); clear hb)
        refine ⟨⟨k + 1, _, by omega, rfl, by go_num, by show _ = _; exact hnx.out _ (by rw [if_pos hk0]), HB1.out⟩, by simp [intOf]; omega⟩
      · have d0 : decide ((0 : Int) < (k : Int)) = false := by simp; omega
        go_wp2_with (go_at_call 77; refine CS.out.mono ?_; rintro r w1 ⟨rfl, hb⟩; have HB1 : Hid (Below w.heap.size w w1) := HB.out.trans (hb.mono HB.out.size); clear hb)
        refine ⟨⟨k + 1, _, by omega, rfl, by go_num, by show _ = _; exact hnx.out _ (by rw [if_neg hk0]), HB1.out⟩, by simp [intOf]; omega⟩
    · have hkn : k = m := by omega
      subst hkn
      go_wp2
      go_returns
      exact ⟨ret_s HK.out, HB.out⟩
theorem rdp_own {w : World} {base m kc : Nat} {ka : Option Addr} {ks : List Nat} {ps : Nat → Nat} (h : w.ownsRow base 3 1 (.slice ka m kc) m (icells ks)) (hm : ks.length = m) (hp : ∀ k, k < m → ks.getD k 0 = ps k) : RdP w ka ps m := fun k hk => by
  rcases h.2 with ⟨e, e0⟩ | ⟨g, cap, cur, e, hg, hh, hnc, _, hs, ht⟩
  · omega
  · simp only [Value.slice.injEq] at e
    obtain ⟨rfl, _, rfl⟩ := e
    refine ⟨g, 0, rfl, ?_⟩
    rw [Nat.zero_add, World.ownsRow.cellAt h k (by omega), icells, List.getElem?_map, List.getElem?_eq_getElem (by omega), ← hp k hk, List.getD_eq_getElem?_getD, List.getElem?_eq_getElem (by omega)]
    rfl
theorem kids_say {l : List Nd} {d i e c : Nat} {lp : Bool} {pos : Nat → Nat} (hP : Parts l d i e c lp pos) (hE : endAt l (d + 1) i = some e) (hd : d + 1 ≤ 200) (hn : l.length ≤ 6000) (b off cap : Nat) (w : World) (hr : RdN w (some ⟨b, off, none⟩) l) :
    Calls Try.prog 63 #[.slice (some ⟨b, off, none⟩) l.length cap, .int .i64 (i : Int)] w fun x w' => ∃ ka kc, x = .returned (.slice ka c kc) ∧ RdP w' ka pos c ∧ Below w.heap.size w w' ∧ c ≤ kc := by
  refine (l3kids_any (some ⟨b, off, none⟩) l.length cap l w rfl hr hn (d + 1) i e hd hE).mono ?_
  rintro x w' ⟨ka, kc, rfl, ho, hb⟩
  have hl := hP.len
  rw [hl] at ho
  refine ⟨ka, kc, by rw [hl], rdp_own ho hl hP.at_, hb, ?_⟩
  rcases ho.2 with ⟨e, e0⟩ | ⟨g, cap', cur, e, hg, hh, hnc, _⟩
  · omega
  · simp only [Value.slice.injEq] at e
    omega
set_option maxRecDepth 100000 in
set_option maxHeartbeats 2000000 in
theorem block_any {l : List Nd} {d i e c lv : Nat} {lp : Bool} {pos : Nat → Nat} {ss : Nat → ByteArray} (hP : Parts l d i e c lp pos) (hE : endAt l (d + 1) i = some e) (hd : d + 1 ≤ 200) (hn : l.length ≤ 6000) (hlv : lv ≤ 400) (hz : room ss c ≤ 1000000000)
    (H : ∀ k, k < c → Says l 65 (at2 (pos k) lv) (ss k)) : Says l 51 (at2 i lv) (linesS ss lv c) := by
  intro b off cap w hr
  have CK : Hid (Calls Try.prog 63 #[.slice (some ⟨b, off, none⟩) l.length cap, .int .i64 (i : Int)] w fun x w' => ∃ ka kc, x = .returned (.slice ka c kc) ∧ RdP w' ka pos c ∧ Below w.heap.size w w' ∧ c ≤ kc) := kids_say hP hE hd hn b off cap w hr
  have HH : Hid (∀ k, k < c → Says l 65 (at2 (pos k) lv) (ss k)) := H
  have HR : Hid (RdN w (some ⟨b, off, none⟩) l) := hr
  have hc := hP.few
  have hi := hP.low
  obtain ⟨n, hnn⟩ : ∃ n, n = l.length := ⟨_, rfl⟩
  have HN : Hid (n = l.length) := hnn
  unfold at2
  rw [← hnn] at CK hn hc hi ⊢
  have hli := ind_size lv
  generalize hiv : ind lv = iv at hli
  have HIV : Hid (iv = ind lv) := hiv.symm
  clear H hr hP hE hnn hiv
  go_enter Try.func51, Try.ntmps51
  go_wp2_with (go_at_call 63; refine CK.out.mono ?_; rintro r w1 ⟨ka, kc, rfl, hp, hb, hkc⟩; have HP : Hid (RdP w1 ka pos c) := hp; have HB1 : Hid (Below w.heap.size w w1) := hb; clear hp hb)
  go_loopw [8, 9] (fun p q wr => ∃ (k : Nat) (s : ByteArray), k ≤ c ∧ p = .string s ∧ q = .int .i64 (k : Int) ∧ Hid (s = linesS ss lv k) ∧ Hid (Below w1.heap.size w1 wr)) (fun _ q _ => c - (intOf q).toNat)
  case atStart => exact ⟨0, _, Nat.zero_le _, rfl, rfl, rfl, Below.refl _ _⟩
  case round =>
    obtain ⟨k, s, hk, rfl, rfl, HK, HB⟩ := hrel
    by_cases hlt : k < c
    · obtain ⟨kb, ko, rfl, hcu⟩ := (HP.out.below HB.out) k hlt
      have HBw : Hid (Below w.heap.size w wr) := HB1.out.trans (HB.out.mono HB1.out.size)
      have CL : Hid (∀ W, Below wr.heap.size wr W → Calls Try.prog 65 #[.slice (some ⟨b, off, none⟩) n cap, .int .i64 (pos k : Int), .int .i64 (lv : Int)] W fun r w' => r = .returned (.string (ss k)) ∧ Below wr.heap.size wr w') := fun W hW => by
        have := HH.out k hlt b off cap W ((HR.out.below HBw.out).below hW)
        rw [← HN.out] at this
        exact this.mono (fun r w' h => ⟨h.1, hW.trans (h.2.mono hW.size)⟩)
      have CI : Hid (∀ W, Calls Try.prog 64 #[.int .i64 (lv : Int)] W fun x w' => x = .returned (.string iv) ∧ w' = W) := fun W => by
        rw [HIV.out]; exact l3indent_any lv W (by omega)
      have hsz := linesS_size ss lv hlv k
      have h1 := room_le ss (show k + 1 ≤ c by omega)
      rw [room] at h1
      rw [← HK.out] at hsz
      have hm1 : ¬ 9223372036854775807 < iv.size + (ss k).size := by omega
      have hm2 : ¬ 9223372036854775807 < iv.size + (ss k).size + 2 := by omega
      have hm3 : ¬ 9223372036854775807 < s.size + (iv.size + (ss k).size + 2) := by omega
      have hnx : Hid (∀ t, t = s ++ ((iv ++ ss k) ++ { data := #[59, 10] }) → t = linesS ss lv (k + 1)) := fun t ht => by rw [ht, linesS, ← HK.out, ← HIV.out]
      generalize ss k = tx at CL hm1 hm2 hm3 hnx
      generalize pos k = px at CL hcu
      have i1 : (k : Int) < (c : Int) := by omega
      clear hsz h1 hli
      have HC : Hid (∀ W, Below wr.heap.size wr W → W.cell? ⟨kb, ko + k, none⟩ = some (.int .i64 (px : Int))) := fun W hW => (hW.cell (p := ⟨kb, ko + k, none⟩) (World.block_lt_of_cell? _ _ hcu)).trans hcu
      go_wp2_with fail
      go_region_held3 (fun W => W.cell? ⟨kb, ko + k, none⟩ = some (.int .i64 (px : Int))) (first | exact HC.out _ HL.out | exact HC.out _ (by repeat (first | exact Below.refl _ _ | refine Below.drew ?_ | refine bel_drewN ?_ _))) (first | (go_at_call 64; refine (CI.out _).mono ?_; rintro r w2 ⟨rfl, hw⟩; replace hw := hw.symm; subst hw) | (go_at_call 65; refine (CL.out _ (by repeat (first | exact Below.refl _ _ | refine Below.drew ?_ | refine bel_drewN ?_ _))).mono ?_; rintro r w3 ⟨rfl, hb⟩; have HL : Hid (Below wr.heap.size wr w3) := hb; clear hb))
      go_wp2
      refine ⟨⟨k + 1, _, by omega, rfl, by go_num, by show _ = _; exact hnx.out _ rfl, HB.out.trans (HL.out.mono HB.out.size)⟩, by simp [intOf]; omega⟩
    · have hkn : k = c := by omega
      subst hkn
      go_wp2
      go_returns
      exact ⟨ret_s HK.out, HB1.out.trans (HB.out.mono HB1.out.size)⟩
end Go.Proofs.Ytepbddfpdlapbaa.vt
