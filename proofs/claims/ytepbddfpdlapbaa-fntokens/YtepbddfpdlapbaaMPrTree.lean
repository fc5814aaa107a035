import Derived.Lib.ConvBytes
import Derived.Test.YtepbddfpdlapbaaMPrShowE
import Derived.Test.YtepbddfpdlapbaaMPrShowF
import Derived.Test.YtepbddfpdlapbaaMPrLineC
namespace Go.Proofs.Ytepbddfpdlapbaa.vt
open Go.RowKit Go.Proofs.Ytepbddfpdlapbaa.bts Go.Proofs.Ytepbddfpdlapbaa.nod Go.Proofs.Ytepbddfpdlapbaa.lex
def Short (l : List Nd) : Prop := ∀ i, i < l.length → (l.getD i nd0).text.length ≤ 1000 ∧ ∀ j, j < (l.getD i nd0).names.length → ((l.getD i nd0).names.getD j []).length ≤ 1000
def Fits (s : ByteArray) (i e : Nat) : Prop := s.size + 1000 ≤ (e - i) * 100000
def Said (l : List Nd) (lv i e : Nat) : Prop :=
  (isExpr (knd l i) = true → ∃ s, Fits s i e ∧ Says l 77 (at2 i lv) s) ∧ (isStat (knd l i) = true → ∃ s, Fits s i e ∧ Says l 65 (at2 i lv) s) ∧ (knd l i = 0 → ∃ s, Fits s i e ∧ Says l 51 (at2 i lv) s)
theorem bsz (a : Array UInt8) : (ByteArray.mk a).size = a.size := rfl
theorem choose_text {p : Nat → ByteArray → Prop} {m : Nat} (h : ∀ k, k < m → ∃ s, p k s) : ∃ ss : Nat → ByteArray, ∀ k, k < m → p k (ss k) := by
  induction m with
  | zero => exact ⟨fun _ => default, fun k hk => absurd hk (by omega)⟩
  | succ m ih =>
    obtain ⟨ss, hs⟩ := ih (fun k hk => h k (by omega))
    obtain ⟨s, hs'⟩ := h m (by omega)
    refine ⟨fun k => if k = m then s else ss k, fun k hk => ?_⟩
    by_cases e : k = m
    · simp only [e, if_true]; exact hs'
    · simp only [e, if_false]; exact hs k (by omega)
section
variable {l : List Nd} {d i e c lv : Nat} {lp : Bool} {pos : Nat → Nat}
theorem Parts.mono (h : Parts l d i e c lp pos) {a b : Nat} (hab : a ≤ b) (hb : b ≤ c) : pos a ≤ pos b := by
  induction b with
  | zero => obtain rfl : a = 0 := by omega
            exact Nat.le_refl _
  | succ b ih =>
    by_cases e : a = b + 1
    · rw [e]; exact Nat.le_refl _
    · have := ih (by omega) (by omega)
      have := (endAt_bd (h.ends b (by omega))).1
      omega
theorem Parts.top (h : Parts l d i e c lp pos) : i + 1 ≤ e := by
  have := h.mono (Nat.zero_le c) (Nat.le_refl _)
  rw [h.first, h.last] at this
  exact this
theorem room_of (h : Parts l d i e c lp pos) {ss : Nat → ByteArray} {a m : Nat} (ham : a + m ≤ c) (hs : ∀ k, k < m → Fits (ss k) (pos (a + k)) (pos (a + k + 1))) : room ss m ≤ (pos (a + m) - pos a) * 100000 := by
  induction m with
  | zero => exact Nat.zero_le _
  | succ m ih =>
    have h1 := ih (by omega) (fun k hk => hs k (by omega))
    have h2 := hs m (by omega)
    unfold Fits at h2
    have h3 := h.mono (show a ≤ a + m by omega) (by omega)
    have h4 := h.mono (show a + m ≤ a + m + 1 by omega) (by omega)
    rw [room, show a + (m + 1) = a + m + 1 by omega]
    omega
theorem exprs_of (h : Parts l d i e c lp pos) (KI : ∀ k, k < c → Said l lv (pos k) (pos (k + 1))) {a m : Nat} (ham : a + m ≤ c) (hx : ∀ k, k < m → isExpr (knd l (pos (a + k))) = true) :
    ∃ ss : Nat → ByteArray, (∀ k, k < m → Says l 77 (at2 (pos (a + k)) lv) (ss k)) ∧ room ss m ≤ (pos (a + m) - pos a) * 100000 := by
  obtain ⟨ss, hs⟩ := choose_text (m := m) (p := fun k s => Fits s (pos (a + k)) (pos (a + k + 1)) ∧ Says l 77 (at2 (pos (a + k)) lv) s) (fun k hk => (KI (a + k) (by omega)).1 (hx k hk))
  exact ⟨ss, fun k hk => (hs k hk).2, room_of h ham (fun k hk => (hs k hk).1)⟩
theorem Parts.left (h : Parts l d i e c lp pos) {a b : Nat} (hab : a ≤ b) (hb : b ≤ c) : (pos b - pos a) * 100000 + (pos a - (i + 1)) * 100000 + (e - pos b) * 100000 + 100000 ≤ (e - i) * 100000 ∧ pos a ≤ pos b ∧ i + 1 ≤ pos a ∧ pos b ≤ e := by
  have h1 := h.mono (Nat.zero_le a) (by omega)
  have h2 := h.mono hab hb
  have h3 := h.mono hb (Nat.le_refl _)
  rw [h.first] at h1
  rw [h.last] at h3
  omega
theorem Parts.far (_h : Parts l d i e c lp pos) (hE : endAt l (d + 1) i = some e) (hn : l.length ≤ 6000) : (e - i) * 100000 ≤ 600000000 := by
  have := (endAt_bd hE).2
  omega
theorem join_names (hS : Short l) (h : Parts l d i e c lp pos) (hm : (l.getD i nd0).names.length ≤ 50) : (joinK (l.getD i nd0).names (l.getD i nd0).names.length).size ≤ 50100 := by
  have h1 := joinK_size (l.getD i nd0).names _ (Nat.le_refl _)
  have hk : ∀ k, k ≤ (l.getD i nd0).names.length → lens (l.getD i nd0).names k ≤ k * 1000 := fun k => by
    induction k with
    | zero => intro _; simp [lens]
    | succ k ih =>
      intro hk
      rw [lens_succ (by omega)]
      have := ih (by omega)
      have := (hS i h.low).2 k (by omega)
      omega
  have := hk _ (Nat.le_refl _)
  omega
theorem name_size (hS : Short l) (h : Parts l d i e c lp pos) (h1 : 1 ≤ (l.getD i nd0).names.length) : (strOfNums ((l.getD i nd0).names.getD 0 [])).size ≤ 1000 := by
  rw [strOfNums_size]
  exact (hS i h.low).2 0 (by omega)
theorem said_expr (hS : Short l) (hP : Parts l d i e c lp pos) (hE : endAt l (d + 1) i = some e) (hd : d + 1 ≤ 200) (hn : l.length ≤ 6000) (hlv : lv ≤ 400) (KI : ∀ k, k < c → Said l lv (pos k) (pos (k + 1))) (KB : ∀ k, k < c → Said l (lv + 1) (pos k) (pos (k + 1))) (hk : isExpr (knd l i) = true) : ∃ s, Fits s i e ∧ Says l 77 (at2 i lv) s := by
  have hk' : 11 ≤ knd l i ∧ knd l i ≤ 25 := by unfold isExpr at hk; simpa using hk
  have ht := hP.top
  have hF := hP.far hE hn
  have own : ∀ s : ByteArray, s.size ≤ 90000 → Fits s i e := fun s hs => by unfold Fits; omega
  have e11 : knd l i = 11 ∨ knd l i = 12 ∨ knd l i = 13 ∨ knd l i = 14 ∨ knd l i = 15 ∨ knd l i = 16 ∨ knd l i = 17 ∨ knd l i = 18 ∨ knd l i = 19 ∨ knd l i = 20 ∨ (knd l i = 21 ∨ knd l i = 22 ∨ knd l i = 23) ∨ knd l i = 24 ∨ knd l i = 25 := by omega
  rcases e11 with h | h | h | h | h | h | h | h | h | h | h | h | h
  · exact ⟨_, own _ (by decide), show_nil hP hE hd hn hlv h⟩
  · exact ⟨_, own _ (by decide), show_true hP hE hd hn hlv h⟩
  · exact ⟨_, own _ (by decide), show_false hP hE hd hn hlv h⟩
  · by_cases hneg : (l.getD i nd0).n < 0
    · obtain ⟨s, hs, HX⟩ := hex_ex (l.getD i nd0).n
      exact ⟨s, own _ (by omega), show_neg hP hE hd hn hlv h hneg HX⟩
    · obtain ⟨zs, hz, _, _, HX⟩ := fmt_wide (l.getD i nd0).n (by omega)
      exact ⟨_, own _ (by rw [strOfNums_size]; omega), show_pos hP hE hd hn hlv h (by omega) HX⟩
  · refine ⟨_, own _ ?_, show_text hP hE hd hn hlv h⟩
    rw [strOfNums_size]
    have := quo.quote_len (l.getD i nd0).text
    have := (hS i hP.low).1
    omega
  · have hnm := hP.names
    rw [h] at hnm
    have e1 : least 16 = 1 := rfl
    exact ⟨_, own _ (by have := name_size hS hP (by omega); omega), show_name hP hE hd hn hlv h⟩
  · obtain ⟨hc, x0, x1⟩ := hP.k17 (by omega)
    obtain ⟨s0, f0, S0⟩ := (KI 0 (by omega)).1 x0
    obtain ⟨s1, f1, S1⟩ := (KI 1 (by omega)).1 x1
    have hl := hP.left (a := 0) (b := 1) (by omega) (by omega)
    have hr := hP.left (a := 1) (b := 2) (by omega) (by omega)
    have h0 : pos 0 < l.length := by have := endAt_bd (hP.ends 0 (by omega)); omega
    have h1 : pos 1 < l.length := by have := endAt_bd (hP.ends 1 (by omega)); omega
    unfold Fits at f0 f1
    simp only [Nat.reduceAdd] at f0 f1
    have H := head_any h0 hn (by omega) S0
    have hp := paren_size s0 (headP (knd l (pos 0)))
    by_cases hkey : knd l (pos 1) = 15
    · cases hin : isName (l.getD (pos 1) nd0).text with
      | true =>
        refine ⟨_, ?_, show_dot hP hE hd hn hlv h hkey hin (by omega) H⟩
        unfold Fits
        have := (hS (pos 1) h1).1
        simp only [ByteArray.size_append, bsz, List.size_toArray, List.length_cons, List.length_nil, strOfNums_size]
        omega
      | false =>
        refine ⟨_, ?_, show_at15 hP hE hd hn hlv h hkey hin (by omega) (by omega) H S1⟩
        unfold Fits
        simp only [ByteArray.size_append, bsz, List.size_toArray, List.length_cons, List.length_nil]
        omega
    · refine ⟨_, ?_, show_at hP hE hd hn hlv h hkey (by omega) (by omega) H S1⟩
      unfold Fits
      simp only [ByteArray.size_append, bsz, List.size_toArray, List.length_cons, List.length_nil]
      omega
  · obtain ⟨hc1, hc51, hx⟩ := hP.k18 h
    obtain ⟨s0, f0, S0⟩ := (KI 0 (by omega)).1 (hx 0 (by omega))
    have h0 : pos 0 < l.length := by have := endAt_bd (hP.ends 0 (by omega)); omega
    have hl := hP.left (a := 0) (b := 1) (by omega) (by omega)
    unfold Fits at f0
    simp only [Nat.reduceAdd] at f0
    have H := head_any h0 hn (by omega) S0
    have hp := paren_size s0 (headP (knd l (pos 0)))
    obtain ⟨ss, hs, hz⟩ := exprs_of hP KI (a := 1) (m := c - 1) (by omega) (fun k hk => hx _ (by omega))
    have hr := hP.left (a := 1) (b := 1 + (c - 1)) (by omega) (by omega)
    have hj := joinS_size ss (c - 1)
    by_cases hc : c = 1
    · refine ⟨_, ?_, show_call0 (ss := ss) hP hE hd hn hlv h hc (by omega) (Nat.zero_le _) H (fun k hk => absurd hk (by omega))⟩
      unfold Fits
      simp only [ByteArray.size_append, bsz, List.size_toArray, List.length_cons, List.length_nil, joinS]
      omega
    · refine ⟨_, ?_, show_call (ss := ss) hP hE hd hn hlv h (by omega) (by omega) (by omega) H (fun k hk => by rw [Nat.add_comm]; exact hs k hk)⟩
      unfold Fits
      simp only [ByteArray.size_append, bsz, List.size_toArray, List.length_cons, List.length_nil]
      omega
  · obtain ⟨hc, x0⟩ := hP.k3 (by omega)
    obtain ⟨s0, f0, S0⟩ := (KB 0 (by omega)).2.2 x0
    have hl := hP.left (a := 0) (b := 1) (by omega) (by omega)
    unfold Fits at f0
    simp only [Nat.reduceAdd] at f0
    have hnm := hP.names
    rw [h] at hnm
    have e2 : most 19 = 50 := rfl
    have hj := join_names hS hP (by omega)
    refine ⟨_, ?_, show_func hP hE hd hn hlv h (by omega) S0⟩
    unfold Fits
    simp only [ByteArray.size_append, bsz, List.size_toArray, List.length_cons, List.length_nil, ind_size]
    omega
  · obtain ⟨hc2, hx⟩ := hP.k20 h
    obtain ⟨ss, hs, hz⟩ := exprs_of hP KI (a := 0) (m := c) (by omega) (fun k hk => by rw [Nat.zero_add]; exact hx _ hk)
    have hr := hP.left (a := 0) (b := 0 + c) (by omega) (by omega)
    have hc : c = c / 2 * 2 := by omega
    have htb := tableS_size l pos ss (fun k => by
      by_cases hk : pos k < l.length
      · exact (hS _ hk).1
      · rw [List.getD_eq_getElem?_getD, List.getElem?_eq_none (by omega)]; exact Nat.zero_le _) (c / 2)
    rw [show 2 * (c / 2) = c by omega] at htb
    refine ⟨_, ?_, show_table (ss := ss) (m := c / 2) hP hE hd hn hlv h hc (by rw [← hc]; omega) (fun k hk => by have := hs k (by omega); rw [Nat.zero_add] at this; exact this)⟩
    unfold Fits
    simp only [ByteArray.size_append, bsz, List.size_toArray, List.length_cons, List.length_nil]
    omega
  · obtain ⟨hc, x0, x1⟩ := hP.k17 (by omega)
    obtain ⟨s0, f0, S0⟩ := (KI 0 (by omega)).1 x0
    obtain ⟨s1, f1, S1⟩ := (KI 1 (by omega)).1 x1
    have hl := hP.left (a := 0) (b := 1) (by omega) (by omega)
    have hr := hP.left (a := 1) (b := 2) (by omega) (by omega)
    unfold Fits at f0 f1
    simp only [Nat.reduceAdd] at f0 f1
    have ho := opT_size (knd l i) (l.getD i nd0).n
    have fin : ∀ y1 y2 : Bool, Fits ((((paren s0 y1 ++ { data := #[32] }) ++ opT (knd l i) (l.getD i nd0).n) ++ { data := #[32] }) ++ paren s1 y2) i e := fun y1 y2 => by
      have p0 := paren_size s0 y1
      have p1 := paren_size s1 y2
      unfold Fits
      simp only [ByteArray.size_append, bsz, List.size_toArray, List.length_cons, List.length_nil]
      omega
    have z0 : s0.size ≤ 1000000000 := by omega
    have z1 : s1.size ≤ 1000000000 := by omega
    obtain ⟨fl, hL⟩ := flagL_any (bindK (knd l (pos 0)) (l.getD (pos 0) nd0).n) (bindK (knd l i) (l.getD i nd0).n)
    obtain ⟨fr, hR⟩ := flagR_any (bindK (knd l (pos 1)) (l.getD (pos 1) nd0).n) (bindK (knd l i) (l.getD i nd0).n)
    exact ⟨_, fin _ _, show_bin hP hE hd hn hlv h hL hR z0 z1 S0 S1⟩
  · obtain ⟨hc, x0⟩ := hP.k24 (by omega)
    obtain ⟨s0, f0, S0⟩ := (KI 0 (by omega)).1 x0
    have hl := hP.left (a := 0) (b := 1) (by omega) (by omega)
    unfold Fits at f0
    simp only [Nat.reduceAdd] at f0
    have fin : ∀ y : Bool, Fits ({ data := #[110, 111, 116, 32] } ++ paren s0 y) i e := fun y => by
      have p0 := paren_size s0 y
      unfold Fits
      simp only [ByteArray.size_append, bsz, List.size_toArray, List.length_cons, List.length_nil]
      omega
    by_cases hb : bindK (knd l (pos 0)) (l.getD (pos 0) nd0).n < 9
    · exact ⟨_, fin _, show_not_y hP hE hd hn hlv h (by omega) hb S0⟩
    · exact ⟨_, fin _, show_not_n hP hE hd hn hlv h (by omega) hb S0⟩
  · obtain ⟨hc, x0⟩ := hP.k24 (by omega)
    obtain ⟨s0, f0, S0⟩ := (KI 0 (by omega)).1 x0
    have hl := hP.left (a := 0) (b := 1) (by omega) (by omega)
    unfold Fits at f0
    simp only [Nat.reduceAdd] at f0
    have fin : ∀ y : Bool, Fits ({ data := #[45] } ++ paren s0 y) i e := fun y => by
      have p0 := paren_size s0 y
      unfold Fits
      simp only [ByteArray.size_append, bsz, List.size_toArray, List.length_cons, List.length_nil]
      omega
    by_cases hb : bindK (knd l (pos 0)) (l.getD (pos 0) nd0).n < 9
    · exact ⟨_, fin _, show_neg_y hP hE hd hn hlv h (by omega) hb S0⟩
    · by_cases h25 : knd l (pos 0) = 25
      · exact ⟨_, fin _, show_neg_k hP hE hd hn hlv h (by omega) hb h25 S0⟩
      · exact ⟨_, fin _, show_neg_n hP hE hd hn hlv h (by omega) hb h25 S0⟩
end
section
variable {l : List Nd} {d i e c lv : Nat} {lp : Bool} {pos : Nat → Nat}
set_option maxRecDepth 20000 in
theorem said_stat (hS : Short l) (hP : Parts l d i e c lp pos) (hE : endAt l (d + 1) i = some e) (hd : d + 1 ≤ 200) (hn : l.length ≤ 6000) (hlv : lv ≤ 400) (KI : ∀ k, k < c → Said l lv (pos k) (pos (k + 1))) (KB : ∀ k, k < c → Said l (lv + 1) (pos k) (pos (k + 1)))
    (KG : ∀ k d' c' lp' pos', k < c → d = d' + 1 → Parts l d' (pos k) (pos (k + 1)) c' lp' pos' → ∀ j, j < c' → Said l (lv + 1) (pos' j) (pos' (j + 1))) (hk : isStat (knd l i) = true) : ∃ s, Fits s i e ∧ Says l 65 (at2 i lv) s := by
  have hk' : (1 ≤ knd l i ∧ knd l i ≤ 10) ∨ knd l i = 26 := by unfold isStat at hk; simpa using hk
  have ht := hP.top
  have hF := hP.far hE hn
  have own : ∀ s : ByteArray, s.size ≤ 90000 → Fits s i e := fun s hs => by unfold Fits; omega
  have e11 : knd l i = 1 ∨ knd l i = 2 ∨ knd l i = 3 ∨ knd l i = 4 ∨ knd l i = 5 ∨ knd l i = 6 ∨ knd l i = 7 ∨ knd l i = 8 ∨ knd l i = 9 ∨ knd l i = 10 ∨ knd l i = 26 := by omega
  have hnm := hP.names
  rcases e11 with h | h | h | h | h | h | h | h | h | h | h <;> rw [h] at hnm
  · obtain ⟨hc50, hx⟩ := hP.k1 (by omega)
    have e2 : most 1 = 50 := rfl
    have hj := join_names hS hP (by omega)
    by_cases hc : c = 0
    · refine ⟨_, own _ ?_, line_loc0 hP hE hd hn hlv h hc⟩
      simp only [ByteArray.size_append, bsz, List.size_toArray, List.length_cons, List.length_nil]
      omega
    · obtain ⟨ss, hs, hz⟩ := exprs_of hP KI (a := 0) (m := c) (by omega) (fun k hk => by rw [Nat.zero_add]; exact hx _ hk)
      have hr := hP.left (a := 0) (b := 0 + c) (by omega) (by omega)
      have hjs := joinS_size ss c
      refine ⟨_, ?_, line_loc (ss := ss) hP hE hd hn hlv h (by omega) (by omega) (fun k hk => by have := hs k hk; rw [Nat.zero_add] at this; exact this)⟩
      unfold Fits
      simp only [ByteArray.size_append, bsz, List.size_toArray, List.length_cons, List.length_nil]
      omega
  · obtain ⟨h1, h50, hNc, hcN, hx⟩ := hP.k2 h
    obtain ⟨N, hN⟩ : ∃ N : Nat, (l.getD i nd0).n.toNat = N := ⟨_, rfl⟩
    obtain ⟨ss, hs, hz⟩ := exprs_of hP KI (a := 0) (m := c) (by omega) (fun k hk => by rw [Nat.zero_add]; exact hx _ hk)
    have hsplit : ∀ m, room (fun k => ss (N + k)) m + room ss N = room ss (N + m) := fun m => by
      induction m with
      | zero => simp [room]
      | succ m ih => rw [room, show N + (m + 1) = N + m + 1 by omega, room]; omega
    have h3 := hsplit (c - N)
    rw [show N + (c - N) = c by omega] at h3
    have hr := hP.left (a := 0) (b := 0 + c) (by omega) (by omega)
    have hja := joinS_size ss N
    have hjb := joinS_size (fun k => ss (N + k)) (c - N)
    have hA := line_assign (ss := ss) hP hE hd hn hlv h (by rw [hN]; omega) (by rw [hN]; omega) (fun k hk => by have := hs k (by omega); rw [Nat.zero_add] at this; exact this) (fun k hk => by have := hs ((l.getD i nd0).n.toNat + k) (by omega); rw [Nat.zero_add] at this; exact this)
    rw [hN] at hA
    refine ⟨_, ?_, hA⟩
    unfold Fits
    simp only [ByteArray.size_append, bsz, List.size_toArray, List.length_cons, List.length_nil]
    omega
  · obtain ⟨hc, x0⟩ := hP.k3 (by omega)
    obtain ⟨s0, f0, S0⟩ := (KB 0 (by omega)).2.2 x0
    have hl := hP.left (a := 0) (b := 1) (by omega) (by omega)
    unfold Fits at f0
    simp only [Nat.reduceAdd] at f0
    refine ⟨_, ?_, line_do hP hE hd hn hlv h (by omega) S0⟩
    unfold Fits
    simp only [ByteArray.size_append, bsz, List.size_toArray, List.length_cons, List.length_nil, ind_size]
    omega
  · obtain ⟨hc, x0, x1⟩ := hP.k4 h
    obtain ⟨s0, f0, S0⟩ := (KI 0 (by omega)).1 x0
    obtain ⟨s1, f1, S1⟩ := (KB 1 (by omega)).2.2 x1
    have hl := hP.left (a := 0) (b := 1) (by omega) (by omega)
    have hr := hP.left (a := 1) (b := 2) (by omega) (by omega)
    unfold Fits at f0 f1
    simp only [Nat.reduceAdd] at f0 f1
    refine ⟨_, ?_, line_while hP hE hd hn hlv h (by omega) (by omega) S0 S1⟩
    unfold Fits
    simp only [ByteArray.size_append, bsz, List.size_toArray, List.length_cons, List.length_nil, ind_size]
    omega
  · obtain ⟨hc, x0, x1⟩ := hP.k5 h
    obtain ⟨s0, f0, S0⟩ := (KB 0 (by omega)).2.2 x0
    obtain ⟨s1, f1, S1⟩ := (KI 1 (by omega)).1 x1
    have hl := hP.left (a := 0) (b := 1) (by omega) (by omega)
    have hr := hP.left (a := 1) (b := 2) (by omega) (by omega)
    unfold Fits at f0 f1
    simp only [Nat.reduceAdd] at f0 f1
    refine ⟨_, ?_, line_repeat hP hE hd hn hlv h (by omega) (by omega) S0 S1⟩
    unfold Fits
    simp only [ByteArray.size_append, bsz, List.size_toArray, List.length_cons, List.length_nil, ind_size]
    omega
  · obtain ⟨hc2, hx⟩ := hP.k6 h
    obtain ⟨ss, hs⟩ := choose_text (m := c) (p := fun k s => Fits s (pos (0 + k)) (pos (0 + k + 1)) ∧ (if k % 2 = 1 ∨ k + 1 = c then Says l 51 (at2 (pos k) (lv + 1)) s else Says l 77 (at2 (pos k) lv) s)) (fun k hk => by
      rw [Nat.zero_add]
      have h1 := hx k hk
      by_cases hcase : k % 2 = 1 ∨ k + 1 = c
      · rw [if_pos hcase] at h1
        simp only [if_pos hcase]
        exact (KB k hk).2.2 h1
      · rw [if_neg hcase] at h1
        simp only [if_neg hcase]
        exact (KI k hk).1 h1)
    have hz := room_of hP (a := 0) (m := c) (ss := ss) (by omega) (fun k hk => (hs k hk).1)
    have hr := hP.left (a := 0) (b := 0 + c) (by omega) (by omega)
    refine ⟨_, ?_, line_if (ss := ss) hP hE hd hn hlv h (by omega) (fun j hj => ?_) (fun j hj => ?_) (fun hc1 => ?_)⟩
    · have hiz := ind_size lv
      unfold Fits ifE
      have h1 := ifS_size (ind lv) ss (by omega) (c / 2)
      by_cases hodd : c % 2 = 1
      · rw [if_pos hodd]
        have h2 := room_le ss (show 2 * (c / 2) + 1 ≤ c by omega)
        rw [room, show 2 * (c / 2) = c - 1 by omega] at h2
        rw [show 2 * (c / 2) = c - 1 by omega] at h1
        simp only [ByteArray.size_append, bsz, List.size_toArray, List.length_cons, List.length_nil]
        omega
      · rw [if_neg hodd]
        have h2 := room_le ss (show 2 * (c / 2) ≤ c by omega)
        simp only [ByteArray.size_append, bsz, List.size_toArray, List.length_cons, List.length_nil]
        omega
    · have := (hs (2 * j) (by omega)).2
      rw [if_neg (by omega)] at this
      exact this
    · have := (hs (2 * j + 1) (by omega)).2
      rw [if_pos (by omega)] at this
      exact this
    · have := (hs (c - 1) (by omega)).2
      rw [if_pos (by omega)] at this
      exact this
  · obtain ⟨hc, hx⟩ := hP.k7 h
    have e1 : least 7 = 1 := rfl
    have hnz := name_size hS hP (by omega)
    rcases hc with hc | hc
    · obtain ⟨ss, hs, hz⟩ := exprs_of hP KI (a := 0) (m := 2) (by omega) (fun k hk => by have := hx (0 + k) (by omega); rw [if_neg (by omega)] at this; exact this)
      have h3 := hx 2 (by omega)
      rw [if_pos (by omega)] at h3
      obtain ⟨s0, f0, S0⟩ := (KB 2 (by omega)).2.2 h3
      unfold Fits at f0
      simp only [Nat.reduceAdd] at f0 hz
      have hl := hP.left (a := 0) (b := 2) (by omega) (by omega)
      have hr := hP.left (a := 2) (b := 3) (by omega) (by omega)
      have hjs := joinS_size ss 2
      refine ⟨_, ?_, line_for3 (ss := ss) hP hE hd hn hlv h hc (by omega) (by omega) (fun k hk => by have := hs k hk; rw [Nat.zero_add] at this; exact this) S0⟩
      unfold Fits
      simp only [ByteArray.size_append, bsz, List.size_toArray, List.length_cons, List.length_nil, ind_size]
      omega
    · obtain ⟨ss, hs, hz⟩ := exprs_of hP KI (a := 0) (m := 3) (by omega) (fun k hk => by have := hx (0 + k) (by omega); rw [if_neg (by omega)] at this; exact this)
      have h3 := hx 3 (by omega)
      rw [if_pos (by omega)] at h3
      obtain ⟨s0, f0, S0⟩ := (KB 3 (by omega)).2.2 h3
      unfold Fits at f0
      simp only [Nat.reduceAdd] at f0 hz
      have hl := hP.left (a := 0) (b := 3) (by omega) (by omega)
      have hr := hP.left (a := 3) (b := 4) (by omega) (by omega)
      have hjs := joinS_size ss 3
      refine ⟨_, ?_, line_for4 (ss := ss) hP hE hd hn hlv h hc (by omega) (by omega) (fun k hk => by have := hs k hk; rw [Nat.zero_add] at this; exact this) S0⟩
      unfold Fits
      simp only [ByteArray.size_append, bsz, List.size_toArray, List.length_cons, List.length_nil, ind_size]
      omega
  · exact ⟨_, own _ (by decide), line_break hP hE hd hn hlv h⟩
  · obtain ⟨hc50, hx⟩ := hP.k1 (by omega)
    by_cases hc : c = 0
    · exact ⟨_, own _ (by decide), line_ret0 hP hE hd hn hlv h hc⟩
    · obtain ⟨ss, hs, hz⟩ := exprs_of hP KI (a := 0) (m := c) (by omega) (fun k hk => by rw [Nat.zero_add]; exact hx _ hk)
      have hr := hP.left (a := 0) (b := 0 + c) (by omega) (by omega)
      have hjs := joinS_size ss c
      refine ⟨_, ?_, line_ret (ss := ss) hP hE hd hn hlv h (by omega) (by omega) (fun k hk => by have := hs k hk; rw [Nat.zero_add] at this; exact this)⟩
      unfold Fits
      simp only [ByteArray.size_append, bsz, List.size_toArray, List.length_cons, List.length_nil]
      omega
  · obtain ⟨hc, x0⟩ := hP.k10 h
    obtain ⟨s0, f0, S0⟩ := (KI 0 (by omega)).1 (by rw [x0]; decide)
    have hl := hP.left (a := 0) (b := 1) (by omega) (by omega)
    unfold Fits at f0
    simp only [Nat.reduceAdd] at f0
    have hfit : Fits s0 i e := Nat.le_trans f0 (Nat.mul_le_mul_right _ (by omega))
    exact ⟨s0, hfit, line_call hP hE hd hn hlv h S0⟩
  · obtain ⟨hc, x0⟩ := hP.k26 h
    have e1 : least 26 = 1 := rfl
    have hnz := name_size hS hP (by omega)
    obtain ⟨d', hdd⟩ := endAt_pos (hP.ends 0 (by omega))
    have hE0 := hP.ends 0 (by omega)
    have hG0 := hP.good 0 (by omega)
    rw [hdd] at hE0 hG0
    obtain ⟨c', pos', hQ⟩ := parts_of (by omega) hE0 hG0
    obtain ⟨hc', y0⟩ := hQ.k3 (by omega)
    obtain ⟨s0, f0, S0⟩ := (KG 0 d' c' _ pos' (by omega) hdd hQ 0 (by omega)).2.2 y0
    have hnf := hQ.names
    rw [x0] at hnf
    have e2 : most 19 = 50 := rfl
    have hj := join_names hS hQ (by omega)
    have hl := hP.left (a := 0) (b := 1) (by omega) (by omega)
    have hq := hQ.left (a := 0) (b := 1) (by omega) (by omega)
    unfold Fits at f0
    simp only [Nat.reduceAdd] at f0 hq
    rw [hQ.first] at S0
    refine ⟨_, ?_, line_func hP hE hd hn hlv h (by omega) hnf.2.2 S0⟩
    unfold Fits
    simp only [ByteArray.size_append, bsz, List.size_toArray, List.length_cons, List.length_nil, ind_size]
    omega
set_option maxRecDepth 20000 in
theorem said_block (hP : Parts l d i e c lp pos) (hE : endAt l (d + 1) i = some e) (hd : d + 1 ≤ 200) (hn : l.length ≤ 6000) (hlv : lv ≤ 400) (KI : ∀ k, k < c → Said l lv (pos k) (pos (k + 1))) (hk : knd l i = 0) : ∃ s, Fits s i e ∧ Says l 51 (at2 i lv) s := by
  have hF := hP.far hE hn
  obtain ⟨ss, hs⟩ := choose_text (m := c) (p := fun k s => Fits s (pos (0 + k)) (pos (0 + k + 1)) ∧ Says l 65 (at2 (pos k) lv) s) (fun k hk' => by
    rw [Nat.zero_add]
    exact (KI k hk').2.1 (hP.k0 hk k hk'))
  have hz := room_of hP (a := 0) (m := c) (ss := ss) (by omega) (fun k hk => (hs k hk).1)
  have hr := hP.left (a := 0) (b := 0 + c) (by omega) (by omega)
  have hls := linesS_size ss lv hlv c
  exact ⟨_, by unfold Fits; omega, block_any hP hE hd hn hlv (by omega) (fun k hk => (hs k hk).2)⟩
end
theorem said_all {l : List Nd} (hS : Short l) (hn : l.length ≤ 6000) : ∀ (D d : Nat), d ≤ D → d ≤ 200 → ∀ (i e lv : Nat) (lp : Bool), endAt l d i = some e → good l d i lp = true → lv + d ≤ 400 → Said l lv i e := by
  intro D
  induction D with
  | zero => intro d h _ i e lv lp hE; obtain ⟨d', rfl⟩ := endAt_pos hE; omega
  | succ D ih =>
    intro d h h2 i e lv lp hE hg hlv
    obtain ⟨d, rfl⟩ := endAt_pos hE
    obtain ⟨c, pos, hP⟩ := parts_of (by omega) hE hg
    have KI : ∀ k, k < c → Said l lv (pos k) (pos (k + 1)) := fun k hk => ih d (by omega) (by omega) _ _ lv _ (hP.ends k hk) (hP.good k hk) (by omega)
    have KB : ∀ k, k < c → Said l (lv + 1) (pos k) (pos (k + 1)) := fun k hk => ih d (by omega) (by omega) _ _ (lv + 1) _ (hP.ends k hk) (hP.good k hk) (by omega)
    refine ⟨said_expr hS hP hE h2 hn (by omega) KI KB, said_stat hS hP hE h2 hn (by omega) KI KB (fun k d' c' lp' pos' hk hdd hQ j hj => ih d' (by omega) (by omega) _ _ (lv + 1) _ (hQ.ends j hj) (hQ.good j hj) (by omega)), said_block hP hE h2 hn (by omega) KI⟩
theorem short_of {w : World} {ao : Option Addr} {l : List Nd} (h : RdN w ao l) : Short l ∧ Fine l := by
  have hh : ∀ i, i < l.length → ((l.getD i nd0).text.length ≤ 1000 ∧ ∀ j, j < (l.getD i nd0).names.length → ((l.getD i nd0).names.getD j []).length ≤ 1000) ∧ (l.getD i nd0).text.length + sizeSS (l.getD i nd0).names ≤ 1048576 := fun i hi => by
    obtain ⟨b, off, ut, un, _, _, _, _, _, _, ht, hn⟩ := h i hi
    obtain ⟨_, _, _, htl, _, _⟩ := ht
    obtain ⟨_, _, _, hnl, hnr⟩ := hn
    refine ⟨⟨htl, fun j hj => ?_⟩, ?_⟩
    · obtain ⟨_, _, u, _, _, _, _, _, hu, _, _⟩ := hnr j hj
      exact hu
    · have hk : ∀ k, k ≤ (l.getD i nd0).names.length → lens (l.getD i nd0).names k ≤ k * 1000 := fun k => by
        induction k with
        | zero => intro _; simp [lens]
        | succ k ih =>
          intro hk
          obtain ⟨_, _, u, _, _, _, _, _, hu, _, _⟩ := hnr k (by omega)
          rw [lens_succ (by omega)]
          have := ih (by omega)
          omega
      have := hk _ (Nat.le_refl _)
      unfold sizeSS
      omega
  exact ⟨fun i hi => (hh i hi).1, fun i hi => (hh i hi).2⟩
theorem valid_parts {l : List Nd} (h : valid l = true) : 1 ≤ l.length ∧ l.length ≤ 6000 ∧ knd l 0 = 0 ∧ endAt l 200 0 = some l.length ∧ good l 200 0 false = true := by
  unfold valid at h
  simp only [Bool.and_eq_true, decide_eq_true_eq, beq_iff_eq] at h
  exact h
def PrPost (o : Option ByteArray) (w : World) (x : Ending) (w' : World) : Prop := match o with
  | none => x = .returned (.slice none 0 0) ∧ Below w.heap.size w w'
  | some s => ∃ w1, Below w.heap.size w w1 ∧ x = .returned (.slice (some ⟨w1.heap.size, 0, none⟩) s.size (grownCap w1 s.size 0 5)) ∧ w' = Lib.bytesWorld w1 5 s
set_option maxRecDepth 100000 in
set_option maxHeartbeats 1000000 in
theorem print_any {l : List Nd} (hl : l.length ≤ 100000) (hS : Short l) (hF : Fine l) : ∃ o : Option ByteArray, (∀ s, o = some s → s.size ≤ 600000000) ∧ ∀ (b off cap : Nat) (w : World), RdN w (some ⟨b, off, none⟩) l →
    Calls Try.prog 39 #[.slice (some ⟨b, off, none⟩) l.length cap] w (PrPost o w) := by
  cases hv : valid l with
  | false =>
    refine ⟨none, (fun s hs => by cases hs), fun b off cap w hr => ?_⟩
    have CV := specValid_fine (some ⟨b, off, none⟩) l.length cap l w rfl hr (by omega) hF
    rw [hv] at CV
    have CV : Hid (Calls Try.prog 50 #[.slice (some ⟨b, off, none⟩) l.length cap] w fun r w' => r = .returned (.bool false) ∧ Below w.heap.size w w') := CV
    go_enter Try.func39, Try.ntmps39
    go_wp2_with (go_at_call 50; refine CV.out.mono ?_; rintro r w1 ⟨rfl, hb⟩; have HB : Hid (Below w.heap.size w w1) := hb; clear hb)
    go_returns
    exact ⟨rfl, HB.out⟩
  | true =>
    obtain ⟨h1, h6, hk, hE, hg⟩ := valid_parts hv
    obtain ⟨s, hs, SB⟩ := (said_all hS h6 200 200 (Nat.le_refl _) (Nat.le_refl _) 0 l.length 0 false hE hg (by omega)).2.2 hk
    refine ⟨some s, (fun s' hs' => by cases hs'; unfold Fits at hs; omega), fun b off cap w hr => ?_⟩
    have CV := specValid_fine (some ⟨b, off, none⟩) l.length cap l w rfl hr (by omega) hF
    rw [hv] at CV
    have CV : Hid (Calls Try.prog 50 #[.slice (some ⟨b, off, none⟩) l.length cap] w fun r w' => r = .returned (.bool true) ∧ Below w.heap.size w w') := CV
    have CB : Hid (∀ W, Below w.heap.size w W → Calls Try.prog 51 #[.slice (some ⟨b, off, none⟩) l.length cap, .int .i64 0, .int .i64 0] W fun r w' => r = .returned (.string s) ∧ Below W.heap.size W w') := fun W hW => SB b off cap W (hr.below hW)
    clear hr SB hE hg hk hv hs hS hF
    obtain ⟨n, hnn⟩ : ∃ n, n = l.length := ⟨_, rfl⟩
    rw [← hnn] at CV CB hl ⊢
    clear hnn
    go_enter Try.func39, Try.ntmps39
    go_wp2_with (first | (go_at_call 51; refine (CB.out _ HB.out).mono ?_; rintro r w2 ⟨rfl, hb⟩; have HB2 : Hid (Below w.heap.size w w2) := bup HB.out hb; have kv := Lib.run_convert_string_bytes w2 9 22 5 s Try.underlying9 Try.underlying22 Try.underlying5; clear hb) | (go_at_call 50; refine CV.out.mono ?_; rintro r w1 ⟨rfl, hb⟩; have HB : Hid (Below w.heap.size w w1) := hb; clear hb))
    go_returns
    exact ⟨w2, HB2.out, rfl, rfl⟩
end Go.Proofs.Ytepbddfpdlapbaa.vt
