import Derived.Test.YteagakplhfiodaaDoorLdRead
namespace Go.Proofs.YteagakplhfiodaaDoor.ld
open Go.RowKit Go.Proofs.YteagakplhfiodaaDoor.bts Go.Proofs.YteagakplhfiodaaDoor.pg Go.Proofs.YteagakplhfiodaaDoor.chk Go.Proofs.YteagakplhfiodaaDoor.sv Go.Proofs.YteagakplhfiodaaDoor.th

theorem St.app {w0 w w' : World} {a0 a1 : Addr} {g : Nat} {s : Option (List Int)} {row : Option Nat} (h : St w0 a0 a1 w g s) (hg : w.grownBy w' row) (hr : ∀ k, row = some k → g < k) : St w0 a0 a1 w' g s := by
  have hl := h.lt
  obtain ⟨h1, h2, av, n, cv, f, hL, h3⟩ := h
  refine ⟨h1.grown hg h1.size (fun k hk => by have := hr k hk; omega), h2, av, n, cv, f, own_far hL (fun b e => ?_), h3⟩
  cases e
  exact hg.block g hl (fun e => by have := hr g e.symm; omega)
theorem Fq.app {g : Nat} {w wa w' : World} {row : Option Nat} (h : Fq g w wa) (hg : wa.grownBy w' row) (hgl : g < w.heap.size) (hr : ∀ k, row = some k → w.heap.size ≤ k) : Fq g w w' :=
  ⟨h.below.grown hg (by have := h.below.size; omega) (fun k hk => by have := hr k hk; omega), fun b hb hbg => (hg.block b (by have := h.below.size; omega) (fun e => by have := hr b e.symm; omega)).trans (h.keep b hb hbg)⟩
theorem list_next {α : Type} {d : List Int → Option (α × List Int)} {o : Option (List α × List Int)} {s s' : Option (List Int)} {n k : Nat} {l : List α} {x : α} (hk : k < n) (h : o = (s.bind (listD d (n - k))).map fun y => (l ++ y.1, y.2)) (hG : Got (s.bind d) x s') : o = (s'.bind (listD d (n - (k + 1)))).map fun y => (l ++ [x] ++ y.1, y.2) := by
  obtain ⟨m, hm⟩ : ∃ m, n - k = m + 1 := ⟨n - k - 1, by omega⟩
  rw [h, hm, show n - (k + 1) = m by omega]
  rcases hG with ⟨e, rfl⟩ | ⟨ys, e, rfl⟩
  · cases s with
    | none => rfl
    | some xs => simp only [Option.bind_some] at e; simp only [Option.bind_some, listD, e]; rfl
  · cases s with
    | none => cases e
    | some xs =>
      simp only [Option.bind_some] at e
      simp only [Option.bind_some, listD, e, Option.map_map]
      cases listD d m ys with
      | none => rfl
      | some y => simp
theorem list_bad {α : Type} {d : List Int → Option (α × List Int)} {o : Option (List α × List Int)} {s : Option (List Int)} {m : Nat} {l : List α} (hs : s = none) (h : o = (s.bind (listD d m)).map fun y => (l ++ y.1, y.2)) : o = none := by
  subst hs
  exact h
theorem list_end {α : Type} {d : List Int → Option (α × List Int)} {o : Option (List α × List Int)} {s : Option (List Int)} {n : Nat} {l : List α} (h : o = (s.bind (listD d (n - n))).map fun y => (l ++ y.1, y.2)) : Got o l s := by
  rw [Nat.sub_self] at h
  cases s with
  | none => exact .inl ⟨h, rfl⟩
  | some xs => exact .inr ⟨xs, by rw [h]; simp [listD], rfl⟩
theorem list_start {α : Type} {d : List Int → Option (α × List Int)} {s : Option (List Int)} {n : Nat} : s.bind (listD d n) = (s.bind (listD d (n - 0))).map fun y => ([] ++ y.1, y.2) := by
  rw [Nat.sub_zero]
  cases s.bind (listD d n) <;> rfl
theorem got_less {α : Type} {d : List Int → Option (α × List Int)} (hd : ∀ {xs ys : List Int} {a : α}, d xs = some (a, ys) → ys.length < xs.length) {s : Option (List Int)} {x : α} {zs : List Int} {k : Nat} (h : ∀ ys, s = some ys → k + ys.length ≤ 1048576) (hG : Got (s.bind d) x (some zs)) : k + 1 + zs.length ≤ 1048576 := by
  rcases hG with ⟨_, e⟩ | ⟨ys, e, e'⟩
  · cases e
  · cases e'
    cases s with
    | none => cases e
    | some xs =>
      have := hd e
      have := h xs rfl
      omega
theorem snoc_lt {α : Type} {l : List α} {x d : α} {j : Nat} (h : j < l.length) : (l ++ [x]).getD j d = l.getD j d := by
  simp only [List.getD_eq_getElem?_getD]
  rw [List.getElem?_append_left h]
theorem snoc_at {α : Type} {l : List α} {x d : α} : (l ++ [x]).getD l.length d = x := by simp [List.getD_eq_getElem?_getD]
theorem ext_snoc {α : Type} (l : List α) (x d : α) : ext (fun j => l.getD j d) l.length x = fun j => (l ++ [x]).getD j d := by
  funext j
  by_cases h : j = l.length
  · subst h
    rw [ext_at, snoc_at]
  · unfold ext
    rw [if_neg h]
    by_cases h2 : j < l.length
    · rw [snoc_lt h2]
    · simp only [List.getD_eq_getElem?_getD]
      rw [List.getElem?_eq_none (by omega), List.getElem?_eq_none (by simp; omega)]

/- Lists of captures and of instructions, in memory of their own. -/
def OLc (w : World) (B : Nat) (av : Option Addr) (n cv : Nat) (l : List Cp) : Prop := n = l.length ∧ RwC w B (.slice av n cv) l
def OLi (w : World) (B : Nat) (av : Option Addr) (n cv : Nat) (l : List In) : Prop := n = l.length ∧ RwI w B (.slice av n cv) l
theorem olc_nil (w : World) (B : Nat) : OLc w B none 0 0 [] := ⟨rfl, ⟨none, 0, rfl⟩, [], World.ownsRow_nil _ _ _ _, fun j hj => absurd hj (by simp)⟩
theorem oli_nil (w : World) (B : Nat) : OLi w B none 0 0 [] := ⟨rfl, ⟨none, 0, rfl⟩, [], World.ownsRow_nil _ _ _ _, fun j hj => absurd hj (by simp)⟩
theorem OLc.hold {w w' : World} {B n cv : Nat} {av : Option Addr} {l : List Cp} (h : OLc w B av n cv l) (hk : ∀ b, B ≤ b → b < w.heap.size → w'.heap[b]? = w.heap[b]?) : OLc w' B av n cv l := ⟨h.1, h.2.hold (fun b h1 h2 _ => hk b h1 h2)⟩
theorem OLi.hold {w w' : World} {B n cv : Nat} {av : Option Addr} {l : List In} (h : OLi w B av n cv l) (hk : ∀ b, B ≤ b → b < w.heap.size → w'.heap[b]? = w.heap[b]?) : OLi w' B av n cv l := ⟨h.1, h.2.hold (fun b h1 h2 _ => hk b h1 h2)⟩
theorem OLc.row {w : World} {B n cv : Nat} {av : Option Addr} {l : List Cp} (h : OLc w B av n cv l) : ∃ us, w.ownsRow B 48 2 (.slice av n cv) n us ∧ ∀ j, j < n → CpAt us j (l.getD j cp0) := by
  obtain ⟨rfl, _, us, h1, h2⟩ := h
  exact ⟨us, h1, h2⟩
theorem OLi.row {w : World} {B n cv : Nat} {av : Option Addr} {l : List In} (h : OLi w B av n cv l) : ∃ us, w.ownsRow B 50 3 (.slice av n cv) n us ∧ ∀ j, j < n → InAt us j (l.getD j in0) := by
  obtain ⟨rfl, _, us, h1, h2⟩ := h
  exact ⟨us, h1, h2⟩
theorem olc_snoc {w w' : World} {B n cv cv' : Nat} {av av' : Option Addr} {l : List Cp} {u : Bool} {i : Int} (hn : l.length = n) {us : List Value} (hus : w.ownsRow B 48 2 (.slice av n cv) n us) (hx : ∀ j, j < n → CpAt us j (l.getD j cp0)) (hA : AppR 48 2 w B av n cv (us ++ [.bool u, .int .i64 i]) av' (n + 1) cv' w') : OLc w' B av' (n + 1) cv' (l ++ [⟨u, i⟩]) := by
  subst hn
  have hul : us.length = l.length * 2 := hus.1
  refine ⟨by simp, ⟨av', cv', by simp⟩, us ++ [.bool u, .int .i64 i], by simpa using hA.own, fun j hj => ?_⟩
  simp only [List.length_append, List.length_cons, List.length_nil] at hj
  by_cases h : j = l.length
  · subst h
    rw [snoc_at]
    refine ⟨?_, ?_⟩
    · rw [List.getElem?_append_right (by omega), show l.length * 2 - us.length = 0 by omega]; rfl
    · rw [List.getElem?_append_right (by omega), show l.length * 2 + 1 - us.length = 1 by omega]; rfl
  · rw [snoc_lt (by omega)]
    obtain ⟨h1, h2⟩ := hx j (by omega)
    refine ⟨?_, ?_⟩ <;> (rw [List.getElem?_append_left (by omega)]; assumption)
theorem oli_snoc {w w' : World} {B n cv cv' : Nat} {av av' : Option Addr} {l : List In} {z a b : Int} (hn : l.length = n) {us : List Value} (hus : w.ownsRow B 50 3 (.slice av n cv) n us) (hx : ∀ j, j < n → InAt us j (l.getD j in0)) (hA : AppR 50 3 w B av n cv (us ++ [.int .i64 z, .int .i64 a, .int .i64 b]) av' (n + 1) cv' w') : OLi w' B av' (n + 1) cv' (l ++ [⟨z, a, b⟩]) := by
  subst hn
  have hul : us.length = l.length * 3 := hus.1
  refine ⟨by simp, ⟨av', cv', by simp⟩, us ++ [.int .i64 z, .int .i64 a, .int .i64 b], by simpa using hA.own, fun j hj => ?_⟩
  simp only [List.length_append, List.length_cons, List.length_nil] at hj
  by_cases h : j = l.length
  · subst h
    rw [snoc_at]
    refine ⟨?_, ?_, ?_⟩
    · rw [List.getElem?_append_right (by omega), show l.length * 3 - us.length = 0 by omega]; rfl
    · rw [List.getElem?_append_right (by omega), show l.length * 3 + 1 - us.length = 1 by omega]; rfl
    · rw [List.getElem?_append_right (by omega), show l.length * 3 + 2 - us.length = 2 by omega]; rfl
  · rw [snoc_lt (by omega)]
    obtain ⟨h1, h2, h3⟩ := hx j (by omega)
    refine ⟨?_, ?_, ?_⟩ <;> (rw [List.getElem?_append_left (by omega)]; assumption)

/- Lists of constants and of functions. -/
def OLk (w : World) (B : Nat) (av : Option Addr) (n cv : Nat) (l : List Cn) : Prop := n = l.length ∧ KOk l ∧ ∃ ut, BK w B (.slice av n cv) n (fun j => l.getD j cn0) ut
theorem olk_nil (w : World) (B : Nat) : OLk w B none 0 0 [] := ⟨rfl, ⟨by simp, fun i hi => absurd hi (by simp)⟩, fun _ => .slice none 0 0, bk_nil _ _ _ _⟩
theorem olk_snoc {w w' : World} {B M n cv cv' : Nat} {av av' : Option Addr} {l : List Cn} {ut : Nat → Value} {t : Bool} {x : Int} {v : Value} {ys : List Int} (hn : l.length = n) (hn2 : n ≤ 1048576) (ok : KOk l) (hb : BK w B (.slice av n cv) n (fun j => l.getD j cn0) ut) (hM1 : ∀ b, (Value.slice av n cv).ownBlock = some b → b < M) (hM2 : ∀ j, j < n → ∀ b, (ut j).ownBlock = some b → b < M) (ht : RwS w B v ys) (hv : ∀ b, v.ownBlock = some b → M ≤ b) (hB : Bts ys) (hl : ys.length ≤ 9223372036854775807)
    {us : List Value} (hus : w.ownsRow B 40 3 (.slice av n cv) n us) (hx : ∀ j, j < n → us[j * 3]? = some (.bool (l.getD j cn0).isText) ∧ us[j * 3 + 1]? = some (.int .i64 (l.getD j cn0).n) ∧ us[j * 3 + 2]? = some (ut j)) (hA : AppR 40 3 w B av n cv (us ++ [.bool t, .int .i64 x, v]) av' (n + 1) cv' w') : OLk w' B av' (n + 1) cv' (l ++ [⟨t, x, ys⟩]) := by
  subst hn
  have h1 := BK.snoc (x := ⟨t, x, ys⟩) hb ht (fun j hj b e e' => by have := hM2 j hj b e; have := hv b e'; omega) (fun b e e' => by have := hM1 b e; have := hv b e'; omega) us hus hx hA
  rw [ext_snoc] at h1
  refine ⟨by simp, ⟨by simp; omega, fun i hi => ?_⟩, _, h1⟩
  simp only [List.length_append, List.length_cons, List.length_nil] at hi
  by_cases h : i = l.length
  · subst h
    rw [snoc_at]
    exact ⟨hB, by simp only; omega⟩
  · rw [snoc_lt (by omega)]
    exact ok.2 i (by omega)
end Go.Proofs.YteagakplhfiodaaDoor.ld

namespace Go.Proofs.YteagakplhfiodaaDoor.ld
open Go.RowKit Go.Proofs.YteagakplhfiodaaDoor.bts Go.Proofs.YteagakplhfiodaaDoor.pg Go.Proofs.YteagakplhfiodaaDoor.chk Go.Proofs.YteagakplhfiodaaDoor.sv Go.Proofs.YteagakplhfiodaaDoor.th

set_option maxRecDepth 100000 in
set_option maxHeartbeats 2000000 in
theorem readListCapture_any (w0 w : World) (a0 a1 : Addr) (g : Nat) (s : Option (List Int)) (hE : Er w0 a0 a1) (h : St w0 a0 a1 w g s) :
    Calls Tryd.prog 55 #[.pointer (some ⟨g, 0, none⟩), .func (.func 56) #[.pointer (some ⟨g, 0, none⟩)] #[]] w fun e w' => ∃ (av : Option Addr) (m cv : Nat) (l : List Cp) (s' : Option (List Int)), e = .returned (.slice av m cv) ∧ l.length ≤ 1048576 ∧ OLc w' w.heap.size av m cv l ∧ Got (s.bind (manyD num (capD num flagD))) l s' ∧ St w0 a0 a1 w' g s' ∧ Fq g w w' := by
  have NM : Hid (∀ W s, St w0 a0 a1 W g s → Calls Tryd.prog 51 #[.pointer (some ⟨g, 0, none⟩)] W fun e w' => ∃ (n : Nat) (s' : Option (List Int)), e = .returned (.int .i64 (n : Int)) ∧ n ≤ 9223372036854775807 ∧ Got (s.bind num) n s' ∧ St w0 a0 a1 w' g s' ∧ Fq g W w') := fun W s h => number_any w0 W a0 a1 g s hE h
  have IT : Hid (∀ W s, St w0 a0 a1 W g s → Calls Tryd.prog 56 #[.pointer (some ⟨g, 0, none⟩)] W fun e w' => ∃ (b : Bool) (n : Nat) (s' : Option (List Int)), e = .returned (.agg #[.bool b, .int .i64 (n : Int)]) ∧ Got (s.bind (capD num flagD)) ⟨b, (n : Int)⟩ s' ∧ St w0 a0 a1 w' g s' ∧ Fq g W w') := fun W s h => capture_any w0 W a0 a1 g s hE h
  obtain ⟨i0, hi0, hz0, hz1, hz2⟩ := info_parts info_cap
  have hgl := h.lt
  have HS : Hid (St w0 a0 a1 w g s) := h
  clear h hE
  go_enter Tryd.func55, Tryd.ntmps55
  go_wp2_with fail
  refine (NM.out _ _ HS.out).mono ?_
  rintro e w1 ⟨n, s1, rfl, hn, g1, h1, q1⟩
  have HG1 : Hid (Got (s.bind num) n s1) := g1
  have HS1 : Hid (St w0 a0 a1 w1 g s1) := h1
  have F1 : Hid (Fq g w w1) := q1
  clear g1 h1 q1 HS
  go_wp2_with fail
  go_loopw [5, 9] (fun v x wr => ∃ (k cv : Nat) (av : Option Addr) (l : List Cp) (s' : Option (List Int)), k ≤ n ∧ k ≤ 1048576 ∧ x = .int .i64 (k : Int) ∧ v = .slice av k cv ∧ Hid (l.length = k) ∧ Hid (OLc wr w.heap.size av k cv l) ∧ Hid (s1.bind (listD (capD num flagD) n) = (s'.bind (listD (capD num flagD) (n - k))).map fun y => (l ++ y.1, y.2)) ∧ Hid (∀ ys, s' = some ys → k + ys.length ≤ 1048576) ∧ Hid (St w0 a0 a1 wr g s') ∧ Hid (Fq g w wr)) (fun _ x _ => n - (intOf x).toNat)
  case atStart =>
    exact ⟨0, 0, none, [], s1, by omega, by omega, rfl, rfl, rfl, olc_nil _ _, list_start, fun ys e => by subst e; have := HS1.out.held.2; omega, HS1.out, F1.out⟩
  case round =>
    obtain ⟨k, cv, av, l, s2, hk, hk2, rfl, rfl, HLn, HO, HN, HZ, HS2, F2⟩ := hrel
    clear HS1 F1
    by_cases hlt : k < n
    · have hlt' : (k : Int) < (n : Int) := by omega
      go_wp2_with fail
      refine (IT.out _ _ HS2.out).mono ?_
      rintro e w2 ⟨ub, un, s3, rfl, g3, h3, q3⟩
      have hw2 : w.heap.size ≤ w2.heap.size := Nat.le_trans F2.out.below.size q3.below.size
      have HG3 : Hid (Got (s2.bind (capD num flagD)) ⟨ub, (un : Int)⟩ s3) := g3
      have HS3 : Hid (St w0 a0 a1 w2 g s3) := h3
      have HO3 : Hid (OLc w2 w.heap.size av k cv l) := HO.out.hold (fun b h1 h2 => q3.keep b h2 (by omega))
      have F3 : Hid (Fq g w w2) := F2.out.trans q3
      clear g3 h3 q3 HS2 HO F2
      have S4 : Hid (St w0 a0 a1 (w2.alloc (.cells #[.bool ub, .int .i64 (un : Int)] 48)) g s3) := HS3.out.keep ((Below.refl _ _).alloc (Nat.le_refl _) _)
      cases s3 with
      | none =>
        obtain ⟨_, _, av4, m4, cv4, f4, hL4, _, _, _, h6⟩ := S4.out
        have c1 : (w2.alloc (.cells #[.bool ub, .int .i64 (un : Int)] 48)).cell? ⟨g, 1, none⟩ = some f4 := hL4.at (j := 1) (by omega)
        have F4 : Hid (Fq g w (w2.alloc (.cells #[.bool ub, .int .i64 (un : Int)] 48))) := F3.out.grown (by omega) ((Below.refl _ _).alloc (Nat.le_refl _) _)
        have g5 := got_then (e := fun (n : Nat) (ys : List Int) => listD (capD num flagD) n ys) HG1.out (.inl ⟨list_bad rfl (list_next hlt HN.out HG3.out), rfl⟩ : Got (s1.bind (listD (capD num flagD) n)) [] none)
        have g6 : Got (s.bind (manyD num (capD num flagD))) [] none := g5
        have HG6 : Hid (Got (s.bind (manyD num (capD num flagD))) [] none) := g6
        have hf := h6 rfl
        clear hL4 h6 g5 g6
        rcases hf with rfl | rfl
        all_goals
          go_wp2
          go_returns
          exact ⟨none, 0, 0, [], none, rfl, by simp, olc_nil _ _, HG6.out, S4.out, F4.out⟩
      | some zs =>
        obtain ⟨_, _, av4, m4, cv4, f4, hL4, _, _, h5, _⟩ := S4.out
        obtain ⟨_, _, _, rfl⟩ := h5 zs rfl
        have c1 : (w2.alloc (.cells #[.bool ub, .int .i64 (un : Int)] 48)).cell? ⟨g, 1, none⟩ = some .nilIface := hL4.at (j := 1) (by omega)
        have hz := got_less (fun h => by have := capD_len num_len flagD_len h; omega) HZ.out HG3.out
        clear hL4 h5
        obtain ⟨us, hus, hx⟩ := HO3.out.row
        have b5 : Below w2.heap.size w2 ((w2.alloc (.cells #[.bool ub, .int .i64 (un : Int)] 48)).alloc (.cells #[.bool ub, .int .i64 (un : Int)] 48)) := ((Below.refl _ _).alloc (Nat.le_refl _) _).alloc (by simp) _
        have HUS : Hid (((w2.alloc (.cells #[.bool ub, .int .i64 (un : Int)] 48)).alloc (.cells #[.bool ub, .int .i64 (un : Int)] 48)).ownsRow w.heap.size 48 2 (.slice av k cv) k us) := th.own_hold hus (fun b h1 h2 _ => b5.block b h2)
        have HX : Hid (∀ j, j < k → CpAt us j (l.getD j cp0)) := hx
        have NW : Hid (0 < 1 → ∃ ad, (some ⟨w2.heap.size + 1, 0, none⟩ : Option Addr) = some ad ∧ ∀ j u, [.bool ub, .int .i64 (un : Int)][j]? = some u → ((w2.alloc (.cells #[.bool ub, .int .i64 (un : Int)] 48)).alloc (.cells #[.bool ub, .int .i64 (un : Int)] 48)).cell? (ad.add j) = some u) := fun _ => ⟨_, rfl, fun j u e => by
          rw [plainAt]
          have := cellNew (w := w2.alloc (.cells #[.bool ub, .int .i64 (un : Int)] 48)) (cs := #[.bool ub, .int .i64 (un : Int)]) (t := 48) (j := j) (v := u) (by simpa using e)
          simpa using this⟩
        clear hus hx
        go_wp2_with (at_builtin; refine wpList_append_row rfl _ _ _ rfl 48 i0 (.agg #[.bool false, .int .i64 0]) 2 16 Tryd.underlying43 hi0 hz0 hz1 hz2 rfl (by omega) w.heap.size av k cv us rfl HUS.out (some ⟨w2.heap.size + 1, 0, none⟩) 1 1 [.bool ub, .int .i64 (un : Int)] rfl rfl NW.out (by simp [Value.oneCell']) (by unfold maxLen; omega) (by omega) (by simp; omega) ?_; intro av5 cv5 w5 hA; have HA : Hid (AppR 48 2 ((w2.alloc (.cells #[.bool ub, .int .i64 (un : Int)] 48)).alloc (.cells #[.bool ub, .int .i64 (un : Int)] 48)) w.heap.size av k cv (us ++ [.bool ub, .int .i64 (un : Int)]) av5 (k + 1) cv5 w5) := hA; clear hA)
        have hrow : ∀ b, (Value.slice av k cv).ownBlock = some b → w.heap.size ≤ b := fun b e => (HUS.out.lt b e).1
        refine ⟨⟨k + 1, cv5, av5, l ++ [(⟨ub, (un : Int)⟩ : Cp)], some zs, by omega, by omega, by go_num, rfl, by show (l ++ [_]).length = k + 1; simp [HLn.out], olc_snoc HLn.out HUS.out HX.out HA.out, list_next hlt HN.out HG3.out, fun ys e => (by cases e; exact hz), (S4.out.keep ((Below.refl _ _).alloc (Nat.le_refl _) _)).app HA.out.grow (fun b e => by have := hrow b e; omega), (F3.out.grown (by omega) b5).app HA.out.grow hgl hrow⟩, by simp [intOf]; omega⟩
    · obtain rfl : k = n := by omega
      have g5 := got_then (e := fun (n : Nat) (ys : List Int) => listD (capD num flagD) n ys) HG1.out (list_end HN.out)
      have g6 : Got (s.bind (manyD num (capD num flagD))) l s2 := g5
      have HG6 : Hid (Got (s.bind (manyD num (capD num flagD))) l s2) := g6
      clear g5 g6
      go_wp2
      go_returns
      exact ⟨av, k, cv, l, s2, rfl, by rw [HLn.out]; omega, HO.out, HG6.out, HS2.out, F2.out⟩
end Go.Proofs.YteagakplhfiodaaDoor.ld

namespace Go.Proofs.YteagakplhfiodaaDoor.ld
open Go.RowKit Go.Proofs.YteagakplhfiodaaDoor.bts Go.Proofs.YteagakplhfiodaaDoor.pg Go.Proofs.YteagakplhfiodaaDoor.chk Go.Proofs.YteagakplhfiodaaDoor.sv Go.Proofs.YteagakplhfiodaaDoor.th

set_option maxRecDepth 100000 in
set_option maxHeartbeats 2000000 in
theorem readListIns_any (w0 w : World) (a0 a1 : Addr) (g : Nat) (s : Option (List Int)) (hE : Er w0 a0 a1) (h : St w0 a0 a1 w g s) :
    Calls Tryd.prog 57 #[.pointer (some ⟨g, 0, none⟩), .func (.func 58) #[.pointer (some ⟨g, 0, none⟩)] #[]] w fun e w' => ∃ (av : Option Addr) (m cv : Nat) (l : List In) (s' : Option (List Int)), e = .returned (.slice av m cv) ∧ l.length ≤ 1048576 ∧ OLi w' w.heap.size av m cv l ∧ Got (s.bind (manyD num (insD num))) l s' ∧ St w0 a0 a1 w' g s' ∧ Fq g w w' := by
  have NM : Hid (∀ W s, St w0 a0 a1 W g s → Calls Tryd.prog 51 #[.pointer (some ⟨g, 0, none⟩)] W fun e w' => ∃ (n : Nat) (s' : Option (List Int)), e = .returned (.int .i64 (n : Int)) ∧ n ≤ 9223372036854775807 ∧ Got (s.bind num) n s' ∧ St w0 a0 a1 w' g s' ∧ Fq g W w') := fun W s h => number_any w0 W a0 a1 g s hE h
  have IT : Hid (∀ W s, St w0 a0 a1 W g s → Calls Tryd.prog 58 #[.pointer (some ⟨g, 0, none⟩)] W fun e w' => ∃ (z : Int) (n m : Nat) (s' : Option (List Int)), e = .returned (.agg #[.int .i64 z, .int .i64 (n : Int), .int .i64 (m : Int)]) ∧ Got (s.bind (insD num)) ⟨z, (n : Int), (m : Int)⟩ s' ∧ St w0 a0 a1 w' g s' ∧ Fq g W w') := fun W s h => instruction_any w0 W a0 a1 g s hE h
  obtain ⟨i0, hi0, hz0, hz1, hz2⟩ := info_parts info_ins
  have hgl := h.lt
  have HS : Hid (St w0 a0 a1 w g s) := h
  clear h hE
  go_enter Tryd.func57, Tryd.ntmps57
  go_wp2_with fail
  refine (NM.out _ _ HS.out).mono ?_
  rintro e w1 ⟨n, s1, rfl, hn, g1, h1, q1⟩
  have HG1 : Hid (Got (s.bind num) n s1) := g1
  have HS1 : Hid (St w0 a0 a1 w1 g s1) := h1
  have F1 : Hid (Fq g w w1) := q1
  clear g1 h1 q1 HS
  go_wp2_with fail
  go_loopw [5, 9] (fun v x wr => ∃ (k cv : Nat) (av : Option Addr) (l : List In) (s' : Option (List Int)), k ≤ n ∧ k ≤ 1048576 ∧ x = .int .i64 (k : Int) ∧ v = .slice av k cv ∧ Hid (l.length = k) ∧ Hid (OLi wr w.heap.size av k cv l) ∧ Hid (s1.bind (listD (insD num) n) = (s'.bind (listD (insD num) (n - k))).map fun y => (l ++ y.1, y.2)) ∧ Hid (∀ ys, s' = some ys → k + ys.length ≤ 1048576) ∧ Hid (St w0 a0 a1 wr g s') ∧ Hid (Fq g w wr)) (fun _ x _ => n - (intOf x).toNat)
  case atStart =>
    exact ⟨0, 0, none, [], s1, by omega, by omega, rfl, rfl, rfl, oli_nil _ _, list_start, fun ys e => by subst e; have := HS1.out.held.2; omega, HS1.out, F1.out⟩
  case round =>
    obtain ⟨k, cv, av, l, s2, hk, hk2, rfl, rfl, HLn, HO, HN, HZ, HS2, F2⟩ := hrel
    clear HS1 F1
    by_cases hlt : k < n
    · have hlt' : (k : Int) < (n : Int) := by omega
      go_wp2_with fail
      refine (IT.out _ _ HS2.out).mono ?_
      rintro e w2 ⟨uz, un, um, s3, rfl, g3, h3, q3⟩
      have hw2 : w.heap.size ≤ w2.heap.size := Nat.le_trans F2.out.below.size q3.below.size
      have HG3 : Hid (Got (s2.bind (insD num)) ⟨uz, (un : Int), (um : Int)⟩ s3) := g3
      have HS3 : Hid (St w0 a0 a1 w2 g s3) := h3
      have HO3 : Hid (OLi w2 w.heap.size av k cv l) := HO.out.hold (fun b h1 h2 => q3.keep b h2 (by omega))
      have F3 : Hid (Fq g w w2) := F2.out.trans q3
      clear g3 h3 q3 HS2 HO F2
      have S4 : Hid (St w0 a0 a1 (w2.alloc (.cells #[.int .i64 uz, .int .i64 (un : Int), .int .i64 (um : Int)] 50)) g s3) := HS3.out.keep ((Below.refl _ _).alloc (Nat.le_refl _) _)
      cases s3 with
      | none =>
        obtain ⟨_, _, av4, m4, cv4, f4, hL4, _, _, _, h6⟩ := S4.out
        have c1 : (w2.alloc (.cells #[.int .i64 uz, .int .i64 (un : Int), .int .i64 (um : Int)] 50)).cell? ⟨g, 1, none⟩ = some f4 := hL4.at (j := 1) (by omega)
        have F4 : Hid (Fq g w (w2.alloc (.cells #[.int .i64 uz, .int .i64 (un : Int), .int .i64 (um : Int)] 50))) := F3.out.grown (by omega) ((Below.refl _ _).alloc (Nat.le_refl _) _)
        have g5 := got_then (e := fun (n : Nat) (ys : List Int) => listD (insD num) n ys) HG1.out (.inl ⟨list_bad rfl (list_next hlt HN.out HG3.out), rfl⟩ : Got (s1.bind (listD (insD num) n)) [] none)
        have g6 : Got (s.bind (manyD num (insD num))) [] none := g5
        have HG6 : Hid (Got (s.bind (manyD num (insD num))) [] none) := g6
        have hf := h6 rfl
        clear hL4 h6 g5 g6
        rcases hf with rfl | rfl
        all_goals
          go_wp2
          go_returns
          exact ⟨none, 0, 0, [], none, rfl, by simp, oli_nil _ _, HG6.out, S4.out, F4.out⟩
      | some zs =>
        obtain ⟨_, _, av4, m4, cv4, f4, hL4, _, _, h5, _⟩ := S4.out
        obtain ⟨_, _, _, rfl⟩ := h5 zs rfl
        have c1 : (w2.alloc (.cells #[.int .i64 uz, .int .i64 (un : Int), .int .i64 (um : Int)] 50)).cell? ⟨g, 1, none⟩ = some .nilIface := hL4.at (j := 1) (by omega)
        have hz := got_less (fun h => by have := insD_len num_len h; omega) HZ.out HG3.out
        clear hL4 h5
        obtain ⟨us, hus, hx⟩ := HO3.out.row
        have b5 : Below w2.heap.size w2 ((w2.alloc (.cells #[.int .i64 uz, .int .i64 (un : Int), .int .i64 (um : Int)] 50)).alloc (.cells #[.int .i64 uz, .int .i64 (un : Int), .int .i64 (um : Int)] 50)) := ((Below.refl _ _).alloc (Nat.le_refl _) _).alloc (by simp) _
        have HUS : Hid (((w2.alloc (.cells #[.int .i64 uz, .int .i64 (un : Int), .int .i64 (um : Int)] 50)).alloc (.cells #[.int .i64 uz, .int .i64 (un : Int), .int .i64 (um : Int)] 50)).ownsRow w.heap.size 50 3 (.slice av k cv) k us) := th.own_hold hus (fun b h1 h2 _ => b5.block b h2)
        have HX : Hid (∀ j, j < k → InAt us j (l.getD j in0)) := hx
        have NW : Hid (0 < 1 → ∃ ad, (some ⟨w2.heap.size + 1, 0, none⟩ : Option Addr) = some ad ∧ ∀ j u, [.int .i64 uz, .int .i64 (un : Int), .int .i64 (um : Int)][j]? = some u → ((w2.alloc (.cells #[.int .i64 uz, .int .i64 (un : Int), .int .i64 (um : Int)] 50)).alloc (.cells #[.int .i64 uz, .int .i64 (un : Int), .int .i64 (um : Int)] 50)).cell? (ad.add j) = some u) := fun _ => ⟨_, rfl, fun j u e => by
          rw [plainAt]
          have := cellNew (w := w2.alloc (.cells #[.int .i64 uz, .int .i64 (un : Int), .int .i64 (um : Int)] 50)) (cs := #[.int .i64 uz, .int .i64 (un : Int), .int .i64 (um : Int)]) (t := 50) (j := j) (v := u) (by simpa using e)
          simpa using this⟩
        clear hus hx
        go_wp2_with (at_builtin; refine wpList_append_row rfl _ _ _ rfl 50 i0 (.agg #[.int .i64 0, .int .i64 0, .int .i64 0]) 3 24 Tryd.underlying44 hi0 hz0 hz1 hz2 rfl (by omega) w.heap.size av k cv us rfl HUS.out (some ⟨w2.heap.size + 1, 0, none⟩) 1 1 [.int .i64 uz, .int .i64 (un : Int), .int .i64 (um : Int)] rfl rfl NW.out (by simp [Value.oneCell']) (by unfold maxLen; omega) (by omega) (by simp; omega) ?_; intro av5 cv5 w5 hA; have HA : Hid (AppR 50 3 ((w2.alloc (.cells #[.int .i64 uz, .int .i64 (un : Int), .int .i64 (um : Int)] 50)).alloc (.cells #[.int .i64 uz, .int .i64 (un : Int), .int .i64 (um : Int)] 50)) w.heap.size av k cv (us ++ [.int .i64 uz, .int .i64 (un : Int), .int .i64 (um : Int)]) av5 (k + 1) cv5 w5) := hA; clear hA)
        have hrow : ∀ b, (Value.slice av k cv).ownBlock = some b → w.heap.size ≤ b := fun b e => (HUS.out.lt b e).1
        refine ⟨⟨k + 1, cv5, av5, l ++ [(⟨uz, (un : Int), (um : Int)⟩ : In)], some zs, by omega, by omega, by go_num, rfl, by show (l ++ [_]).length = k + 1; simp [HLn.out], oli_snoc HLn.out HUS.out HX.out HA.out, list_next hlt HN.out HG3.out, fun ys e => (by cases e; exact hz), (S4.out.keep ((Below.refl _ _).alloc (Nat.le_refl _) _)).app HA.out.grow (fun b e => by have := hrow b e; omega), (F3.out.grown (by omega) b5).app HA.out.grow hgl hrow⟩, by simp [intOf]; omega⟩
    · obtain rfl : k = n := by omega
      have g5 := got_then (e := fun (n : Nat) (ys : List Int) => listD (insD num) n ys) HG1.out (list_end HN.out)
      have g6 : Got (s.bind (manyD num (insD num))) l s2 := g5
      have HG6 : Hid (Got (s.bind (manyD num (insD num))) l s2) := g6
      clear g5 g6
      go_wp2
      go_returns
      exact ⟨av, k, cv, l, s2, rfl, by rw [HLn.out]; omega, HO.out, HG6.out, HS2.out, F2.out⟩
end Go.Proofs.YteagakplhfiodaaDoor.ld

namespace Go.Proofs.YteagakplhfiodaaDoor.ld
open Go.RowKit Go.Proofs.YteagakplhfiodaaDoor.bts Go.Proofs.YteagakplhfiodaaDoor.pg Go.Proofs.YteagakplhfiodaaDoor.chk Go.Proofs.YteagakplhfiodaaDoor.sv Go.Proofs.YteagakplhfiodaaDoor.th

set_option maxRecDepth 100000 in
set_option maxHeartbeats 2000000 in
theorem readListConst_any (w0 w : World) (a0 a1 : Addr) (g : Nat) (s : Option (List Int)) (hE : Er w0 a0 a1) (h : St w0 a0 a1 w g s) :
    Calls Tryd.prog 31 #[.pointer (some ⟨g, 0, none⟩), .func (.func 32) #[.pointer (some ⟨g, 0, none⟩)] #[]] w fun e w' => ∃ (av : Option Addr) (m cv : Nat) (l : List Cn) (s' : Option (List Int)), e = .returned (.slice av m cv) ∧ l.length ≤ 1048576 ∧ OLk w' w.heap.size av m cv l ∧ Got (s.bind (manyD num (constD num flagD))) l s' ∧ St w0 a0 a1 w' g s' ∧ Fq g w w' := by
  have NM : Hid (∀ W s, St w0 a0 a1 W g s → Calls Tryd.prog 51 #[.pointer (some ⟨g, 0, none⟩)] W fun e w' => ∃ (n : Nat) (s' : Option (List Int)), e = .returned (.int .i64 (n : Int)) ∧ n ≤ 9223372036854775807 ∧ Got (s.bind num) n s' ∧ St w0 a0 a1 w' g s' ∧ Fq g W w') := fun W s h => number_any w0 W a0 a1 g s hE h
  have IT : Hid (∀ W s, St w0 a0 a1 W g s → Calls Tryd.prog 32 #[.pointer (some ⟨g, 0, none⟩)] W fun e w' => ∃ (t : Bool) (x : Int) (av : Option Addr) (m cv : Nat) (ys : List Int) (s' : Option (List Int)), e = .returned (.agg #[.bool t, .int .i64 x, .slice av m cv]) ∧ RwS w' (W.heap.size + 1) (.slice av m cv) ys ∧ Bts ys ∧ ys.length ≤ 1048576 ∧ Got (s.bind (constD num flagD)) ⟨t, x, ys⟩ s' ∧ St w0 a0 a1 w' g s' ∧ Fq g W w') := fun W s h => constant_any w0 W a0 a1 g s hE h
  obtain ⟨i0, hi0, hz0, hz1, hz2⟩ := info_parts info_const
  have hgl := h.lt
  have HS : Hid (St w0 a0 a1 w g s) := h
  clear h hE
  go_enter Tryd.func31, Tryd.ntmps31
  go_wp2_with fail
  refine (NM.out _ _ HS.out).mono ?_
  rintro e w1 ⟨n, s1, rfl, hn, g1, h1, q1⟩
  have HG1 : Hid (Got (s.bind num) n s1) := g1
  have HS1 : Hid (St w0 a0 a1 w1 g s1) := h1
  have F1 : Hid (Fq g w w1) := q1
  clear g1 h1 q1 HS
  go_wp2_with fail
  go_loopw [5, 9] (fun v x wr => ∃ (k cv : Nat) (av : Option Addr) (l : List Cn) (s' : Option (List Int)), k ≤ n ∧ k ≤ 1048576 ∧ x = .int .i64 (k : Int) ∧ v = .slice av k cv ∧ Hid (l.length = k) ∧ Hid (OLk wr w.heap.size av k cv l) ∧ Hid (s1.bind (listD (constD num flagD) n) = (s'.bind (listD (constD num flagD) (n - k))).map fun y => (l ++ y.1, y.2)) ∧ Hid (∀ ys, s' = some ys → k + ys.length ≤ 1048576) ∧ Hid (St w0 a0 a1 wr g s') ∧ Hid (Fq g w wr)) (fun _ x _ => n - (intOf x).toNat)
  case atStart =>
    exact ⟨0, 0, none, [], s1, by omega, by omega, rfl, rfl, rfl, olk_nil _ _, list_start, fun ys e => by subst e; have := HS1.out.held.2; omega, HS1.out, F1.out⟩
  case round =>
    obtain ⟨k, cv, av, l, s2, hk, hk2, rfl, rfl, HLn, HO, HN, HZ, HS2, F2⟩ := hrel
    clear HS1 F1
    by_cases hlt : k < n
    · obtain ⟨-, hok, ut, hbk⟩ := HO.out
      have HOK : Hid (KOk l) := hok
      have HBK : Hid (BK wr w.heap.size (.slice av k cv) k (fun j => l.getD j cn0) ut) := hbk
      clear hok hbk
      have hlt' : (k : Int) < (n : Int) := by omega
      go_wp2_with fail
      refine (IT.out _ _ HS2.out).mono ?_
      rintro e w2 ⟨tb, tx, aT, mT, cT, ys, s3, rfl, oT, hBt, hyl, g3, h3, q3⟩
      have hw2 : w.heap.size ≤ w2.heap.size := Nat.le_trans F2.out.below.size q3.below.size
      have HG3 : Hid (Got (s2.bind (constD num flagD)) ⟨tb, tx, ys⟩ s3) := g3
      have HS3 : Hid (St w0 a0 a1 w2 g s3) := h3
      have HO3 : Hid (BK w2 w.heap.size (.slice av k cv) k (fun j => l.getD j cn0) ut) := HBK.out.hold (fun b h1 h2 => q3.keep b h2 (by omega))
      have F3 : Hid (Fq g w w2) := F2.out.trans q3
      have HT : Hid (RwS w2 (wr.heap.size + 1) (.slice aT mT cT) ys ∧ Bts ys ∧ ys.length ≤ 1048576) := ⟨oT, hBt, hyl⟩
      have hwr : w.heap.size ≤ wr.heap.size := F2.out.below.size
      clear oT hBt hyl
      clear g3 h3 q3 HS2 HO F2
      have S4 : Hid (St w0 a0 a1 (w2.alloc (.cells #[.bool tb, .int .i64 tx, .slice aT mT cT] 40)) g s3) := HS3.out.keep ((Below.refl _ _).alloc (Nat.le_refl _) _)
      cases s3 with
      | none =>
        obtain ⟨_, _, av4, m4, cv4, f4, hL4, _, _, _, h6⟩ := S4.out
        have c1 : (w2.alloc (.cells #[.bool tb, .int .i64 tx, .slice aT mT cT] 40)).cell? ⟨g, 1, none⟩ = some f4 := hL4.at (j := 1) (by omega)
        have F4 : Hid (Fq g w (w2.alloc (.cells #[.bool tb, .int .i64 tx, .slice aT mT cT] 40))) := F3.out.grown (by omega) ((Below.refl _ _).alloc (Nat.le_refl _) _)
        have g5 := got_then (e := fun (n : Nat) (ys : List Int) => listD (constD num flagD) n ys) HG1.out (.inl ⟨list_bad rfl (list_next hlt HN.out HG3.out), rfl⟩ : Got (s1.bind (listD (constD num flagD) n)) [] none)
        have g6 : Got (s.bind (manyD num (constD num flagD))) [] none := g5
        have HG6 : Hid (Got (s.bind (manyD num (constD num flagD))) [] none) := g6
        have hf := h6 rfl
        clear hL4 h6 g5 g6
        rcases hf with rfl | rfl
        all_goals
          go_wp2
          go_returns
          exact ⟨none, 0, 0, [], none, rfl, by simp, olk_nil _ _, HG6.out, S4.out, F4.out⟩
      | some zs =>
        obtain ⟨_, _, av4, m4, cv4, f4, hL4, _, _, h5, _⟩ := S4.out
        obtain ⟨_, _, _, rfl⟩ := h5 zs rfl
        have c1 : (w2.alloc (.cells #[.bool tb, .int .i64 tx, .slice aT mT cT] 40)).cell? ⟨g, 1, none⟩ = some .nilIface := hL4.at (j := 1) (by omega)
        have hz := got_less (fun h => by have := constD_len num_len flagD_len h; omega) HZ.out HG3.out
        clear hL4 h5
        obtain ⟨us, hus, hx⟩ := HO3.out.row
        have b5 : Below w2.heap.size w2 ((w2.alloc (.cells #[.bool tb, .int .i64 tx, .slice aT mT cT] 40)).alloc (.cells #[.bool tb, .int .i64 tx, .slice aT mT cT] 40)) := ((Below.refl _ _).alloc (Nat.le_refl _) _).alloc (by simp) _
        have HUS : Hid (((w2.alloc (.cells #[.bool tb, .int .i64 tx, .slice aT mT cT] 40)).alloc (.cells #[.bool tb, .int .i64 tx, .slice aT mT cT] 40)).ownsRow w.heap.size 40 3 (.slice av k cv) k us) := th.own_hold hus (fun b h1 h2 _ => b5.block b h2)
        have HX : Hid (∀ j, j < k → us[j * 3]? = some (.bool (l.getD j cn0).isText) ∧ us[j * 3 + 1]? = some (.int .i64 (l.getD j cn0).n) ∧ us[j * 3 + 2]? = some (ut j)) := hx
        have NW : Hid (0 < 1 → ∃ ad, (some ⟨w2.heap.size + 1, 0, none⟩ : Option Addr) = some ad ∧ ∀ j u, [.bool tb, .int .i64 tx, .slice aT mT cT][j]? = some u → ((w2.alloc (.cells #[.bool tb, .int .i64 tx, .slice aT mT cT] 40)).alloc (.cells #[.bool tb, .int .i64 tx, .slice aT mT cT] 40)).cell? (ad.add j) = some u) := fun _ => ⟨_, rfl, fun j u e => by
          rw [plainAt]
          have := cellNew (w := w2.alloc (.cells #[.bool tb, .int .i64 tx, .slice aT mT cT] 40)) (cs := #[.bool tb, .int .i64 tx, .slice aT mT cT]) (t := 40) (j := j) (v := u) (by simpa using e)
          simpa using this⟩
        clear hus hx
        go_wp2_with (at_builtin; refine wpList_append_row rfl _ _ _ rfl 40 i0 (.agg #[.bool false, .int .i64 0, .slice none 0 0]) 3 40 Tryd.underlying23 hi0 hz0 hz1 hz2 rfl (by omega) w.heap.size av k cv us rfl HUS.out (some ⟨w2.heap.size + 1, 0, none⟩) 1 1 [.bool tb, .int .i64 tx, .slice aT mT cT] rfl rfl NW.out (by simp [Value.oneCell']) (by unfold maxLen; omega) (by omega) (by simp; omega) ?_; intro av5 cv5 w5 hA; have HA : Hid (AppR 40 3 ((w2.alloc (.cells #[.bool tb, .int .i64 tx, .slice aT mT cT] 40)).alloc (.cells #[.bool tb, .int .i64 tx, .slice aT mT cT] 40)) w.heap.size av k cv (us ++ [.bool tb, .int .i64 tx, .slice aT mT cT]) av5 (k + 1) cv5 w5) := hA; clear hA)
        have hrow : ∀ b, (Value.slice av k cv).ownBlock = some b → w.heap.size ≤ b := fun b e => (HUS.out.lt b e).1
        refine ⟨⟨k + 1, cv5, av5, l ++ [(⟨tb, tx, ys⟩ : Cn)], some zs, by omega, by omega, by go_num, rfl, by show (l ++ [_]).length = k + 1; simp [HLn.out], olk_snoc (M := wr.heap.size) HLn.out hk2 HOK.out (HO3.out.hold (fun b h1 h2 => b5.block b h2)) (fun b e => (HBK.out.lt b e).2) (fun j hj b e => ((HBK.out.texts j hj).lt b e).2) ((HT.out.1.hold (fun b h1 h2 _ => b5.block b h2)).weaken (by omega)) (fun b e => by have := (HT.out.1.lt b e).1; omega) HT.out.2.1 (by have := HT.out.2.2; omega) HUS.out HX.out HA.out, list_next hlt HN.out HG3.out, fun ys e => (by cases e; exact hz), (S4.out.keep ((Below.refl _ _).alloc (Nat.le_refl _) _)).app HA.out.grow (fun b e => by have := hrow b e; omega), (F3.out.grown (by omega) b5).app HA.out.grow hgl hrow⟩, by simp [intOf]; omega⟩
    · obtain rfl : k = n := by omega
      have g5 := got_then (e := fun (n : Nat) (ys : List Int) => listD (constD num flagD) n ys) HG1.out (list_end HN.out)
      have g6 : Got (s.bind (manyD num (constD num flagD))) l s2 := g5
      have HG6 : Hid (Got (s.bind (manyD num (constD num flagD))) l s2) := g6
      clear g5 g6
      go_wp2
      go_returns
      exact ⟨av, k, cv, l, s2, rfl, by rw [HLn.out]; omega, HO.out, HG6.out, HS2.out, F2.out⟩
end Go.Proofs.YteagakplhfiodaaDoor.ld

namespace Go.Proofs.YteagakplhfiodaaDoor.ld
open Go.RowKit Go.Proofs.YteagakplhfiodaaDoor.bts Go.Proofs.YteagakplhfiodaaDoor.pg Go.Proofs.YteagakplhfiodaaDoor.chk Go.Proofs.YteagakplhfiodaaDoor.sv Go.Proofs.YteagakplhfiodaaDoor.th

theorem OLc.weaken {w : World} {B B' n cv : Nat} {av : Option Addr} {l : List Cp} (h : OLc w B av n cv l) (hB : B' ≤ B) : OLc w B' av n cv l := ⟨h.1, h.2.weaken hB⟩
theorem OLi.weaken {w : World} {B B' n cv : Nat} {av : Option Addr} {l : List In} (h : OLi w B av n cv l) (hB : B' ≤ B) : OLi w B' av n cv l := ⟨h.1, h.2.weaken hB⟩
theorem set_other {w : World} {B R o : Nat} {v : Value} (hR : R < B) : ∀ b, B ≤ b → b < w.heap.size → (w.setCell ⟨R, o, none⟩ v).heap[b]? = w.heap[b]? := fun b h1 _ => Below.heap_setCell w ⟨R, o, none⟩ _ b (by show b ≠ R; omega)

set_option maxRecDepth 100000 in
set_option maxHeartbeats 2000000 in
theorem function_any (w0 w : World) (a0 a1 : Addr) (g : Nat) (s : Option (List Int)) (hE : Er w0 a0 a1) (h : St w0 a0 a1 w g s) :
    Calls Tryd.prog 34 #[.pointer (some ⟨g, 0, none⟩)] w fun e w' => ∃ (p q : Nat) (aC : Option Addr) (mC cC : Nat) (aD : Option Addr) (mD cD M : Nat) (cs : List Cp) (ds : List In) (s' : Option (List Int)), e = .returned (.agg #[.int .i64 (p : Int), .int .i64 (q : Int), .slice aC mC cC, .slice aD mD cD]) ∧ OLc w' (w.heap.size + 2) aC mC cC cs ∧ OLi w' (w.heap.size + 2) aD mD cD ds ∧ (∀ b, (Value.slice aC mC cC).ownBlock = some b → b < M) ∧ (∀ b, (Value.slice aD mD cD).ownBlock = some b → M ≤ b) ∧ cs.length ≤ 1048576 ∧ ds.length ≤ 1048576 ∧ Got (s.bind (protoD num flagD)) ⟨(p : Int), (q : Int), cs, ds⟩ s' ∧ St w0 a0 a1 w' g s' ∧ Fq g w w' := by
  have NM : Hid (∀ W s, St w0 a0 a1 W g s → Calls Tryd.prog 51 #[.pointer (some ⟨g, 0, none⟩)] W fun e w' => ∃ (n : Nat) (s' : Option (List Int)), e = .returned (.int .i64 (n : Int)) ∧ n ≤ 9223372036854775807 ∧ Got (s.bind num) n s' ∧ St w0 a0 a1 w' g s' ∧ Fq g W w') := fun W s h => number_any w0 W a0 a1 g s hE h
  have LC : Hid (∀ W s, St w0 a0 a1 W g s → Calls Tryd.prog 55 #[.pointer (some ⟨g, 0, none⟩), .func (.func 56) #[.pointer (some ⟨g, 0, none⟩)] #[]] W fun e w' => ∃ (av : Option Addr) (m cv : Nat) (l : List Cp) (s' : Option (List Int)), e = .returned (.slice av m cv) ∧ l.length ≤ 1048576 ∧ OLc w' W.heap.size av m cv l ∧ Got (s.bind (manyD num (capD num flagD))) l s' ∧ St w0 a0 a1 w' g s' ∧ Fq g W w') := fun W s h => readListCapture_any w0 W a0 a1 g s hE h
  have LI : Hid (∀ W s, St w0 a0 a1 W g s → Calls Tryd.prog 57 #[.pointer (some ⟨g, 0, none⟩), .func (.func 58) #[.pointer (some ⟨g, 0, none⟩)] #[]] W fun e w' => ∃ (av : Option Addr) (m cv : Nat) (l : List In) (s' : Option (List Int)), e = .returned (.slice av m cv) ∧ l.length ≤ 1048576 ∧ OLi w' W.heap.size av m cv l ∧ Got (s.bind (manyD num (insD num))) l s' ∧ St w0 a0 a1 w' g s' ∧ Fq g W w') := fun W s h => readListIns_any w0 W a0 a1 g s hE h
  have hgl := h.lt
  have b0 : Below w.heap.size w ((w.alloc (.cells #[.int .i64 0, .int .i64 0, .slice none 0 0, .slice none 0 0] 46)).alloc (.cells #[.int .i64 0, .int .i64 0, .slice none 0 0, .slice none 0 0] 46)) := ((Below.refl _ _).alloc (Nat.le_refl _) _).alloc (by simp) _
  have S0 : Hid (St w0 a0 a1 ((w.alloc (.cells #[.int .i64 0, .int .i64 0, .slice none 0 0, .slice none 0 0] 46)).alloc (.cells #[.int .i64 0, .int .i64 0, .slice none 0 0, .slice none 0 0] 46)) g s ∧ Fq g w ((w.alloc (.cells #[.int .i64 0, .int .i64 0, .slice none 0 0, .slice none 0 0] 46)).alloc (.cells #[.int .i64 0, .int .i64 0, .slice none 0 0, .slice none 0 0] 46)) ∧ w.heap.size + 2 ≤ ((w.alloc (.cells #[.int .i64 0, .int .i64 0, .slice none 0 0, .slice none 0 0] 46)).alloc (.cells #[.int .i64 0, .int .i64 0, .slice none 0 0, .slice none 0 0] 46)).heap.size) := ⟨h.keep b0, Fq.of (Nat.le_of_lt hgl) b0, by simp⟩
  have A0 : Hid (Lone 46 4 ((w.alloc (.cells #[.int .i64 0, .int .i64 0, .slice none 0 0, .slice none 0 0] 46)).alloc (.cells #[.int .i64 0, .int .i64 0, .slice none 0 0, .slice none 0 0] 46)) w.heap.size [.int .i64 0, .int .i64 0, .slice none 0 0, .slice none 0 0]) := (lone_new w rfl).below ((Below.refl _ _).alloc (Nat.le_refl _) _) (by simp)
  have B0 : Hid (Lone 46 4 ((w.alloc (.cells #[.int .i64 0, .int .i64 0, .slice none 0 0, .slice none 0 0] 46)).alloc (.cells #[.int .i64 0, .int .i64 0, .slice none 0 0, .slice none 0 0] 46)) (w.heap.size + 1) [.int .i64 0, .int .i64 0, .slice none 0 0, .slice none 0 0]) := by
    have := lone_new (T := 46) (c := 4) (w.alloc (.cells #[.int .i64 0, .int .i64 0, .slice none 0 0, .slice none 0 0] 46)) (xs := [.int .i64 0, .int .i64 0, .slice none 0 0, .slice none 0 0]) rfl
    rw [World.size_alloc] at this
    exact this
  clear h hE b0
  go_enter Tryd.func34, Tryd.ntmps34
  go_wp2_with fail
  generalize (w.alloc (.cells #[.int .i64 0, .int .i64 0, .slice none 0 0, .slice none 0 0] 46)).alloc (.cells #[.int .i64 0, .int .i64 0, .slice none 0 0, .slice none 0 0] 46) = W0 at S0 A0 B0 ⊢
  refine (NM.out _ _ S0.out.1).mono ?_
  rintro e w1 ⟨p, s1, rfl, hp, g1, h1, q1⟩
  have A1 : Lone 46 4 w1 w.heap.size [.int .i64 0, .int .i64 0, .slice none 0 0, .slice none 0 0] := q1.lone A0.out (by omega)
  have B1 : Lone 46 4 w1 (w.heap.size + 1) [.int .i64 0, .int .i64 0, .slice none 0 0, .slice none 0 0] := q1.lone B0.out (by omega)
  have HG1 : Hid (Got (s.bind num) p s1) := g1
  have S1 : Hid (St w0 a0 a1 (w1.setCell ⟨w.heap.size + 1, 0, none⟩ (.int .i64 (p : Int))) g s1 ∧ Fq g w (w1.setCell ⟨w.heap.size + 1, 0, none⟩ (.int .i64 (p : Int))) ∧ w.heap.size + 2 ≤ (w1.setCell ⟨w.heap.size + 1, 0, none⟩ (.int .i64 (p : Int))).heap.size) := ⟨h1.far (by omega), (S0.out.2.1.trans q1).far (by omega) hgl _, by have h1 := q1.below.size; have h2 := S0.out.2.2; simp; omega⟩
  have A2 : Hid (Lone 46 4 (w1.setCell ⟨w.heap.size + 1, 0, none⟩ (.int .i64 (p : Int))) w.heap.size [.int .i64 0, .int .i64 0, .slice none 0 0, .slice none 0 0]) := A1.other (by omega)
  have B2 : Hid (Lone 46 4 (w1.setCell ⟨w.heap.size + 1, 0, none⟩ (.int .i64 (p : Int))) (w.heap.size + 1) [.int .i64 (p : Int), .int .i64 0, .slice none 0 0, .slice none 0 0]) := B1.set 0 _
  have f0 := B1.free 0
  have c0 := B1.at (j := 0) (by omega)
  simp only [List.getElem?_cons_zero] at c0
  clear g1 h1 q1 A1 B1 S0 A0 B0
  go_wp2_with fail
  clear f0 c0
  generalize w1.setCell ⟨w.heap.size + 1, 0, none⟩ (.int .i64 (p : Int)) = W1 at S1 A2 B2 ⊢
  refine (NM.out _ _ S1.out.1).mono ?_
  rintro e w2 ⟨q, s2, rfl, hq, g2, h2, q2⟩
  have A3 : Lone 46 4 w2 w.heap.size [.int .i64 0, .int .i64 0, .slice none 0 0, .slice none 0 0] := q2.lone A2.out (by omega)
  have B3 : Lone 46 4 w2 (w.heap.size + 1) [.int .i64 (p : Int), .int .i64 0, .slice none 0 0, .slice none 0 0] := q2.lone B2.out (by omega)
  have HG2 : Hid (Got (s1.bind num) q s2) := g2
  have S2 : Hid (St w0 a0 a1 (w2.setCell ⟨w.heap.size + 1, 1, none⟩ (.int .i64 (q : Int))) g s2 ∧ Fq g w (w2.setCell ⟨w.heap.size + 1, 1, none⟩ (.int .i64 (q : Int))) ∧ w.heap.size + 2 ≤ (w2.setCell ⟨w.heap.size + 1, 1, none⟩ (.int .i64 (q : Int))).heap.size) := ⟨h2.far (by omega), (S1.out.2.1.trans q2).far (by omega) hgl _, by have h1 := q2.below.size; have h2 := S1.out.2.2; simp; omega⟩
  have A4 : Hid (Lone 46 4 (w2.setCell ⟨w.heap.size + 1, 1, none⟩ (.int .i64 (q : Int))) w.heap.size [.int .i64 0, .int .i64 0, .slice none 0 0, .slice none 0 0]) := A3.other (by omega)
  have B4 : Hid (Lone 46 4 (w2.setCell ⟨w.heap.size + 1, 1, none⟩ (.int .i64 (q : Int))) (w.heap.size + 1) [.int .i64 (p : Int), .int .i64 (q : Int), .slice none 0 0, .slice none 0 0]) := B3.set 1 _
  have f0 := B3.free 1
  have c0 := B3.at (j := 1) (by omega)
  simp only [List.getElem?_cons_zero, List.getElem?_cons_succ] at c0
  clear g2 h2 q2 A3 B3 S1 A2 B2
  go_wp2_with fail
  clear f0 c0
  generalize w2.setCell ⟨w.heap.size + 1, 1, none⟩ (.int .i64 (q : Int)) = W2 at S2 A4 B4 ⊢
  refine (LC.out _ _ S2.out.1).mono ?_
  rintro e w3 ⟨aC, mC, cC, cs, s3, rfl, hcl, oC, g3, h3, q3⟩
  have hs2 := S2.out.2.2
  have A5 : Lone 46 4 w3 w.heap.size [.int .i64 0, .int .i64 0, .slice none 0 0, .slice none 0 0] := q3.lone A4.out (by omega)
  have B5 : Lone 46 4 w3 (w.heap.size + 1) [.int .i64 (p : Int), .int .i64 (q : Int), .slice none 0 0, .slice none 0 0] := q3.lone B4.out (by omega)
  have HG3 : Hid (Got (s2.bind (manyD num (capD num flagD))) cs s3) := g3
  have S3 : Hid (St w0 a0 a1 (w3.setCell ⟨w.heap.size + 1, 2, none⟩ (.slice aC mC cC)) g s3 ∧ Fq g w (w3.setCell ⟨w.heap.size + 1, 2, none⟩ (.slice aC mC cC)) ∧ w.heap.size + 2 ≤ (w3.setCell ⟨w.heap.size + 1, 2, none⟩ (.slice aC mC cC)).heap.size) := ⟨h3.far (by omega), (S2.out.2.1.trans q3).far (by omega) hgl _, by have h1 := q3.below.size; simp; omega⟩
  have A6 : Hid (Lone 46 4 (w3.setCell ⟨w.heap.size + 1, 2, none⟩ (.slice aC mC cC)) w.heap.size [.int .i64 0, .int .i64 0, .slice none 0 0, .slice none 0 0]) := A5.other (by omega)
  have B6 : Hid (Lone 46 4 (w3.setCell ⟨w.heap.size + 1, 2, none⟩ (.slice aC mC cC)) (w.heap.size + 1) [.int .i64 (p : Int), .int .i64 (q : Int), .slice aC mC cC, .slice none 0 0]) := B5.set 2 _
  have O6 : Hid (OLc (w3.setCell ⟨w.heap.size + 1, 2, none⟩ (.slice aC mC cC)) (w.heap.size + 2) aC mC cC cs) := (oC.weaken hs2).hold (set_other (by omega))
  have HCL : Hid (cs.length ≤ 1048576) := hcl
  have f0 := B5.free 2
  have c0 := B5.at (j := 2) (by omega)
  simp only [List.getElem?_cons_zero, List.getElem?_cons_succ] at c0
  clear g3 h3 q3 A5 B5 S2 A4 B4 oC hs2 hcl
  go_wp2_with fail
  clear f0 c0
  generalize w3.setCell ⟨w.heap.size + 1, 2, none⟩ (.slice aC mC cC) = W3 at S3 A6 B6 O6 ⊢
  refine (LI.out _ _ S3.out.1).mono ?_
  rintro e w4 ⟨aD, mD, cD, ds, s4, rfl, hdl, oD, g4, h4, q4⟩
  have hs3 := S3.out.2.2
  have A7 : Lone 46 4 w4 w.heap.size [.int .i64 0, .int .i64 0, .slice none 0 0, .slice none 0 0] := q4.lone A6.out (by omega)
  have B7 : Lone 46 4 w4 (w.heap.size + 1) [.int .i64 (p : Int), .int .i64 (q : Int), .slice aC mC cC, .slice none 0 0] := q4.lone B6.out (by omega)
  have e5 := got_map (fun l : List In => (⟨(p : Int), (q : Int), cs, l⟩ : Pr)) g4
  have e6 := got_then (e := fun (c : List Cp) (ys : List Int) => (manyD num (insD num) ys).map fun d : List In × List Int => ((⟨(p : Int), (q : Int), c, d.1⟩ : Pr), d.2)) HG3.out e5
  have e7 := got_then (e := fun (b : Nat) (ys : List Int) => (manyD num (capD num flagD) ys).bind fun c => (manyD num (insD num) c.2).map fun d : List In × List Int => ((⟨(p : Int), (b : Int), c.1, d.1⟩ : Pr), d.2)) HG2.out e6
  have e8 := got_then (e := fun (a : Nat) (ys : List Int) => (num ys).bind fun b => (manyD num (capD num flagD) b.2).bind fun c => (manyD num (insD num) c.2).map fun d : List In × List Int => ((⟨(a : Int), (b.1 : Int), c.1, d.1⟩ : Pr), d.2)) HG1.out e7
  have e9 : Got (s.bind (protoD num flagD)) ⟨(p : Int), (q : Int), cs, ds⟩ s4 := e8
  have HG4 : Hid (Got (s.bind (protoD num flagD)) ⟨(p : Int), (q : Int), cs, ds⟩ s4) := e9
  have O7 : OLc w4 (w.heap.size + 2) aC mC cC cs := O6.out.hold (fun b h1 h2 => q4.keep b h2 (by omega))
  have SP : Hid ((∀ b, (Value.slice aC mC cC).ownBlock = some b → b < W3.heap.size) ∧ (∀ b, (Value.slice aD mD cD).ownBlock = some b → W3.heap.size ≤ b) ∧ cs.length ≤ 1048576 ∧ ds.length ≤ 1048576) := ⟨fun b e => (O6.out.2.lt b e).2, fun b e => (oD.2.lt b e).1, HCL.out, hdl⟩
  obtain ⟨WE, hWE⟩ : ∃ WE, WE = (((((w4.setCell ⟨w.heap.size + 1, 3, none⟩ (.slice aD mD cD)).setCell ⟨w.heap.size, 0, none⟩ (.int .i64 (p : Int))).setCell ⟨w.heap.size, 1, none⟩ (.int .i64 (q : Int))).setCell ⟨w.heap.size, 2, none⟩ (.slice aC mC cC)).setCell ⟨w.heap.size, 3, none⟩ (.slice aD mD cD)) := ⟨_, rfl⟩
  have S4 : Hid (St w0 a0 a1 WE g s4 ∧ Fq g w WE) := by
    rw [hWE]
    exact ⟨((((h4.far (by omega)).far (by omega)).far (by omega)).far (by omega)).far (by omega), (((((S3.out.2.1.trans q4).far (by omega) hgl _).far (by omega) hgl _).far (by omega) hgl _).far (by omega) hgl _).far (by omega) hgl _⟩
  have O8 : Hid (OLc WE (w.heap.size + 2) aC mC cC cs ∧ OLi WE (w.heap.size + 2) aD mD cD ds) := by
    rw [hWE]
    refine ⟨?_, ?_⟩
    · exact ((((O7.hold (set_other (by omega))).hold (set_other (by omega))).hold (set_other (by omega))).hold (set_other (by omega))).hold (set_other (by omega))
    · exact (((((oD.weaken hs3).hold (set_other (by omega))).hold (set_other (by omega))).hold (set_other (by omega))).hold (set_other (by omega))).hold (set_other (by omega))
  have A8 : Hid (Lone 46 4 WE w.heap.size [.int .i64 (p : Int), .int .i64 (q : Int), .slice aC mC cC, .slice aD mD cD]) := by
    rw [hWE]
    exact (((((A7.other (by omega)).set 0 _).set 1 _).set 2 _).set 3 _)
  have HWE : Hid (WE = (((((w4.setCell ⟨w.heap.size + 1, 3, none⟩ (.slice aD mD cD)).setCell ⟨w.heap.size, 0, none⟩ (.int .i64 (p : Int))).setCell ⟨w.heap.size, 1, none⟩ (.int .i64 (q : Int))).setCell ⟨w.heap.size, 2, none⟩ (.slice aC mC cC)).setCell ⟨w.heap.size, 3, none⟩ (.slice aD mD cD))) := hWE
  have B8 := B7.set 3 (.slice aD mD cD)
  have f3 := B7.free 3
  have d3 := B7.at (j := 3) (by omega)
  have k0 := B8.at (j := 0) (by omega)
  have k1 := B8.at (j := 1) (by omega)
  have k2 := B8.at (j := 2) (by omega)
  have k3 := B8.at (j := 3) (by omega)
  have A9 : Lone 46 4 (w4.setCell ⟨w.heap.size + 1, 3, none⟩ (.slice aD mD cD)) w.heap.size [.int .i64 0, .int .i64 0, .slice none 0 0, .slice none 0 0] := A7.other (by omega)
  have r0 := A9.at (j := 0) (by omega)
  have r1 := A9.at (j := 1) (by omega)
  have r2 := A9.at (j := 2) (by omega)
  have r3 := A9.at (j := 3) (by omega)
  have t0 := A9.free 0
  have t1 := A9.free 1
  have t2 := A9.free 2
  have t3 := A9.free 3
  simp only [List.getElem?_cons_zero, List.getElem?_cons_succ, List.set_cons_zero, List.set_cons_succ] at d3 k0 k1 k2 k3 r0 r1 r2 r3
  clear g4 h4 q4 A7 B7 B8 A9 S3 A6 B6 oD O7 O6 e5 e6 e7 e8 e9 hs3 hdl HG1 HG2 HG3 hWE
  go_wp2_with fail
  rw [← HWE.out]
  refine bodyPost_ret (results_cell_row Tryd.results34 _ _ w.heap.size 46 _ _ _ rfl (Lone.back A8.out) Tryd.underlying46 rfl rfl) rfl ?_
  exact ⟨p, q, aC, mC, cC, aD, mD, cD, _, cs, ds, s4, rfl, O8.out.1, O8.out.2, SP.out.1, SP.out.2.1, SP.out.2.2.1, SP.out.2.2.2, HG4.out, S4.out⟩

def OLp (w : World) (B : Nat) (av : Option Addr) (n cv : Nat) (l : List Pr) : Prop := n = l.length ∧ POk l ∧ ∃ uc ud, BP w B (.slice av n cv) n (fun j => l.getD j pr0) uc ud
theorem olp_nil (w : World) (B : Nat) : OLp w B none 0 0 [] := ⟨rfl, ⟨by simp, fun i hi => absurd hi (by simp)⟩, fun _ => .slice none 0 0, fun _ => .slice none 0 0, bp_nil _ _ _ _ _⟩
theorem olp_snoc {w w' : World} {B M L n cv cv' : Nat} {av av' : Option Addr} {l : List Pr} {uc ud : Nat → Value} {p q : Int} {vc vd : Value} {cs : List Cp} {ds : List In} (hn : l.length = n) (hn2 : n ≤ 1048576) (ok : POk l) (hb : BP w B (.slice av n cv) n (fun j => l.getD j pr0) uc ud) (hM1 : ∀ b, (Value.slice av n cv).ownBlock = some b → b < M) (hM2 : ∀ j, j < n → ∀ b, (uc j).ownBlock = some b → b < M) (hM3 : ∀ j, j < n → ∀ b, (ud j).ownBlock = some b → b < M)
    (hc : RwC w B vc cs) (hd : RwI w B vd ds) (hvc : ∀ b, vc.ownBlock = some b → M ≤ b) (hvd : ∀ b, vd.ownBlock = some b → M ≤ b) (hL1 : ∀ b, vc.ownBlock = some b → b < L) (hL2 : ∀ b, vd.ownBlock = some b → L ≤ b) (hcl : cs.length ≤ 9223372036854775807) (hdl : ds.length ≤ 9223372036854775807)
    {us : List Value} (hus : w.ownsRow B 46 4 (.slice av n cv) n us) (hx : ∀ j, j < n → us[j * 4]? = some (.int .i64 (l.getD j pr0).params) ∧ us[j * 4 + 1]? = some (.int .i64 (l.getD j pr0).slots) ∧ us[j * 4 + 2]? = some (uc j) ∧ us[j * 4 + 3]? = some (ud j)) (hA : AppR 46 4 w B av n cv (us ++ [.int .i64 p, .int .i64 q, vc, vd]) av' (n + 1) cv' w') : OLp w' B av' (n + 1) cv' (l ++ [⟨p, q, cs, ds⟩]) := by
  subst hn
  have h1 := BP.snoc (x := ⟨p, q, cs, ds⟩) hb hc hd (fun j hj b e e' => by have := hM2 j hj b e; have := hvc b e'; omega) (fun j hj b e e' => by have := hM3 j hj b e; have := hvd b e'; omega) (fun j hj b e e' => by have := hM2 j hj b e; have := hvd b e'; omega) (fun j hj b e e' => by have := hM3 j hj b e'; have := hvc b e; omega) (fun b e e' => by have := hL1 b e; have := hL2 b e'; omega)
    (fun b e e' => by have := hM1 b e; have := hvc b e'; omega) (fun b e e' => by have := hM1 b e; have := hvd b e'; omega) us hus hx hA
  rw [ext_snoc] at h1
  refine ⟨by simp, ⟨by simp; omega, fun i hi => ?_⟩, _, _, h1⟩
  simp only [List.length_append, List.length_cons, List.length_nil] at hi
  by_cases h : i = l.length
  · subst h
    rw [snoc_at]
    exact ⟨by simp only; omega, by simp only; omega⟩
  · rw [snoc_lt (by omega)]
    exact ok.2 i (by omega)
end Go.Proofs.YteagakplhfiodaaDoor.ld

namespace Go.Proofs.YteagakplhfiodaaDoor.ld
open Go.RowKit Go.Proofs.YteagakplhfiodaaDoor.bts Go.Proofs.YteagakplhfiodaaDoor.pg Go.Proofs.YteagakplhfiodaaDoor.chk Go.Proofs.YteagakplhfiodaaDoor.sv Go.Proofs.YteagakplhfiodaaDoor.th

set_option maxRecDepth 100000 in
set_option maxHeartbeats 2000000 in
theorem readListProto_any (w0 w : World) (a0 a1 : Addr) (g : Nat) (s : Option (List Int)) (hE : Er w0 a0 a1) (h : St w0 a0 a1 w g s) :
    Calls Tryd.prog 33 #[.pointer (some ⟨g, 0, none⟩), .func (.func 34) #[.pointer (some ⟨g, 0, none⟩)] #[]] w fun e w' => ∃ (av : Option Addr) (m cv : Nat) (l : List Pr) (s' : Option (List Int)), e = .returned (.slice av m cv) ∧ l.length ≤ 1048576 ∧ OLp w' w.heap.size av m cv l ∧ Got (s.bind (manyD num (protoD num flagD))) l s' ∧ St w0 a0 a1 w' g s' ∧ Fq g w w' := by
  have NM : Hid (∀ W s, St w0 a0 a1 W g s → Calls Tryd.prog 51 #[.pointer (some ⟨g, 0, none⟩)] W fun e w' => ∃ (n : Nat) (s' : Option (List Int)), e = .returned (.int .i64 (n : Int)) ∧ n ≤ 9223372036854775807 ∧ Got (s.bind num) n s' ∧ St w0 a0 a1 w' g s' ∧ Fq g W w') := fun W s h => number_any w0 W a0 a1 g s hE h
  have IT : Hid (∀ W s, St w0 a0 a1 W g s → Calls Tryd.prog 34 #[.pointer (some ⟨g, 0, none⟩)] W fun e w' => ∃ (p q : Nat) (aC : Option Addr) (mC cC : Nat) (aD : Option Addr) (mD cD M : Nat) (cs : List Cp) (ds : List In) (s' : Option (List Int)), e = .returned (.agg #[.int .i64 (p : Int), .int .i64 (q : Int), .slice aC mC cC, .slice aD mD cD]) ∧ OLc w' (W.heap.size + 2) aC mC cC cs ∧ OLi w' (W.heap.size + 2) aD mD cD ds ∧ (∀ b, (Value.slice aC mC cC).ownBlock = some b → b < M) ∧ (∀ b, (Value.slice aD mD cD).ownBlock = some b → M ≤ b) ∧ cs.length ≤ 1048576 ∧ ds.length ≤ 1048576 ∧ Got (s.bind (protoD num flagD)) ⟨(p : Int), (q : Int), cs, ds⟩ s' ∧ St w0 a0 a1 w' g s' ∧ Fq g W w') := fun W s h => function_any w0 W a0 a1 g s hE h
  obtain ⟨i0, hi0, hz0, hz1, hz2⟩ := info_parts info_proto
  have hgl := h.lt
  have HS : Hid (St w0 a0 a1 w g s) := h
  clear h hE
  go_enter Tryd.func33, Tryd.ntmps33
  go_wp2_with fail
  refine (NM.out _ _ HS.out).mono ?_
  rintro e w1 ⟨n, s1, rfl, hn, g1, h1, q1⟩
  have HG1 : Hid (Got (s.bind num) n s1) := g1
  have HS1 : Hid (St w0 a0 a1 w1 g s1) := h1
  have F1 : Hid (Fq g w w1) := q1
  clear g1 h1 q1 HS
  go_wp2_with fail
  go_loopw [5, 9] (fun v x wr => ∃ (k cv : Nat) (av : Option Addr) (l : List Pr) (s' : Option (List Int)), k ≤ n ∧ k ≤ 1048576 ∧ x = .int .i64 (k : Int) ∧ v = .slice av k cv ∧ Hid (l.length = k) ∧ Hid (OLp wr w.heap.size av k cv l) ∧ Hid (s1.bind (listD (protoD num flagD) n) = (s'.bind (listD (protoD num flagD) (n - k))).map fun y => (l ++ y.1, y.2)) ∧ Hid (∀ ys, s' = some ys → k + ys.length ≤ 1048576) ∧ Hid (St w0 a0 a1 wr g s') ∧ Hid (Fq g w wr)) (fun _ x _ => n - (intOf x).toNat)
  case atStart =>
    exact ⟨0, 0, none, [], s1, by omega, by omega, rfl, rfl, rfl, olp_nil _ _, list_start, fun ys e => by subst e; have := HS1.out.held.2; omega, HS1.out, F1.out⟩
  case round =>
    obtain ⟨k, cv, av, l, s2, hk, hk2, rfl, rfl, HLn, HO, HN, HZ, HS2, F2⟩ := hrel
    clear HS1 F1
    by_cases hlt : k < n
    · obtain ⟨-, hok, uc, ud, hbk⟩ := HO.out
      have HOK : Hid (POk l) := hok
      have HBK : Hid (BP wr w.heap.size (.slice av k cv) k (fun j => l.getD j pr0) uc ud) := hbk
      clear hok hbk
      have hlt' : (k : Int) < (n : Int) := by omega
      go_wp2_with fail
      refine (IT.out _ _ HS2.out).mono ?_
      rintro e w2 ⟨up, uq, aC, mC, cC, aD, mD, cD, uM, cs, ds, s3, rfl, oC, oD, l1, l2, l3, l4, g3, h3, q3⟩
      have hw2 : w.heap.size ≤ w2.heap.size := Nat.le_trans F2.out.below.size q3.below.size
      have HG3 : Hid (Got (s2.bind (protoD num flagD)) ⟨(up : Int), (uq : Int), cs, ds⟩ s3) := g3
      have HS3 : Hid (St w0 a0 a1 w2 g s3) := h3
      have HO3 : Hid (BP w2 w.heap.size (.slice av k cv) k (fun j => l.getD j pr0) uc ud) := HBK.out.hold (fun b h1 h2 => q3.keep b h2 (by omega))
      have F3 : Hid (Fq g w w2) := F2.out.trans q3
      have HT : Hid (RwC w2 (wr.heap.size + 2) (.slice aC mC cC) cs ∧ RwI w2 (wr.heap.size + 2) (.slice aD mD cD) ds) := ⟨oC.2, oD.2⟩
      have HT2 : Hid ((∀ b, (Value.slice aC mC cC).ownBlock = some b → b < uM) ∧ (∀ b, (Value.slice aD mD cD).ownBlock = some b → uM ≤ b) ∧ cs.length ≤ 1048576 ∧ ds.length ≤ 1048576) := ⟨l1, l2, l3, l4⟩
      have hwr : w.heap.size ≤ wr.heap.size := F2.out.below.size
      clear oC oD l1 l2 l3 l4
      clear g3 h3 q3 HS2 HO F2
      have S4 : Hid (St w0 a0 a1 (w2.alloc (.cells #[.int .i64 (up : Int), .int .i64 (uq : Int), .slice aC mC cC, .slice aD mD cD] 46)) g s3) := HS3.out.keep ((Below.refl _ _).alloc (Nat.le_refl _) _)
      cases s3 with
      | none =>
        obtain ⟨_, _, av4, m4, cv4, f4, hL4, _, _, _, h6⟩ := S4.out
        have c1 : (w2.alloc (.cells #[.int .i64 (up : Int), .int .i64 (uq : Int), .slice aC mC cC, .slice aD mD cD] 46)).cell? ⟨g, 1, none⟩ = some f4 := hL4.at (j := 1) (by omega)
        have F4 : Hid (Fq g w (w2.alloc (.cells #[.int .i64 (up : Int), .int .i64 (uq : Int), .slice aC mC cC, .slice aD mD cD] 46))) := F3.out.grown (by omega) ((Below.refl _ _).alloc (Nat.le_refl _) _)
        have g5 := got_then (e := fun (n : Nat) (ys : List Int) => listD (protoD num flagD) n ys) HG1.out (.inl ⟨list_bad rfl (list_next hlt HN.out HG3.out), rfl⟩ : Got (s1.bind (listD (protoD num flagD) n)) [] none)
        have g6 : Got (s.bind (manyD num (protoD num flagD))) [] none := g5
        have HG6 : Hid (Got (s.bind (manyD num (protoD num flagD))) [] none) := g6
        have hf := h6 rfl
        clear hL4 h6 g5 g6
        rcases hf with rfl | rfl
        all_goals
          go_wp2
          go_returns
          exact ⟨none, 0, 0, [], none, rfl, by simp, olp_nil _ _, HG6.out, S4.out, F4.out⟩
      | some zs =>
        obtain ⟨_, _, av4, m4, cv4, f4, hL4, _, _, h5, _⟩ := S4.out
        obtain ⟨_, _, _, rfl⟩ := h5 zs rfl
        have c1 : (w2.alloc (.cells #[.int .i64 (up : Int), .int .i64 (uq : Int), .slice aC mC cC, .slice aD mD cD] 46)).cell? ⟨g, 1, none⟩ = some .nilIface := hL4.at (j := 1) (by omega)
        have hz := got_less (fun h => by have := protoD_len num_len flagD_len h; omega) HZ.out HG3.out
        clear hL4 h5
        obtain ⟨us, hus, hx⟩ := HO3.out.row
        have b5 : Below w2.heap.size w2 ((w2.alloc (.cells #[.int .i64 (up : Int), .int .i64 (uq : Int), .slice aC mC cC, .slice aD mD cD] 46)).alloc (.cells #[.int .i64 (up : Int), .int .i64 (uq : Int), .slice aC mC cC, .slice aD mD cD] 46)) := ((Below.refl _ _).alloc (Nat.le_refl _) _).alloc (by simp) _
        have HUS : Hid (((w2.alloc (.cells #[.int .i64 (up : Int), .int .i64 (uq : Int), .slice aC mC cC, .slice aD mD cD] 46)).alloc (.cells #[.int .i64 (up : Int), .int .i64 (uq : Int), .slice aC mC cC, .slice aD mD cD] 46)).ownsRow w.heap.size 46 4 (.slice av k cv) k us) := th.own_hold hus (fun b h1 h2 _ => b5.block b h2)
        have HX : Hid (∀ j, j < k → us[j * 4]? = some (.int .i64 (l.getD j pr0).params) ∧ us[j * 4 + 1]? = some (.int .i64 (l.getD j pr0).slots) ∧ us[j * 4 + 2]? = some (uc j) ∧ us[j * 4 + 3]? = some (ud j)) := hx
        have NW : Hid (0 < 1 → ∃ ad, (some ⟨w2.heap.size + 1, 0, none⟩ : Option Addr) = some ad ∧ ∀ j u, [.int .i64 (up : Int), .int .i64 (uq : Int), .slice aC mC cC, .slice aD mD cD][j]? = some u → ((w2.alloc (.cells #[.int .i64 (up : Int), .int .i64 (uq : Int), .slice aC mC cC, .slice aD mD cD] 46)).alloc (.cells #[.int .i64 (up : Int), .int .i64 (uq : Int), .slice aC mC cC, .slice aD mD cD] 46)).cell? (ad.add j) = some u) := fun _ => ⟨_, rfl, fun j u e => by
          rw [plainAt]
          have := cellNew (w := w2.alloc (.cells #[.int .i64 (up : Int), .int .i64 (uq : Int), .slice aC mC cC, .slice aD mD cD] 46)) (cs := #[.int .i64 (up : Int), .int .i64 (uq : Int), .slice aC mC cC, .slice aD mD cD]) (t := 46) (j := j) (v := u) (by simpa using e)
          simpa using this⟩
        clear hus hx
        go_wp2_with (at_builtin; refine wpList_append_row rfl _ _ _ rfl 46 i0 (.agg #[.int .i64 0, .int .i64 0, .slice none 0 0, .slice none 0 0]) 4 64 Tryd.underlying24 hi0 hz0 hz1 hz2 rfl (by omega) w.heap.size av k cv us rfl HUS.out (some ⟨w2.heap.size + 1, 0, none⟩) 1 1 [.int .i64 (up : Int), .int .i64 (uq : Int), .slice aC mC cC, .slice aD mD cD] rfl rfl NW.out (by simp [Value.oneCell']) (by unfold maxLen; omega) (by omega) (by simp; omega) ?_; intro av5 cv5 w5 hA; have HA : Hid (AppR 46 4 ((w2.alloc (.cells #[.int .i64 (up : Int), .int .i64 (uq : Int), .slice aC mC cC, .slice aD mD cD] 46)).alloc (.cells #[.int .i64 (up : Int), .int .i64 (uq : Int), .slice aC mC cC, .slice aD mD cD] 46)) w.heap.size av k cv (us ++ [.int .i64 (up : Int), .int .i64 (uq : Int), .slice aC mC cC, .slice aD mD cD]) av5 (k + 1) cv5 w5) := hA; clear hA)
        have hrow : ∀ b, (Value.slice av k cv).ownBlock = some b → w.heap.size ≤ b := fun b e => (HUS.out.lt b e).1
        refine ⟨⟨k + 1, cv5, av5, l ++ [(⟨(up : Int), (uq : Int), cs, ds⟩ : Pr)], some zs, by omega, by omega, by go_num, rfl, by show (l ++ [_]).length = k + 1; simp [HLn.out], olp_snoc (M := wr.heap.size) (L := uM) HLn.out hk2 HOK.out (HO3.out.hold (fun b h1 h2 => b5.block b h2)) (fun b e => (HBK.out.lt b e).2) (fun j hj b e => ((HBK.out.caps j hj).lt b e).2) (fun j hj b e => ((HBK.out.code j hj).lt b e).2) ((HT.out.1.hold (fun b h1 h2 _ => b5.block b h2)).weaken (by omega)) ((HT.out.2.hold (fun b h1 h2 _ => b5.block b h2)).weaken (by omega)) (fun b e => by have := (HT.out.1.lt b e).1; omega) (fun b e => by have := (HT.out.2.lt b e).1; omega) HT2.out.1 HT2.out.2.1 (by have := HT2.out.2.2.1; omega) (by have := HT2.out.2.2.2; omega) HUS.out HX.out HA.out, list_next hlt HN.out HG3.out, fun ys e => (by cases e; exact hz), (S4.out.keep ((Below.refl _ _).alloc (Nat.le_refl _) _)).app HA.out.grow (fun b e => by have := hrow b e; omega), (F3.out.grown (by omega) b5).app HA.out.grow hgl hrow⟩, by simp [intOf]; omega⟩
    · obtain rfl : k = n := by omega
      have g5 := got_then (e := fun (n : Nat) (ys : List Int) => listD (protoD num flagD) n ys) HG1.out (list_end HN.out)
      have g6 : Got (s.bind (manyD num (protoD num flagD))) l s2 := g5
      have HG6 : Hid (Got (s.bind (manyD num (protoD num flagD))) l s2) := g6
      clear g5 g6
      go_wp2
      go_returns
      exact ⟨av, k, cv, l, s2, rfl, by rw [HLn.out]; omega, HO.out, HG6.out, HS2.out, F2.out⟩
end Go.Proofs.YteagakplhfiodaaDoor.ld
