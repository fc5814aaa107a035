import Derived.Test.YtccnjmnafkfjdaaGreatTrRx
import Derived.Test.YtccnjmnafkfjdaaGreatTrNew
import Derived.Test.YtccnjmnafkfjdaaGreatTrValid
namespace Go.Proofs.YtccnjmnafkfjdaaGreat.vt
open Go.RowKit Go.Proofs.YtccnjmnafkfjdaaGreat.bts Go.Proofs.YtccnjmnafkfjdaaGreat.nod Go.Proofs.YtccnjmnafkfjdaaGreat.lex

theorem info_inode : (Tryz.prog.info? 39).map (fun i => (i.zero, i.size, i.bytes)) = some (some .nilIface, 1, 16) := by kernel_rfl
/-- The place of the rows from i on. -/
def restOk (b off n i : Nat) (ra : Option Addr) : Prop := i < n → ra = some ⟨b, off + i * 5, none⟩
def GrowPost (W0 : World) (b off n cap : Nat) (w w' : World) (e : Ending) {D : Nat} : Option (Tr D × Nat) → Prop
  | none => e = .returned (.tuple #[.nilIface, .slice none 0 0])
  | some (t, m) => ∃ v ra, e = .returned (.tuple #[v, .slice ra (n - m) (cap - m)]) ∧ restOk b off n m ra ∧ Rx W0 (fun x => w.heap.size ≤ x ∧ x < w'.heap.size) w' v t
theorem Rx.isIface {W0 w : World} {A : Nat → Prop} {D : Nat} {v : Value} {t : Tr D} (h : Rx W0 A w v t) : ∃ T g, v = .iface T (.pointer (some ⟨g, 0, none⟩)) := by
  cases D with
  | zero => exact h.elim
  | succ D =>
    obtain ⟨g, _, _, _, _, _, e, _⟩ := h
    exact ⟨_, g, e⟩
def lenOf : Value → Nat
  | .slice _ n _ => n
  | _ => 0
theorem loopT_snoc {α : Type} {f : Nat → Option (α × Nat)} : ∀ {k p m : Nat} {ts : List α}, loopT f k p = some (ts, m) → ∀ {t : α} {m' : Nat}, f m = some (t, m') → loopT f (k + 1) p = some (ts ++ [t], m') := by
  intro k
  induction k with
  | zero => intro p m ts h t m' hf; rw [loopT] at h; cases h; exact loopT_mk hf rfl
  | succ k ih =>
    intro p m ts h t m' hf
    obtain ⟨t1, m1, r, h1, h2, rfl⟩ := loopT_cons h
    exact loopT_mk h1 (ih h2 hf)
theorem loopT_fail {α : Type} {f : Nat → Option (α × Nat)} : ∀ {k c p m : Nat} {ts : List α}, loopT f k p = some (ts, m) → f m = none → k < c → loopT f c p = none := by
  intro k
  induction k with
  | zero =>
    intro c p m ts h hf hc
    rw [loopT] at h; cases h
    obtain ⟨c, rfl⟩ : ∃ c', c = c' + 1 := ⟨c - 1, by omega⟩
    rw [loopT, hf]
  | succ k ih =>
    intro c p m ts h hf hc
    obtain ⟨t1, m1, r, h1, h2, rfl⟩ := loopT_cons h
    obtain ⟨c, rfl⟩ : ∃ c', c = c' + 1 := ⟨c - 1, by omega⟩
    rw [loopT, h1]
    simp only
    rw [ih h2 hf (by omega)]
theorem loopT_bd {α : Type} {f : Nat → Option (α × Nat)} {n : Nat} (hf : ∀ j t m, f j = some (t, m) → j < m ∧ m ≤ n) : ∀ {c p e : Nat} {ts : List α}, p ≤ n → loopT f c p = some (ts, e) → p + c ≤ e ∧ e ≤ n := by
  intro c
  induction c with
  | zero => intro p e ts hp h; rw [loopT] at h; cases h; omega
  | succ c ih =>
    intro p e ts hp h
    obtain ⟨t1, m1, r, h1, h2, rfl⟩ := loopT_cons h
    have a := hf _ _ _ h1
    have b := ih a.2 h2
    omega
theorem treeAt_bd {l : List Nd} : ∀ {D i m : Nat} {t : Tr D}, treeAt l D i = some (t, m) → i < m ∧ m ≤ l.length := by
  intro D
  induction D with
  | zero => intro i m t h; cases h
  | succ D ih =>
    intro i m t h
    obtain ⟨⟨hi, _⟩, ks, rfl, hL⟩ := treeAt_inv h
    have := loopT_bd (n := l.length) (fun j t m h => ih h) (by omega) hL
    omega

theorem own_keep {w w' : World} {base : Nat} {e : TypeId} {size : Nat} {v : Value} {n : Nat} {xs : List Value} (h : w.ownsRow base e size v n xs) (hb : Below w.heap.size w w') : w'.ownsRow base e size v n xs :=
  ⟨h.1, h.2.elim .inl fun ⟨g, cap, cur, e, hb1, hh, r⟩ => .inr ⟨g, cap, cur, e, hb1, (hb.block g (Array.getElem?_eq_some_iff.1 hh).1).trans hh, r⟩⟩

theorem own_open {w : World} {base k cq : Nat} {e : TypeId} {a : Option Addr} {us : List Value} (h : w.ownsRow base e 1 (.slice a k cq) k us) :
    k ≤ cq ∧ cq ≤ maxLen ∧ ∀ j, j < k → ∃ gp, a = some ⟨gp, 0, none⟩ ∧ base ≤ gp ∧ gp < w.heap.size ∧ w.cell? ⟨gp, 0 + j, none⟩ = some (us.getD j .nilIface) := by
  have hl := h.1
  rcases h.2 with ⟨e1, e2⟩ | ⟨g, cap, cur, e1, hb, hh, hk, hm, _⟩
  · simp only [Value.slice.injEq] at e1
    obtain ⟨rfl, rfl, rfl⟩ := e1
    exact ⟨by omega, by unfold maxLen; omega, fun j hj => absurd hj (by omega)⟩
  · simp only [Value.slice.injEq, true_and] at e1
    obtain ⟨rfl, rfl⟩ := e1
    refine ⟨hk, hm, fun j hj => ⟨g, rfl, hb, (Array.getElem?_eq_some_iff.1 hh).1, ?_⟩⟩
    have hx := World.ownsRow.cellAt h j (by omega)
    rw [Nat.zero_add, hx]
    simp [List.getD_eq_getElem?_getD, List.getElem?_eq_getElem (show j < us.length by omega)]

set_option maxRecDepth 100000 in
set_option maxHeartbeats 8000000 in
theorem grow_main (W0 : World) (b off i n cap : Nat) (d : Nd) (at_ an : Option Addr) (ca cn : Nat) (w : World) {D : Nat} (f : Nat → Option (Tr D × Nat)) (hi : i < n) (hn : n ≤ 6000) (hcap : n ≤ cap) (hc2 : cap ≤ 9223372036854775807) (hW : Below W0.heap.size W0 w)
    (c0 : w.cell? ⟨b, off + i * 5, none⟩ = some (.int .i64 d.kind)) (c1 : w.cell? ⟨b, off + i * 5 + 1, none⟩ = some (.int .i64 d.n)) (c2 : w.cell? ⟨b, off + i * 5 + 2, none⟩ = some (.slice at_ d.text.length ca)) (c3 : w.cell? ⟨b, off + i * 5 + 3, none⟩ = some (.slice an d.names.length cn)) (c4 : w.cell? ⟨b, off + i * 5 + 4, none⟩ = some (.int .i64 d.count))
    (hk0 : 0 ≤ d.kind) (hk1 : d.kind ≤ 26) (hct : 0 ≤ d.count) (ht : RcV W0 (.slice at_ d.text.length ca) d.text) (hm : RcVV W0 (.slice an d.names.length cn) d.names) (hs : d.text.length + sizeSS d.names ≤ 1048576)
    (hf : ∀ j t m, f j = some (t, m) → j < m ∧ m ≤ n)
    (IH : Hid (∀ (j : Nat) (W : World) (ra : Option Addr), i + 1 ≤ j → j ≤ n → Below W0.heap.size W0 W → restOk b off n j ra → Calls Tryz.prog 23 #[.slice ra (n - j) (cap - j)] W fun e w' => Below W.heap.size W w' ∧ GrowPost W0 b off n cap W w' e (f j))) :
    Calls Tryz.prog 23 #[.slice (some ⟨b, off + i * 5, none⟩) (n - i) (cap - i)] w fun e w' => Below w.heap.size w w' ∧ GrowPost W0 b off n cap w w' e (match loopT f d.count.toNat (i + 1) with
      | none => none
      | some (ks, m) => some (mkT d ks, m)) := by
  obtain ⟨i0, hii, hz0, hz1, hz2⟩ := info_parts info_inode
  obtain ⟨P, hP⟩ : ∃ P : Ending → World → Prop, P = fun e w' => Below w.heap.size w w' ∧ GrowPost W0 b off n cap w w' e (match loopT f d.count.toNat (i + 1) with
      | none => none
      | some (ks, m) => some (mkT d ks, m)) := ⟨_, rfl⟩
  rw [← hP]
  have HP : Hid (P = fun e w' => Below w.heap.size w w' ∧ GrowPost W0 b off n cap w w' e (match loopT f d.count.toNat (i + 1) with
      | none => none
      | some (ks, m) => some (mkT d ks, m))) := hP
  have HW : Hid (Below W0.heap.size W0 w) := hW
  have HF : Hid (∀ j t m, f j = some (t, m) → j < m ∧ m ≤ n) := hf
  have HT : Hid (RcV W0 (.slice at_ d.text.length ca) d.text) := ht
  have HM : Hid (RcVV W0 (.slice an d.names.length cn) d.names) := hm
  obtain ⟨kd, hkd⟩ : ∃ kd, kd = d.kind := ⟨_, rfl⟩
  obtain ⟨nn, hnn⟩ : ∃ nn, nn = d.n := ⟨_, rfl⟩
  obtain ⟨p, hp⟩ : ∃ p, p = d.text.length := ⟨_, rfl⟩
  obtain ⟨q, hq⟩ : ∃ q, q = d.names.length := ⟨_, rfl⟩
  obtain ⟨c, hc⟩ : ∃ c : Nat, (c : Int) = d.count := ⟨d.count.toNat, by omega⟩
  have HD : Hid (kd = d.kind ∧ nn = d.n ∧ p = d.text.length ∧ q = d.names.length ∧ (c : Int) = d.count) := ⟨hkd, hnn, hp, hq, hc⟩
  rw [← hkd] at c0 hk0 hk1
  rw [← hnn] at c1
  rw [← hp] at c2
  rw [← hq] at c3
  rw [← hc] at c4
  obtain ⟨m0, hm0⟩ : ∃ m, m = n - i := ⟨_, rfl⟩
  obtain ⟨cp, hcp⟩ : ∃ cp, cp = cap - i := ⟨_, rfl⟩
  rw [← hm0, ← hcp]
  have f1 : (0 : Int) < (m0 : Int) := by omega
  have f2 : (1 : Int) ≤ (m0 : Int) := by omega
  have f3 : (m0 : Int) ≤ (cp : Int) := by omega
  have f4 : 1 ≤ m0 := by omega
  have f5 : m0 ≤ cp := by omega
  have d1 : ((m0 : Int) == 0) = false := by simp; omega
  have d2 : decide (kd < 0) = false := by simp; omega
  have d3 : decide (26 < kd) = false := by simp; omega
  have d4 : decide ((c : Int) < 0) = false := by simp
  have a0 := fun o => cell_al o c0
  have a1 := fun o => cell_al o c1
  have a2 := fun o => cell_al o c2
  have a3 := fun o => cell_al o c3
  have a4 := fun o => cell_al o c4
  have E1 : m0 - 1 = n - (i + 1) := by omega
  have E2 : cp - 1 = cap - (i + 1) := by omega
  have E3 : cp = 1 → i + 1 = n := by omega
  have E4 : Hid (off + i * 5 + 5 = off + (i + 1) * 5) := by show _ = _; omega
  clear hm0 hcp hf ht hm hP hkd hnn hp hq hc hct hW
  go_enter Tryz.func23, Tryz.ntmps23
  by_cases h1 : cp = 1
  all_goals
    go_wp2_with fail
    go_region
    go_wp2_with fail
    have hW1 : ((w.alloc (.cells #[.int .i64 kd, .int .i64 nn, .slice at_ p ca, .slice an q cn, .int .i64 c] 34)).drew).heap.size = w.heap.size + 1 := by simp
    have hW2 : ((w.alloc (.cells #[.int .i64 kd, .int .i64 nn, .slice at_ p ca, .slice an q cn, .int .i64 c] 34)).drew).heap[w.heap.size]? = some (.cells #[.int .i64 kd, .int .i64 nn, .slice at_ p ca, .slice an q cn, .int .i64 c] 34 (0, 0)) := heap_alloc_new w _
    have hW3 : Below w.heap.size w ((w.alloc (.cells #[.int .i64 kd, .int .i64 nn, .slice at_ p ca, .slice an q cn, .int .i64 c] 34)).drew) := ((Below.refl _ _).alloc (Nat.le_refl _) _).drew
    generalize ((w.alloc (.cells #[.int .i64 kd, .int .i64 nn, .slice at_ p ca, .slice an q cn, .int .i64 c] 34)).drew) = W1 at hW1 hW2 hW3 ⊢
    go_loopw [5, 6] (fun r v wr => ∃ (k m cq : Nat) (ra a' : Option Addr) (ts : List (Tr D)) (us : List Value), k ≤ c ∧ m ≤ n ∧ i + 1 + k ≤ m ∧ r = .slice ra (n - m) (cap - m) ∧ v = .slice a' k cq ∧ Hid (restOk b off n m ra) ∧ Hid (loopT f k (i + 1) = some (ts, m)) ∧ wr.ownsRow (w.heap.size + 1) 39 1 (.slice a' k cq) k us ∧
        Hid (∀ j, j < k → Rx W0 (fun x => w.heap.size + 1 ≤ x ∧ x < wr.heap.size ∧ (Value.slice a' k cq).ownBlock ≠ some x) wr (us.getD j .nilIface) (ts.getD j (tr0 D))) ∧ Below (w.heap.size + 1) W1 wr) (fun r _ _ => lenOf r)
    case atStart => exact ⟨0, i + 1, 0, _, none, [], [], by omega, by omega, by omega, by first | rfl | (congr 1 <;> omega), rfl, by show restOk _ _ _ _ _; unfold restOk; intro hlt; first | (rw [← E4.out]; done) | (exfalso; have := E3 h1; omega), rfl, World.ownsRow_nil _ _ _ _, fun j hj => absurd hj (by omega), Below.refl _ _⟩
    case round =>
      obtain ⟨k, m, cq, ra, a', ts, us, hk, hmn, hkm, rfl, rfl, HR, HL, hown, HX, hbel⟩ := hrel
      have hB := hbel.block w.heap.size (by omega)
      rw [hW2] at hB
      have o4 : wr.cell? ⟨w.heap.size, 4, none⟩ = some (.int .i64 c) := by simp [World.cell?, hB]
      by_cases hkc : k < c
      · have C := IH.out m wr ra (by omega) hmn (HW.out.trans (hW3.trans (hbel.mono (by omega)) |>.mono HW.out.size)) HR.out
        have g1 : decide ((k : Int) < (c : Int)) = true := by simp; omega
        clear hB
        go_wp2_with fail
        refine C.mono ?_
        rintro e w1 ⟨hb1, hp1⟩
        clear C
        have hs1 := hb1.size
        have hsw := hbel.size
        have HB1 : Hid (Below wr.heap.size wr w1) := hb1
        have HBR : Hid (Below (w.heap.size + 1) W1 wr) := hbel
        cases hfm : f m with
        | none =>
          rw [hfm] at hp1
          have hp2 : e = .returned (.tuple #[.nilIface, .slice none 0 0]) := hp1
          subst hp2
          have HN : Hid (loopT f d.count.toNat (i + 1) = none) := loopT_fail HL.out hfm (by have := HD.out.2.2.2.2; omega)
          clear hp1 hfm hown hb1 hbel
          go_wp2_with fail
          rw [HP.out, HN.out]
          exact ⟨hW3.trans ((HBR.out.mono (by omega)).trans (HB1.out.mono (by omega)) |>.mono hW3.size), rfl⟩
        | some tm =>
          obtain ⟨t, m'⟩ := tm
          rw [hfm] at hp1
          obtain ⟨v, ra2, he, hr2, hx⟩ := hp1
          subst he
          obtain ⟨T, g, rfl⟩ := hx.isIface
          have hmm := HF.out _ _ _ hfm
          have hne : ¬ cp = 1 := fun h => by have := E3 h; omega
          first
          | exact absurd h1 hne
          | (
            have HL2 : Hid (loopT f (k + 1) (i + 1) = some (ts ++ [t], m')) := loopT_snoc HL.out hfm
            have HR2 : Hid (restOk b off n m' ra2) := hr2
            have HX1 : Hid (Rx W0 (fun x => wr.heap.size ≤ x ∧ x < w1.heap.size) w1 (.iface T (.pointer (some ⟨g, 0, none⟩))) t) := hx
            have hown1 : w1.ownsRow (w.heap.size + 1) 39 1 (.slice a' k cq) k us := own_keep hown hb1
            have hown0 := hown
            clear hx hr2 hfm hbel hb1 hown
            have hgB : ∀ k', (Value.slice a' k cq).ownBlock = some k' → w.heap.size + 1 ≤ k' ∧ k' < wr.heap.size := fun k' hk' => hown0.lt k' hk'
            go_wp2_with (at_builtin; refine wpList_append_lies _ rfl _ _ _ rfl (w.heap.size + 1) 39 i0 .nilIface 1 16 Tryz.underlying60 hii hz0 hz1 hz2 rfl (by omega) _ k us rfl (hown1.alloc _) ⟨w1.heap.size, 0, none⟩ 1 1 [.iface T (.pointer (some ⟨g, 0, none⟩))] rfl rfl (World.news_of_block (cs := #[.iface T (.pointer (some ⟨g, 0, none⟩))]) (t := 39) (fr := (0, 0)) (heap_alloc_new w1 _)) (by simp [Value.oneCell']) (by omega) (by unfold maxLen; omega) (by omega) (by simp; omega) (w1.heap.size + 1) (by simp) ?_; intro g' cap' w2 hown2 hgrow hat hlt2)
            have hg2 : (w1.alloc (.cells #[.iface T (.pointer (some ⟨g, 0, none⟩))] 39)).grownBy w2 (Value.slice a' k cq).ownBlock := hgrow
            have hat2 : (Value.slice a' k cq).ownBlock = some g' ∨ g' = w1.heap.size + 1 := hat
            clear hgrow hat
            have hz2 := hg2.size
            rw [World.size_alloc] at hz2
            have hblk : ∀ x, x < w1.heap.size → (Value.slice a' k cq).ownBlock ≠ some x → w2.heap[x]? = w1.heap[x]? := fun x hx hne =>
              (hg2.block x (by rw [World.size_alloc]; omega) (fun e => hne e.symm)).trans (Below.heap_alloc _ _ _ hx)
            have hnew : Hid (∀ j, j < k + 1 → Rx W0 (fun x => w.heap.size + 1 ≤ x ∧ x < w2.heap.size ∧ (Value.slice (some ⟨g', 0, none⟩) (k + 1) cap').ownBlock ≠ some x) w2 ((us ++ [Value.iface T (.pointer (some ⟨g, 0, none⟩))]).getD j .nilIface) ((ts ++ [t]).getD j (tr0 D))) := by
              intro j hj
              have hus : us.length = k := by have := hown0.1; omega
              have hts : ts.length = k := loopT_len HL.out
              by_cases hjk : j < k
              · rw [show (us ++ [Value.iface T (.pointer (some ⟨g, 0, none⟩))]).getD j Value.nilIface = us.getD j Value.nilIface by simp [List.getD_eq_getElem?_getD, List.getElem?_append_left (show j < us.length by omega)], show (ts ++ [t]).getD j (tr0 D) = ts.getD j (tr0 D) by simp [List.getD_eq_getElem?_getD, List.getElem?_append_left (show j < ts.length by omega)]]
                refine (HX.out j hjk).kept ?_
                rintro x ⟨x1, x2, x3⟩
                refine ⟨⟨x1, by omega, ?_⟩, (hblk x (by omega) x3).trans (HB1.out.block x x2)⟩
                intro e
                have e2 : g' = x := by simpa [Value.ownBlock] using e
                rcases hat2 with h | h
                · exact x3 (by rw [h, e2])
                · omega
              · have hjk2 : j = k := by omega
                subst hjk2
                rw [show (us ++ [Value.iface T (.pointer (some ⟨g, 0, none⟩))]).getD j Value.nilIface = Value.iface T (.pointer (some ⟨g, 0, none⟩)) by simp [List.getD_eq_getElem?_getD, hus], show (ts ++ [t]).getD j (tr0 D) = t by simp [List.getD_eq_getElem?_getD, hts]]
                refine HX1.out.kept ?_
                rintro x ⟨x1, x2⟩
                refine ⟨⟨by omega, by omega, ?_⟩, hblk x x2 (fun e => by have := hgB x e; omega)⟩
                intro e
                have e2 : g' = x := by simpa [Value.ownBlock] using e
                rcases hat2 with h | h
                · have := hgB g' h; omega
                · omega
            have HB2 : Hid (Below (w.heap.size + 1) W1 w2) := ((HBR.out.trans (HB1.out.mono (by omega))).alloc (by omega) _).grown hg2 (by rw [World.size_alloc]; omega) (fun k' hk' => by have := hgB k' hk'; omega)
            refine ⟨⟨k + 1, m', cap', ra2, some ⟨g', 0, none⟩, ts ++ [t], us ++ [Value.iface T (.pointer (some ⟨g, 0, none⟩))], by omega, by omega, by omega, rfl, rfl, HR2, HL2, hown2, hnew, HB2.out⟩, ?_⟩
            simp only [lenOf]
            omega)
      · have hkc2 : k = c := by omega
        subst hkc2
        have o0 : wr.cell? ⟨w.heap.size, 0, none⟩ = some (.int .i64 kd) := by simp [World.cell?, hB]
        have o1 : wr.cell? ⟨w.heap.size, 1, none⟩ = some (.int .i64 nn) := by simp [World.cell?, hB]
        have o2 : wr.cell? ⟨w.heap.size, 2, none⟩ = some (.slice at_ p ca) := by simp [World.cell?, hB]
        have o3 : wr.cell? ⟨w.heap.size, 3, none⟩ = some (.slice an q cn) := by simp [World.cell?, hB]
        have g1 : decide ((k : Int) < (k : Int)) = false := by simp
        have C := fun W => newNode_any hk0 hk1 W nn k at_ an p ca q cn a' k cq (by omega)
        clear hB
        have HO : Hid (wr.ownsRow (w.heap.size + 1) 39 1 (.slice a' k cq) k us) := hown
        have HBR : Hid (Below (w.heap.size + 1) W1 wr) := hbel
        clear hown hbel
        go_wp2_with fail
        refine (C wr).mono ?_
        clear C
        rintro e w3 ⟨rfl, o5, o6, TT, hw3⟩
        have hz3 : w3.heap.size = wr.heap.size + 1 + 1 + 1 := by rw [hw3]; simp
        have hn3 : w3.heap[wr.heap.size + 1 + 1]? = some (.cells #[.int .i64 kd, .int .i64 nn, .slice at_ p ca, .slice an q cn, .int .i64 k, .slice a' k cq] TT (0, 0)) := by
          rw [hw3]
          have := heap_alloc_new ((wr.alloc o5).alloc o6) (.cells #[.int .i64 kd, .int .i64 nn, .slice at_ p ca, .slice an q cn, .int .i64 k, .slice a' k cq] TT)
          simpa only [World.size_alloc] using this
        have hb3 : Hid (Below wr.heap.size wr w3) := by
          show Below _ _ _
          rw [hw3]
          exact (((Below.refl _ _).alloc (Nat.le_refl _) _).alloc (by simp only [World.size_alloc]; omega) _).alloc (by simp only [World.size_alloc]; omega) _
        clear hw3
        go_wp2_with fail
        rw [HP.out]
        obtain ⟨e1, e2, e3, e4, e5⟩ := HD.out
        rw [show d.count.toNat = k by omega, HL.out]
        have hsw := HBR.out.size
        have hts : ts.length = k := loopT_len HL.out
        have hus : us.length = k := by have := HO.out.1; omega
        refine ⟨hW3.trans ((HBR.out.mono (by omega)).trans (hb3.out.mono (by omega)) |>.mono hW3.size), _, ra, rfl, HR.out, ?_⟩
        rw [e1]
        show Rx _ _ _ _ (mkT d ts)
        refine ⟨wr.heap.size + 1 + 1, a', cq, .slice at_ d.text.length ca, .slice an d.names.length cn, fun j => us.getD j .nilIface, rfl, by show 0 ≤ d.kind; omega, by show d.kind ≤ 26; omega, ?_, ?_, by show ts.length ≤ _; omega, ⟨by omega, by omega⟩, ?_, HT.out, HM.out, hs, fun j (hj : j < ts.length) => ?_, fun j (hj : j < ts.length) => ?_⟩
        · have := (own_open HO.out).1; show ts.length ≤ cq; omega
        · have := (own_open HO.out).2.1; unfold maxLen at this; omega
        · show NodeAt w3 _ d _ _ (.slice a' ts.length cq)
          rw [hts, ← e3, ← e4]
          unfold NodeAt
          rw [← e1, ← e2, ← e5]
          simp [World.cell?, hn3]
        · obtain ⟨gp, ea, g1, g2, g3⟩ := (own_open HO.out).2.2 j (by omega)
          exact ⟨gp, 0, ea, ⟨by omega, by omega⟩, (hb3.out.cell (p := ⟨gp, 0 + j, none⟩) g2).trans g3⟩
        · refine (HX.out j (by omega)).kept ?_
          rintro x ⟨x1, x2, x3⟩
          exact ⟨⟨by omega, by omega⟩, hb3.out.block x x2⟩
end Go.Proofs.YtccnjmnafkfjdaaGreat.vt
namespace Go.Proofs.YtccnjmnafkfjdaaGreat.vt
open Go.RowKit Go.Proofs.YtccnjmnafkfjdaaGreat.bts Go.Proofs.YtccnjmnafkfjdaaGreat.nod Go.Proofs.YtccnjmnafkfjdaaGreat.lex

set_option maxRecDepth 100000 in
set_option maxHeartbeats 4000000 in
theorem grow_any (W0 : World) (b off n cap : Nat) (l : List Nd) (hl : l.length = n) (hn : n ≤ 6000) (hcap : n ≤ cap) (hc2 : cap ≤ 9223372036854775807) (hr : RcN W0 (some ⟨b, off, none⟩) l) (hsz : ∀ i, i < n → (l.getD i nd0).text.length + sizeSS (l.getD i nd0).names ≤ 1048576) :
    ∀ (D i : Nat) (w : World) (ra : Option Addr), i ≤ n → n - i < D → Below W0.heap.size W0 w → restOk b off n i ra →
      Calls Tryz.prog 23 #[.slice ra (n - i) (cap - i)] w fun e w' => Below w.heap.size w w' ∧ GrowPost W0 b off n cap w w' e (treeAt l D i) := by
  intro D
  induction D with
  | zero => intro i w ra _ h; omega
  | succ D ih =>
    intro i w ra hi hD hW hra
    by_cases hin : i < n
    · have hra2 := hra hin
      subst hra2
      have hRow := hr i (by omega)
      obtain ⟨b', off', ut, un, e1, z0, z1, z2, z3, z4, ht, hm⟩ := hRow
      simp only [Option.some.injEq, Addr.mk.injEq, and_true] at e1
      obtain ⟨rfl, rfl⟩ := e1
      have hlt := World.block_lt_of_cell? _ _ z0
      have c0 := (hW.cell (p := ⟨b, off + i * 5, none⟩) hlt).trans z0
      have c1 := (hW.cell (p := ⟨b, off + i * 5 + 1, none⟩) hlt).trans z1
      have c2 := (hW.cell (p := ⟨b, off + i * 5 + 2, none⟩) hlt).trans z2
      have c3 := (hW.cell (p := ⟨b, off + i * 5 + 3, none⟩) hlt).trans z3
      have c4 := (hW.cell (p := ⟨b, off + i * 5 + 4, none⟩) hlt).trans z4
      have ht2 := ht
      have hm2 := hm
      obtain ⟨at_, ca, rfl, _⟩ := ht2
      obtain ⟨an, cn, rfl, _⟩ := hm2
      by_cases hok : 0 ≤ knd l i ∧ knd l i ≤ 26 ∧ 0 ≤ cnt l i
      · have hT : treeAt l (D + 1) i = match loopT (treeAt l D) (l.getD i nd0).count.toNat (i + 1) with
            | none => none
            | some (ks, m) => some (mkT (l.getD i nd0) ks, m) := by
          rw [treeAt, if_pos ⟨by omega, hok⟩]; rfl
        rw [hT]
        exact grow_main W0 b off i n cap (l.getD i nd0) at_ an ca cn w (treeAt l D) hin hn hcap hc2 hW c0 c1 c2 c3 c4 hok.1 hok.2.1 hok.2.2 ht hm (hsz i hin) (fun j t m h => by have := treeAt_bd h; omega)
          (fun j W ra h1 h2 h3 h4 => ih j W ra h2 (by omega) h3 h4)
      · have hT : treeAt l (D + 1) i = none := by
          rw [treeAt, if_neg (fun h => hok ⟨h.2.1, h.2.2.1, h.2.2.2⟩)]
        rw [hT]
        have hk : knd l i = (l.getD i nd0).kind := rfl
        have hcn : cnt l i = (l.getD i nd0).count := rfl
        rw [hk, hcn] at hok
        show Calls _ _ _ _ fun e w' => Below w.heap.size w w' ∧ e = .returned (.tuple #[.nilIface, .slice none 0 0])
        generalize (l.getD i nd0).kind = kd at *
        generalize (l.getD i nd0).count = ct at *
        obtain ⟨m0, hm0⟩ : ∃ m, m = n - i := ⟨_, rfl⟩
        obtain ⟨cp, hcp⟩ : ∃ cp, cp = cap - i := ⟨_, rfl⟩
        rw [← hm0, ← hcp]
        have f1 : (0 : Int) < (m0 : Int) := by omega
        have d1 : ((m0 : Int) == 0) = false := by simp; omega
        clear ih hr hsz ht hm hra z0 z1 z2 z3 z4 c1 c2 c3 hT hk hcn hW hl hm0 hcp hD hi hcap hc2
        by_cases hk0 : kd < 0
        · have d2 : decide (kd < 0) = true := by simp; omega
          go_enter Tryz.func23, Tryz.ntmps23
          go_wp2_with fail
          go_ret2
          exact ⟨Below.refl _ _, rfl⟩
        · have d2 : decide (kd < 0) = false := by simp; omega
          by_cases hk1 : 26 < kd
          · have d3 : decide (26 < kd) = true := by simp; omega
            go_enter Tryz.func23, Tryz.ntmps23
            go_wp2_with fail
            go_ret2
            exact ⟨Below.refl _ _, rfl⟩
          · have d3 : decide (26 < kd) = false := by simp; omega
            have d4 : decide (ct < 0) = true := by simp; omega
            go_enter Tryz.func23, Tryz.ntmps23
            go_wp2_with fail
            go_ret2
            exact ⟨Below.refl _ _, rfl⟩
    · have hT : treeAt l (D + 1) i = none := by
        rw [treeAt, if_neg (fun h => hin (by omega))]
      rw [hT]
      show Calls _ _ _ _ fun e w' => Below w.heap.size w w' ∧ e = .returned (.tuple #[.nilIface, .slice none 0 0])
      rw [show n - i = 0 by omega]
      clear ih hr hsz hra hT hW hl
      generalize cap - i = cp
      go_enter Tryz.func23, Tryz.ntmps23
      go_wp2_with fail
      go_ret2
      exact ⟨Below.refl _ _, rfl⟩
end Go.Proofs.YtccnjmnafkfjdaaGreat.vt
