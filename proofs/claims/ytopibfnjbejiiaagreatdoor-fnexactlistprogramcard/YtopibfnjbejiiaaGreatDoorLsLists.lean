import Derived.Test.YtopibfnjbejiiaaGreatDoorSvLists
import Derived.Test.YtopibfnjbejiiaaGreatDoorFmtMore
import Derived.Test.YtopibfnjbejiiaaGreatDoorQuoteLists
import Derived.Lib.FieldsLaws
import Derived.Test.YtopibfnjbejiiaaGreatDoorSvPut
import Derived.Lib.ConvBytes
namespace Go.Proofs.YtopibfnjbejiiaaGreatDoor.ls
open Go.RowKit Go.Proofs.YtopibfnjbejiiaaGreatDoor.bts Go.Proofs.YtopibfnjbejiiaaGreatDoor.pg Go.Proofs.YtopibfnjbejiiaaGreatDoor.chk Go.Proofs.YtopibfnjbejiiaaGreatDoor.sv Go.Proofs.YtopibfnjbejiiaaGreatDoor.fmt Go.Proofs.YtopibfnjbejiiaaGreatDoor.quo

/-- The words of the instructions. -/
def wds : List (List UInt8) := [[99, 111, 110, 115, 116], [110, 105, 108], [116, 114, 117, 101], [102, 97, 108, 115, 101], [98, 117, 105, 108, 116, 105, 110], [103, 101, 116], [115, 101, 116], [110, 101, 119], [117, 112], [115, 101, 116, 117, 112], [102, 117, 110, 99], [116, 97, 98, 108, 101], [102, 105, 101, 108, 100], [105, 110, 100, 101, 120], [115, 116, 111, 114, 101], [98, 105, 110], [110, 111, 116], [110, 101, 103], [106, 117, 109, 112], [106, 117, 109, 112, 102, 97, 108, 115, 101], [97, 110, 100], [111, 114], [99, 97, 108, 108], [116, 97, 105, 108], [114, 101, 116, 117, 114, 110], [112, 111, 112], [102, 111, 114, 116, 101, 115, 116], [102, 111, 114, 110, 101, 120, 116]]
def wd (op : Nat) : List UInt8 := wds.getD op []
theorem wd_len (op : Nat) : (wd op).length ≤ 9 := by
  by_cases h : op < 28
  · have hall : ∀ i : Fin 28, (wd i.val).length ≤ 9 := by decide
    exact hall ⟨op, h⟩
  · unfold wd
    rw [List.getD_eq_getElem?_getD, List.getElem?_eq_none (show wds.length ≤ op by show 28 ≤ op; omega)]
    simp

/-- The lines. -/
def dc (z : Int) : List Int := 32 :: fi z
def capL (c : Cp) : List Int := (if c.up then [32, 117, 112] else [32, 115, 108, 111, 116]) ++ fi c.index
def headL (i : Nat) (f : Pr) : List Int := [102, 117, 110, 99, 116, 105, 111, 110] ++ dc i ++ dc f.params ++ dc f.slots ++ fl capL f.caps f.caps.length ++ [10]
def litL (c : Cn) : List Int := if c.isText then 32 :: quote c.text else dc c.n
def numL (x : In) : List Int := (if shA x.op.toNat = 0 then [] else dc x.a) ++ (if shB x.op.toNat = 0 then [] else dc x.b)
def insL (ks : List Cn) (k : Nat) (x : In) : List Int := [32] ++ dc k ++ [32] ++ ib (wd x.op.toNat) ++ (if x.op = 0 then litL (ks.getD x.a.toNat cn0) else numL x) ++ [10]
def codeL (ks : List Cn) (l : List In) : Nat → List Int
  | 0 => []
  | k + 1 => codeL ks l k ++ insL ks k (l.getD k in0)
def protL (ks : List Cn) (l : List Pr) : Nat → List Int
  | 0 => []
  | k + 1 => protL ks l k ++ headL k (l.getD k pr0) ++ codeL ks (l.getD k pr0).code (l.getD k pr0).code.length
def listing (p : Pg) : List Int := protL p.consts p.protos p.protos.length

/-- A constant's number is one of 64 bits. -/
def Num (ks : List Cn) : Prop := ∀ i, i < ks.length → -9223372036854775808 ≤ (ks.getD i cn0).n ∧ (ks.getD i cn0).n ≤ 9223372036854775807

theorem dc_len (z : Int) (h0 : -9223372036854775808 ≤ z) (h1 : z ≤ 9223372036854775807) : (dc z).length ≤ 22 := by
  have := fi_len z h0 h1; simp [dc]; omega
theorem capL_len (c : Cp) (h : SmallC c) : (capL c).length ≤ 26 := by
  have := fi_len c.index (by have := h.1; omega) (by have := h.2; omega)
  unfold capL
  split <;> simp <;> omega
theorem headL_len (i : Nat) (f : Pr) (hi : i ≤ 1048576) (h : SmallP f) : (headL i f).length ≤ 75 + 26 * f.caps.length := by
  have h1 := dc_len i (by omega) (by omega)
  have h2 := dc_len f.params (by have := h.p0; omega) (by have := h.p1; omega)
  have h3 := dc_len f.slots (by have := h.s0; omega) (by have := h.s1; omega)
  have h4 := fl_len (f := capL) cp0 (fun i hi => capL_len _ (h.caps i hi)) f.caps.length (Nat.le_refl _)
  unfold headL
  simp only [List.length_append, List.length_cons, List.length_nil]
  omega
theorem litL_len (c : Cn) (h0 : -9223372036854775808 ≤ c.n) (h1 : c.n ≤ 9223372036854775807) (ht : c.text.length ≤ 5000) : (litL c).length ≤ 20003 := by
  have := dc_len c.n h0 h1
  have := quote_len c.text
  unfold litL
  split <;> simp <;> omega
theorem numL_len (x : In) (h : SmallI x) : (numL x).length ≤ 44 := by
  obtain ⟨_, _, a0, a1, b0, b1⟩ := h
  have := dc_len x.a (by omega) (by omega)
  have := dc_len x.b (by omega) (by omega)
  unfold numL
  split <;> split <;> simp <;> omega
theorem lit_at (ks : List Cn) (hn : Num ks) (ht : ∀ i, i < ks.length → (ks.getD i cn0).text.length ≤ 5000) (i : Nat) : (litL (ks.getD i cn0)).length ≤ 20003 := by
  by_cases h : i < ks.length
  · exact litL_len _ (hn i h).1 (hn i h).2 (ht i h)
  · rw [List.getD_eq_getElem?_getD, List.getElem?_eq_none (by omega)]
    exact litL_len _ (by simp [cn0]) (by simp [cn0]) (by simp [cn0])
theorem insL_len (ks : List Cn) (hn : Num ks) (ht : ∀ i, i < ks.length → (ks.getD i cn0).text.length ≤ 5000) (k : Nat) (hk : k ≤ 1048576) (x : In) (h : SmallI x) : (insL ks k x).length ≤ 20100 := by
  have h1 := dc_len k (by omega) (by omega)
  have h2 := wd_len x.op.toNat
  have h3 := lit_at ks hn ht x.a.toNat
  have h4 := numL_len x h
  unfold insL
  rw [List.length_append, List.length_append, List.length_append, List.length_append, List.length_append, ib_length]
  simp only [List.length_cons, List.length_nil]
  split <;> omega
theorem codeL_len (ks : List Cn) (hn : Num ks) (ht : ∀ i, i < ks.length → (ks.getD i cn0).text.length ≤ 5000) (l : List In) (hl : l.length ≤ 1048576) (h : ∀ i, i < l.length → SmallI (l.getD i in0)) :
    ∀ k, k ≤ l.length → (codeL ks l k).length ≤ 20100 * k
  | 0, _ => by simp [codeL]
  | k + 1, hk => by
    have h1 := codeL_len ks hn ht l hl h k (by omega)
    have h2 := insL_len ks hn ht k (by omega) _ (h k (by omega))
    simp only [codeL, List.length_append]
    omega
theorem protL_len (p : Pg) (hs : sizePg p ≤ 1048576) (hg : SmallG p) (hn : Num p.consts) : ∀ k, k ≤ p.protos.length → (protL p.consts p.protos k).length ≤ 75 * k + 20100 * sumsF sizePr p.protos k
  | 0, _ => by simp [protL]
  | k + 1, hk => by
    have h1 := protL_len p hs hg hn k (by omega)
    have hz := sumsF_at (f := sizePr) pr0 (show k < p.protos.length by omega)
    have hP : p.protos.length + sumsF sizePr p.protos p.protos.length ≤ 1048576 := by unfold sizePg sizeP at hs; omega
    have e : sizePr (p.protos.getD k pr0) = (p.protos.getD k pr0).caps.length + (p.protos.getD k pr0).code.length := rfl
    have h2 := headL_len k _ (by omega) (hg.protos k (by omega))
    have h3 := codeL_len p.consts hn hg.texts (p.protos.getD k pr0).code (by omega) (hg.protos k (by omega)).code _ (Nat.le_refl _)
    rw [sumsF_succ pr0 (by omega)]
    simp only [protL, List.length_append]
    omega
theorem protL_top (p : Pg) (hs : sizePg p ≤ 1048576) (hg : SmallG p) (hn : Num p.consts) (k : Nat) (hk : k ≤ p.protos.length) : (protL p.consts p.protos k).length ≤ 30000000000 := by
  have h1 := protL_len p hs hg hn k hk
  have hP : p.protos.length + sumsF sizePr p.protos p.protos.length ≤ 1048576 := by unfold sizePg sizeP at hs; omega
  have h2 := sumsF_le (f := sizePr) pr0 p.protos (p.protos.length - k) k (by omega)
  omega
theorem listing_len (p : Pg) (hs : sizePg p ≤ 1048576) (hg : SmallG p) (hn : Num p.consts) : (listing p).length ≤ 30000000000 := protL_top p hs hg hn _ (Nat.le_refl _)
end Go.Proofs.YtopibfnjbejiiaaGreatDoor.ls

namespace Go.Proofs.YtopibfnjbejiiaaGreatDoor.ls
open Go.RowKit Go.Proofs.YtopibfnjbejiiaaGreatDoor.bts Go.Proofs.YtopibfnjbejiiaaGreatDoor.pg Go.Proofs.YtopibfnjbejiiaaGreatDoor.chk Go.Proofs.YtopibfnjbejiiaaGreatDoor.sv Go.Proofs.YtopibfnjbejiiaaGreatDoor.fmt Go.Proofs.YtopibfnjbejiiaaGreatDoor.quo

/-- The writer at block g has written these bytes; it owns them, behind its own block. -/
def Wl (uw uk : Value) (w : World) (g : Nat) (zs : List Int) : Prop :=
  ∃ av cv, w.heap[g]? = some (.cells #[.slice av zs.length cv, uw, uk] 60 (0, 0)) ∧ w.ownsRow (g + 1) 5 1 (.slice av zs.length cv) zs.length (bcells zs)

theorem Wl.lt {uw uk : Value} {w : World} {g : Nat} {zs : List Int} (h : Wl uw uk w g zs) : g < w.heap.size := by
  obtain ⟨_, _, h, _⟩ := h
  exact heap_lt h
theorem Wl.keep {uw uk : Value} {w w' : World} {g : Nat} {zs : List Int} (h : Wl uw uk w g zs) (hb : Below w.heap.size w w') : Wl uw uk w' g zs := by
  have hl := h.lt
  obtain ⟨av, cv, h1, h2⟩ := h
  refine ⟨av, cv, (hb.block g hl).trans h1, ?_⟩
  obtain ⟨h3, h4⟩ := h2
  refine ⟨h3, ?_⟩
  rcases h4 with h | ⟨g', cap', cur, e, hb', hh, r⟩
  · exact .inl h
  · exact .inr ⟨g', cap', cur, e, hb', (hb.block g' (heap_lt hh)).trans hh, r⟩
theorem Wl.alloc {uw uk : Value} {w : World} {g : Nat} {zs : List Int} (h : Wl uw uk w g zs) (o : Obj) : Wl uw uk (w.alloc o) g zs := h.keep ((Below.refl _ _).alloc (Nat.le_refl _) o)
theorem Wl.to {uw uk : Value} {w : World} {g : Nat} {zs ys : List Int} (h : Wl uw uk w g zs) (e : zs = ys) : Wl uw uk w g ys := e ▸ h


/-- The writer's bytes lie in block b. -/
def Ot (w : World) (g b : Nat) : Prop := ∃ n cv x y, w.heap[g]? = some (.cells #[.slice (some ⟨b, 0, none⟩) n cv, x, y] 60 (0, 0))
/-- Nothing has turned but the writer and its bytes. -/
structure Fl (g : Nat) (w w' : World) : Prop where
  below : Below g w w'
  keep : ∀ b, b < w.heap.size → b ≠ g → ¬ Ot w g b → w'.heap[b]? = w.heap[b]? ∧ ¬ Ot w' g b
theorem Fl.refl (g : Nat) (w : World) : Fl g w w := ⟨Below.refl _ _, fun _ _ _ h => ⟨rfl, h⟩⟩
theorem Fl.trans {g : Nat} {a b c : World} (h : Fl g a b) (k : Fl g b c) : Fl g a c :=
  ⟨h.below.trans k.below, fun x hx hg ho => by
    obtain ⟨h1, h2⟩ := h.keep x hx hg ho
    obtain ⟨k1, k2⟩ := k.keep x (Nat.lt_of_lt_of_le hx h.below.size) hg h2
    exact ⟨k1.trans h1, k2⟩⟩
theorem Fl.grown {g : Nat} {a b c : World} (h : Fl g a b) (hg : g < b.heap.size) (k : Below b.heap.size b c) : Fl g a c :=
  h.trans ⟨k.mono (by omega), fun x hx _ ho => ⟨k.block x hx, fun ⟨n, cv, p, q, e⟩ => ho ⟨n, cv, p, q, (k.block g hg).symm.trans e⟩⟩⟩
theorem Fl.alloc {g : Nat} {a b : World} (h : Fl g a b) (hg : g < b.heap.size) (o : Obj) : Fl g a (b.alloc o) := h.grown hg ((Below.refl _ _).alloc (Nat.le_refl _) o)
theorem Wl.out {uw uk : Value} {w : World} {g b : Nat} {zs : List Int} (h : Wl uw uk w g zs) (hb : w.heap.size ≤ b) : ¬ Ot w g b := by
  rintro ⟨n, cv, p, q, e⟩
  obtain ⟨av, cv', h1, h2⟩ := h
  rw [h1] at e
  simp only [Option.some.injEq, Obj.cells.injEq, Array.mk.injEq, List.cons.injEq, Value.slice.injEq, and_true] at e
  obtain ⟨⟨rfl, _, _⟩, _, _⟩ := e
  have := (h2.lt b rfl).2
  omega
/-- A cell of a block that is not the writer's stays. -/
theorem Fl.cell {g b o : Nat} {w w' : World} {v : Value} (h : Fl g w w') (hb : b ≠ g) (ho : ¬ Ot w g b) (hc : w.cell? ⟨b, o, none⟩ = some v) : w'.cell? ⟨b, o, none⟩ = some v :=
  (World.cell?_of_block (a := ⟨b, o, none⟩) (h.keep b (World.block_lt_of_cell? _ _ hc) hb ho).1).trans hc



set_option maxRecDepth 100000 in
set_option maxHeartbeats 1000000 in
theorem put_any (uw uk : Value) (g : Nat) (ao : Option Addr) (m cap : Nat) (ys zs : List Int) (w : World) (W : Wl uw uk w g zs) (hl : ys.length = m) (hr : Rd w ao ys) (hb : zs.length + m ≤ 140737488355328) :
    Calls Tryz.prog 45 #[.pointer (some ⟨g, 0, none⟩), .slice ao m cap] w fun e w' => (∃ v, e = .returned v) ∧ Wl uw uk w' g (zs ++ ys) ∧ Fl g w w' := by
  have hgl := W.lt
  obtain ⟨av, cv, hc, ho⟩ := W
  have c0 : w.cell? ⟨g, 0, none⟩ = some (.slice av zs.length cv) := by
    have := cell_of_row w g 0 #[.slice av zs.length cv, uw, uk] 60 (0, 0) hc
    simpa using this
  have HO : Hid (w.ownsRow (g + 1) 5 1 (.slice av zs.length cv) zs.length (bcells zs)) := ho
  have HC : Hid (w.heap[g]? = some (.cells #[.slice av zs.length cv, uw, uk] 60 (0, 0))) := hc
  have HL : Hid (ys.length = m) := hl
  have HR : Hid (Rd w ao ys) := hr
  obtain ⟨n, hn⟩ : ∃ n, n = zs.length := ⟨_, rfl⟩
  have HN : Hid (zs.length = n) := hn.symm
  rw [← hn] at c0 HO HC hb
  clear hn ho hc hl hr
  go_enter Tryz.func45, Tryz.ntmps45
  go_wp2_with (at_builtin; refine wpList_append_bytes rfl _ _ rfl (g + 1) av n cv zs rfl HO.out ao m cap ys rfl HL.out HR.out hb (by omega) ?_; intro av' cv' w2 hA; have HA : Hid (App w (g + 1) av n cv (zs ++ ys) av' (n + m) cv' w2) := hA; have hg2 : w2.heap[g]? = some (.cells #[.slice av n cv, uw, uk] 60 (0, 0)) := (hA.grow.block g hgl (fun e => by have := (HO.out.lt g e.symm).1; omega)).trans HC.out; have d0 : w2.cell? ⟨g, 0, none⟩ = some (.slice av n cv) := (by have := cell_of_row w2 g 0 #[.slice av n cv, uw, uk] 60 (0, 0) hg2; simpa using this); have df : w2.frozen? ⟨g, 0, none⟩ = false := Lone.free (xs := [.slice av n cv, uw, uk]) (Lone.of hg2 rfl) 0; have HG2 : Hid (w2.heap[g]? = some (.cells #[.slice av n cv, uw, uk] 60 (0, 0))) := hg2; clear hA hg2)
  go_returns
  refine ⟨⟨_, rfl⟩, ⟨av', cv', ?_, ?_⟩, ?_⟩
  · have h1 : Lone 60 3 w2 g [.slice av n cv, uw, uk] := Lone.of HG2.out rfl
    have h2 := Lone.back (h1.set 0 (.slice av' (n + m) cv'))
    rw [List.length_append, HN.out, HL.out]
    exact h2
  · have h3 := HA.out.own
    rw [List.length_append, HN.out, HL.out]
    refine own_far h3 (fun b hb => ?_)
    have hb2 := (h3.lt b hb).1
    exact Below.heap_setCell w2 ⟨g, 0, none⟩ _ b (by show b ≠ g; omega)
  · refine ⟨((HA.out.below HO.out (by omega)).mono (show g ≤ g + 1 by omega)).setCell (p := ⟨g, 0, none⟩) (Nat.le_refl _) _, fun b hb hbg ho => ⟨?_, ?_⟩⟩
    · rw [Below.heap_setCell w2 ⟨g, 0, none⟩ _ b hbg]
      refine HA.out.grow.block b hb (fun e => ho ?_)
      rcases HO.out.2 with ⟨h, _⟩ | ⟨g', cap', cur, h, _⟩
      · rw [h] at e; cases e
      · rw [h] at e
        cases e
        rw [h] at HC
        exact ⟨_, _, _, _, HC.out⟩
    · rintro ⟨n', cv2, p, q, e⟩
      have h1 : Lone 60 3 w2 g [.slice av n cv, uw, uk] := Lone.of HG2.out rfl
      have h2 := Lone.back (h1.set 0 (.slice av' (n + m) cv'))
      rw [h2] at e
      simp only [List.set_cons_zero, Option.some.injEq, Obj.cells.injEq, Array.mk.injEq, List.cons.injEq, Value.slice.injEq, and_true] at e
      obtain ⟨⟨rfl, _, _⟩, _, _⟩ := e
      rcases HA.out.lies with ⟨e1, _⟩ | ⟨g', e1, h | h⟩
      · exact ho ⟨n, cv, _, _, by rw [e1]; exact HC.out⟩
      · simp only [Option.some.injEq, Addr.mk.injEq, and_true] at e1
        subst e1
        rcases HO.out.2 with ⟨h', _⟩ | ⟨g', cap', cur, h', _⟩
        · rw [h'] at h; cases h
        · rw [h'] at h
          cases h
          rw [h'] at HC
          exact ho ⟨_, _, _, _, HC.out⟩
      · simp only [Option.some.injEq, Addr.mk.injEq, and_true] at e1
        omega

theorem Wl.fresh {uw uk : Value} {w : World} {g : Nat} {zs : List Int} (h : Wl uw uk w g zs) (o : Obj) : ¬ Ot (w.alloc o) g w.heap.size := by
  rintro ⟨n, cv, p, q, e⟩
  exact h.out (Nat.le_refl _) ⟨n, cv, p, q, by rw [← e]; exact (heap_alloc_old _ _ h.lt).symm⟩
theorem ot_alloc {w : World} {g b : Nat} {o : Obj} (h : ¬ Ot w g b) (hg : g < w.heap.size) : ¬ Ot (w.alloc o) g b :=
  fun ⟨n, cv, p, q, e⟩ => h ⟨n, cv, p, q, by rw [← e]; exact (heap_alloc_old _ _ hg).symm⟩

theorem rd_bytes (w : World) (s : ByteArray) : Rd (Lib.bytesWorld w 5 s) (some ⟨w.heap.size, 0, none⟩) (ib s.data.toList) := by
  intro i hi
  refine ⟨w.heap.size, 0, rfl, ?_⟩
  rw [ib_length] at hi
  have h := Lib.bytesWorld_cell w 5 s i (by simpa using hi)
  rw [Nat.zero_add, h]
  simp only [ib]
  rw [List.getD_eq_getElem?_getD, List.getD_eq_getElem?_getD, List.getElem?_map, List.getElem?_eq_getElem hi]
  rfl
theorem bel_bytes (w : World) (s : ByteArray) : Below w.heap.size w (Lib.bytesWorld w 5 s) :=
  ⟨rfl, rfl, rfl, by rw [Lib.bytesWorld_size]; omega, fun j hj => Lib.bytesWorld_at_old w 5 s j hj⟩

set_option maxRecDepth 100000 in
set_option maxHeartbeats 1000000 in
/-- A word is written. -/
theorem word_any (uw uk : Value) (g : Nat) (s : ByteArray) (n : Nat) (zs : List Int) (w : World) (W : Wl uw uk w g zs) (hs : s.data.toList.length = n) (hb : zs.length + n ≤ 140737488355328) :
    Calls Tryz.prog 43 #[.pointer (some ⟨g, 0, none⟩), .string s] w fun e w' => (∃ v, e = .returned v) ∧ Wl uw uk w' g (zs ++ ib s.data.toList) ∧ Fl g w w' := by
  have hgl := W.lt
  have hsz : s.size = n := by rw [← hs]; simp
  have kv := Lib.run_convert_string_bytes w 9 27 5 s Tryz.underlying9 Tryz.underlying27 Tryz.underlying5
  rw [hsz] at kv
  have P : Hid (Calls Tryz.prog 45 #[.pointer (some ⟨g, 0, none⟩), .slice (some ⟨w.heap.size, 0, none⟩) n (grownCap w n 0 5)] (Lib.bytesWorld w 5 s) fun e w' => (∃ v, e = .returned v) ∧ Wl uw uk w' g (zs ++ ib s.data.toList) ∧ Fl g w w') := by
    refine (put_any uw uk g (some ⟨w.heap.size, 0, none⟩) n _ (ib s.data.toList) zs _ (W.keep (bel_bytes w s)) (by rw [ib_length, hs]) (rd_bytes w s) hb).mono ?_
    rintro e w' ⟨h1, h2, h3⟩
    exact ⟨h1, h2, ((Fl.refl g w).grown hgl (bel_bytes w s)).trans h3⟩
  clear W hs hsz hb
  generalize grownCap w n 0 5 = cp at kv P
  generalize Lib.bytesWorld w 5 s = w1 at kv P
  generalize ib s.data.toList = ys at P ⊢
  go_enter Tryz.func43, Tryz.ntmps43
  go_wp2_with fail
  refine P.out.mono ?_
  rintro e w' ⟨⟨v, rfl⟩, h⟩
  go_wp2
  go_returns
  exact ⟨⟨_, rfl⟩, h⟩
end Go.Proofs.YtopibfnjbejiiaaGreatDoor.ls
