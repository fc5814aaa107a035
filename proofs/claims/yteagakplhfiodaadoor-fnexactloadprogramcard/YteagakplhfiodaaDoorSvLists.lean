import Derived.Test.YteagakplhfiodaaDoorChkPure
import Derived.Test.YteagakplhfiodaaDoorPgSz
namespace Go.Proofs.YteagakplhfiodaaDoor.sv
open Go.RowKit Go.Proofs.YteagakplhfiodaaDoor.bts Go.Proofs.YteagakplhfiodaaDoor.pg Go.Proofs.YteagakplhfiodaaDoor.chk

/-- A number as bytes of seven bits each, of at most f + 1 bytes. -/
def vr : Nat → Nat → List Int
  | 0, v => [(v : Int)]
  | f + 1, v => if v < 128 then [(v : Int)] else (((v % 128 + 128 : Nat) : Int)) :: vr f (v / 128)
def var (v : Nat) : List Int := vr 2 v
def vz (z : Int) : List Int := var z.toNat
/-- A number as eight bytes. -/
def e8 (n : Int) (k : Nat) : List Int := (List.range k).map fun i => n / 2 ^ (8 * i) % 256

theorem vr_small {f v : Nat} (h : v < 128) : vr f v = [(v : Int)] := by
  cases f with
  | zero => rfl
  | succ f => unfold vr; rw [if_pos h]
theorem vr_great {f v : Nat} (h : ¬ v < 128) : vr (f + 1) v = (((v % 128 + 128 : Nat) : Int)) :: vr f (v / 128) := by rw [vr, if_neg h]
theorem vr_more : ∀ (f v : Nat), v < 128 ^ (f + 1) → vr (f + 1) v = vr f v
  | 0, v, h => by
    have h' : v < 128 := by simpa using h
    rw [vr_small h', vr_small h']
  | f + 1, v, h => by
    by_cases hv : v < 128
    · rw [vr_small hv, vr_small hv]
    · rw [vr_great hv, vr_great hv, vr_more f (v / 128) (by rw [Nat.div_lt_iff_lt_mul (by omega)]; rw [Nat.pow_succ] at h; exact h)]
theorem var_small {v : Nat} (h : v < 128) : var v = [(v : Int)] := vr_small h
theorem var_great {v : Nat} (h : ¬ v < 128) (h2 : v < 2097152) : var v = (((v % 128 + 128 : Nat) : Int)) :: var (v / 128) := by
  unfold var
  rw [vr_great h, ← vr_more 1 (v / 128) (by rw [Nat.div_lt_iff_lt_mul (by omega)]; omega)]
theorem vr_len : ∀ (f v : Nat), (vr f v).length ≤ f + 1
  | 0, v => by simp [vr]
  | f + 1, v => by
    by_cases hv : v < 128
    · rw [vr_small hv]; simp
    · rw [vr_great hv]; have := vr_len f (v / 128); simp; omega
theorem vr_pos (f v : Nat) : 0 < (vr f v).length := by
  cases f with
  | zero => simp [vr]
  | succ f => unfold vr; split <;> simp
theorem var_len (v : Nat) : (var v).length ≤ 3 := vr_len 2 v
theorem var_pos (v : Nat) : 0 < (var v).length := vr_pos 2 v
theorem vz_len (z : Int) : (vz z).length ≤ 3 := var_len _
theorem vz_pos (z : Int) : 0 < (vz z).length := var_pos _
theorem vz_nat (v : Nat) : vz (v : Int) = var v := by unfold vz; rw [Int.toNat_natCast]
theorem e8_len (n : Int) (k : Nat) : (e8 n k).length = k := by simp [e8]
theorem e8_succ (n : Int) (k : Nat) : e8 n (k + 1) = e8 n k ++ [n / 2 ^ (8 * k) % 256] := by simp [e8, List.range_succ]

/-- What is written of the first k of a list. -/
def fl {α : Type} (f : α → List Int) (l : List α) (k : Nat) : List Int := ((l.take k).map f).flatten
theorem fl_zero {α : Type} (f : α → List Int) (l : List α) : fl f l 0 = [] := by simp [fl]
theorem fl_succ {α : Type} {f : α → List Int} {l : List α} {k : Nat} (d : α) (h : k < l.length) : fl f l (k + 1) = fl f l k ++ f (l.getD k d) := by
  unfold fl
  rw [List.take_add_one, List.getElem?_eq_getElem h, Option.toList_some, List.map_append, List.flatten_append]
  simp [List.getD_eq_getElem?_getD, List.getElem?_eq_getElem h]
theorem fl_len {α : Type} {f : α → List Int} {l : List α} {C : Nat} (d : α) (h : ∀ i, i < l.length → (f (l.getD i d)).length ≤ C) : ∀ k, k ≤ l.length → (fl f l k).length ≤ C * k
  | 0, _ => by simp [fl]
  | k + 1, hk => by
    rw [fl_succ d (by omega), List.length_append, Nat.mul_succ]
    have := fl_len d h k (by omega)
    have := h k (by omega)
    omega

/-- What is written of a constant, of a capture, of an instruction, of a function, of a program. -/
def kc (c : Cn) : List Int := if c.isText then (1 :: var c.text.length) ++ c.text else 0 :: e8 c.n 8
def cc (c : Cp) : List Int := (if c.up then 1 else 0) :: vz c.index
def xc (x : In) : List Int := x.op :: (vz x.a ++ vz x.b)
def fc (f : Pr) : List Int := vz f.params ++ vz f.slots ++ var f.caps.length ++ fl cc f.caps f.caps.length ++ var f.code.length ++ fl xc f.code f.code.length
def save (p : Pg) : List Int := [77, 78, 76, 84] ++ var p.consts.length ++ fl kc p.consts p.consts.length ++ var p.protos.length ++ fl fc p.protos p.protos.length

theorem kc_text {n : Int} {t : List Int} : kc ⟨true, n, t⟩ = (1 :: var t.length) ++ t := rfl
theorem kc_num {n : Int} {t : List Int} : kc ⟨false, n, t⟩ = 0 :: e8 n 8 := rfl
theorem cc_up {z : Int} : cc ⟨true, z⟩ = 1 :: vz z := rfl
theorem cc_no {z : Int} : cc ⟨false, z⟩ = 0 :: vz z := rfl

theorem kc_len (c : Cn) (h : c.text.length ≤ 5000) : (kc c).length ≤ 5013 := by
  unfold kc
  split
  · have := var_len c.text.length; simp; omega
  · rw [List.length_cons, e8_len]; omega
theorem cc_len (c : Cp) : (cc c).length ≤ 4 := by
  have := vz_len c.index; simp [cc]; omega
theorem xc_len (x : In) : (xc x).length ≤ 7 := by
  have := vz_len x.a; have := vz_len x.b; simp [xc]; omega
theorem flc_len (l : List Cp) (k : Nat) (h : k ≤ l.length) : (fl cc l k).length ≤ 4 * k := fl_len cp0 (fun _ _ => cc_len _) k h
theorem flx_len (l : List In) (k : Nat) (h : k ≤ l.length) : (fl xc l k).length ≤ 7 * k := fl_len in0 (fun _ _ => xc_len _) k h
theorem fc_len (f : Pr) (h1 : f.caps.length ≤ 1048576) (h2 : f.code.length ≤ 1048576) : (fc f).length ≤ 11534352 := by
  have := vz_len f.params; have := vz_len f.slots; have := var_len f.caps.length; have := var_len f.code.length
  have := flc_len f.caps _ (Nat.le_refl _); have := flx_len f.code _ (Nat.le_refl _)
  unfold fc
  simp only [List.length_append]
  omega

/-- What a sound program's numbers keep to. -/
def SmallI (x : In) : Prop := 0 ≤ x.op ∧ x.op < 28 ∧ 0 ≤ x.a ∧ x.a < 2097152 ∧ 0 ≤ x.b ∧ x.b < 2097152
def SmallC (c : Cp) : Prop := 0 ≤ c.index ∧ c.index < 2097152
structure SmallP (f : Pr) : Prop where
  p0 : 0 ≤ f.params
  p1 : f.params < 2097152
  s0 : 0 ≤ f.slots
  s1 : f.slots < 2097152
  caps : ∀ i, i < f.caps.length → SmallC (f.caps.getD i cp0)
  code : ∀ i, i < f.code.length → SmallI (f.code.getD i in0)
structure SmallG (p : Pg) : Prop where
  texts : ∀ i, i < p.consts.length → (p.consts.getD i cn0).text.length ≤ 5000
  protos : ∀ i, i < p.protos.length → SmallP (p.protos.getD i pr0)

theorem top_le {nk np nc nd u : Nat} {s : Int} (h1 : nk ≤ 1048576) (h2 : np ≤ 1048576) (h3 : s ≤ 1048576) (h4 : nc ≤ 1048576) (h5 : nd ≤ 1048576) : top nk np s nc nd u ≤ 1048576 := by
  unfold top
  repeat' split
  all_goals omega
theorem low_ge (u : Nat) : 0 ≤ low u := by unfold low; split <;> omega
theorem sound_small {p : Pg} (h : Sound p) (hs : sizePg p ≤ 1048576) : SmallG p := by
  obtain ⟨⟨⟨_, _, hk⟩, hc, hp, _⟩, hf⟩ := h
  refine ⟨fun i hi => (hc i hi).1, fun i hi => ?_⟩
  obtain ⟨a1, a2, a3, a4, _, a6⟩ := hp i hi
  have hz := sumsF_at (f := sizePr) pr0 hi
  have hn : p.protos.length + sumsF sizePr p.protos p.protos.length ≤ 1048576 := by unfold sizePg sizeP at hs; omega
  have hcd : (p.protos.getD i pr0).code.length ≤ 1048576 := by have e : sizePr (p.protos.getD i pr0) = (p.protos.getD i pr0).caps.length + (p.protos.getD i pr0).code.length := rfl; omega
  refine ⟨a1, by omega, by omega, by omega, fun j hj => ⟨(a6 j hj).1, by have := (a6 j hj).2; omega⟩, fun j hj => ?_⟩
  have hx := (hf i hi).1 j hj
  unfold insOK at hx
  simp only [Bool.and_eq_true, decide_eq_true_eq] at hx
  obtain ⟨h0, h1, hA, hB, _⟩ := hx
  replace hA := knows_at hA
  replace hB := knows_at hB
  have tA := top_le (u := shA ((p.protos.getD i pr0).code.getD j in0).op.toNat) (s := (p.protos.getD i pr0).slots) (show p.consts.length ≤ 1048576 by omega) (show p.protos.length ≤ 1048576 by omega) (by omega) (show (p.protos.getD i pr0).caps.length ≤ 1048576 by omega) hcd
  have tB := top_le (u := shB ((p.protos.getD i pr0).code.getD j in0).op.toNat) (s := (p.protos.getD i pr0).slots) (show p.consts.length ≤ 1048576 by omega) (show p.protos.length ≤ 1048576 by omega) (by omega) (show (p.protos.getD i pr0).caps.length ≤ 1048576 by omega) hcd
  have lA := low_ge (shA ((p.protos.getD i pr0).code.getD j in0).op.toNat)
  have lB := low_ge (shB ((p.protos.getD i pr0).code.getD j in0).op.toNat)
  exact ⟨h0, by omega, by omega, by omega, by omega, by omega⟩
end Go.Proofs.YteagakplhfiodaaDoor.sv
