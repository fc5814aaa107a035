import Derived.Test.YtccnjmnafkfjdaaGreatTrIsValid
namespace Go.Proofs.YtccnjmnafkfjdaaGreat.vt
open Go.RowKit Go.Proofs.YtccnjmnafkfjdaaGreat.bts Go.Proofs.YtccnjmnafkfjdaaGreat.nod Go.Proofs.YtccnjmnafkfjdaaGreat.lex

theorem isValid_any (v : Value) {D : Nat} (T : Tr D) (w : World) (hrep : Rep w v T) (hwf : wfT T) (hsz : 1 + sizeT T ≤ 1000000000) :
    Calls Tryz.prog 24 #[v] w fun e w' => e = .returned (.bool (isV T)) ∧ Below w.heap.size w w' := (callsIn_wide (n := 3)).1 (isValid_in 3 v T w (Nat.le_refl _) hrep hwf hsz)
def Wf (l : List Nd) : Prop := ∀ i, i < l.length → -9223372036854775808 ≤ (l.getD i nd0).n ∧ (l.getD i nd0).n ≤ 9223372036854775807
theorem node_room {l : List Nd} (hsz : sizeNS l ≤ 1048576) : ∀ i, i < l.length → (l.getD i nd0).text.length + sizeSS (l.getD i nd0).names ≤ 1048576 := fun _ hi => node_size hsz hi
/-- What growTree answers. -/
def GrowT (w' : World) (l : List Nd) (e : Ending) : Prop :=
  if validI l = true then ∃ v T, growV l = some T ∧ e = .returned v ∧ Rep w' v T ∧ wfT T else e = .returned .nilIface
theorem growT_no {w' : World} {l : List Nd} {e : Ending} (h : validI l = false) (he : e = .returned .nilIface) : GrowT w' l e := by
  unfold GrowT; rw [if_neg (by rw [h]; decide)]; exact he

set_option maxRecDepth 100000 in
set_option maxHeartbeats 4000000 in
theorem growTree_any (b off n cap : Nat) (l : List Nd) (w : World) (hl : l.length = n) (hcap : n ≤ cap) (hc2 : cap ≤ 9223372036854775807) (hr : RcN w (some ⟨b, off, none⟩) l) (hsz : sizeNS l ≤ 1048576) (hwf : Wf l) :
    Calls Tryz.prog 13 #[.slice (some ⟨b, off, none⟩) n cap] w fun e w' => GrowT w' l e ∧ Below w.heap.size w w' := by
  by_cases h6 : n ≤ 6000
  · have G := grow_any w b off n cap l hl h6 hcap hc2 hr (fun i hi => node_room hsz i (by omega)) (l.length + 1) 0 w (some ⟨b, off, none⟩) (by omega) (by omega) (Below.refl _ _) (fun _ => by rw [Nat.zero_mul, Nat.add_zero])
    rw [Nat.sub_zero, Nat.sub_zero] at G
    have d6 : decide ((6000 : Int) < (n : Int)) = false := by simp; omega
    have hV : Hid (validI l = (match growV l with | none => false | some t => isValidT t)) := by show _ = _; unfold validI; rw [decide_eq_true (show l.length ≤ 6000 by omega)]; rfl
    cases hT : treeAt l (l.length + 1) 0 with
    | none =>
      rw [hT] at G
      have hg : growV l = none := by unfold growV; rw [hT]
      have HN : Hid (validI l = false) := by show _ = _; rw [hV.out, hg]
      clear hr hsz hwf hT hg
      go_enter Tryz.func13, Tryz.ntmps13
      go_wp2_with fail
      refine G.mono ?_
      rintro e w1 ⟨hb1, he⟩
      have he2 : e = .returned (.tuple #[.nilIface, .slice none 0 0]) := he
      subst he2
      have HB1 : Hid (Below w.heap.size w w1) := hb1
      clear hb1 he G
      go_wp2_with fail
      go_ret
      exact ⟨growT_no HN.out rfl, HB1.out⟩
    | some tm =>
      obtain ⟨T, m⟩ := tm
      rw [hT] at G
      have hsize := treeAt_size hT
      have hbd := treeAt_bd hT
      have hwT := treeAt_wf hwf hT
      rw [hl] at hbd
      by_cases hm : m = n
      · subst hm
        have hg : growV l = some T := by unfold growV; rw [hT]; simp only; rw [if_pos hl.symm]
        have hisV : isV T = isValidT T := by unfold isV isValidT; rw [decide_eq_true (by omega), Bool.true_and]
        have HN : Hid (validI l = isV T) := by show _ = _; rw [hV.out, hg, hisV]
        have HG : Hid (growV l = some T) := hg
        have HW : Hid (wfT T) := hwT
        clear hr hsz hwf hT hg hisV hwT
        go_enter Tryz.func13, Tryz.ntmps13
        go_wp2_with fail
        refine G.mono ?_
        rintro e w1 ⟨hb1, v, ra, he, _, hx⟩
        subst he
        have hrep := hx.rep hb1
        obtain ⟨TT, g, rfl⟩ := hx.isIface
        have IV := isValid_any _ T w1 hrep HW.out (by omega)
        have HR : Hid (Rep w1 (.iface TT (.pointer (some ⟨g, 0, none⟩))) T) := hrep
        have HB1 : Hid (Below w.heap.size w w1) := hb1
        rw [Nat.sub_self]
        generalize isV T = iv at IV HN
        clear hb1 hx G hrep
        go_wp2_with fail
        refine IV.mono ?_
        rintro e w2 ⟨rfl, hb2⟩
        have HB2 : Hid (Below w.heap.size w w2) := HB1.out.trans (hb2.mono HB1.out.size)
        have HR2 : Hid (Rep w2 (.iface TT (.pointer (some ⟨g, 0, none⟩))) T) := HR.out.kept hb2
        clear hb2 IV
        cases iv with
        | false =>
          go_wp2_with fail
          go_ret
          exact ⟨growT_no HN.out rfl, HB2.out⟩
        | true =>
          go_wp2_with fail
          go_ret
          refine ⟨?_, HB2.out⟩
          unfold GrowT
          rw [if_pos HN.out]
          exact ⟨_, T, HG.out, rfl, HR2.out, HW.out⟩
      · have hg : growV l = none := by unfold growV; rw [hT]; simp only; rw [if_neg (by rw [hl]; exact hm)]
        have HN : Hid (validI l = false) := by show _ = _; rw [hV.out, hg]
        have dm : decide ((0 : Int) < ((n - m : Nat) : Int)) = true := by simp; omega
        have dm2 : 0 < n - m := by omega
        clear hr hsz hwf hT hg hwT
        go_enter Tryz.func13, Tryz.ntmps13
        go_wp2_with fail
        refine G.mono ?_
        rintro e w1 ⟨hb1, v, ra, he, _, hx⟩
        subst he
        obtain ⟨TT, g, rfl⟩ := hx.isIface
        have HB1 : Hid (Below w.heap.size w w1) := hb1
        generalize n - m = nm at *
        clear hb1 hx G
        go_wp2_with fail
        go_ret
        exact ⟨growT_no HN.out rfl, HB1.out⟩
  · have HN : Hid (validI l = false) := by show _ = _; unfold validI; rw [decide_eq_false (show ¬ l.length ≤ 6000 by omega)]; rfl
    have d6 : decide ((6000 : Int) < (n : Int)) = true := by simp; omega
    clear hr hsz hwf
    go_enter Tryz.func13, Tryz.ntmps13
    go_wp2_with fail
    go_ret
    exact ⟨growT_no HN.out rfl, Below.refl _ _⟩

set_option maxRecDepth 100000 in
theorem validTree_any (b off n cap : Nat) (l : List Nd) (w : World) (hl : l.length = n) (hcap : n ≤ cap) (hc2 : cap ≤ 9223372036854775807) (hr : RcN w (some ⟨b, off, none⟩) l) (hsz : sizeNS l ≤ 1048576) (hwf : Wf l) :
    Calls Tryz.prog 7 #[.slice (some ⟨b, off, none⟩) n cap] w fun r w' => r = .returned (.bool (valid l)) ∧ Below w.heap.size w w' := by
  have G := growTree_any b off n cap l w hl hcap hc2 hr hsz hwf
  rw [valid_eq]
  cases hv : validI l with
  | true =>
    have HV : Hid (validI l = true) := hv
    clear hr hsz hwf hl hv
    go_enter Tryz.func7, Tryz.ntmps7
    go_wp2_with fail
    refine G.mono ?_
    rintro e w1 ⟨hg, hb1⟩
    unfold GrowT at hg
    rw [if_pos HV.out] at hg
    obtain ⟨v, T, _, rfl, hrep, _⟩ := hg
    obtain ⟨T0, g, rfl⟩ : ∃ T g, v = .iface T (.pointer (some ⟨g, 0, none⟩)) := by obtain ⟨g, _, _, _, _, _, _, e, _⟩ := hrep.open; exact ⟨_, g, e⟩
    have HB1 : Hid (Below w.heap.size w w1) := hb1
    clear hb1 hrep G
    go_wp2_with fail
    go_ret
    exact ⟨rfl, HB1.out⟩
  | false =>
    have HV : Hid (validI l = false) := hv
    clear hr hsz hwf hl hv
    go_enter Tryz.func7, Tryz.ntmps7
    go_wp2_with fail
    refine G.mono ?_
    rintro e w1 ⟨hg, hb1⟩
    unfold GrowT at hg
    rw [if_neg (by rw [HV.out]; decide)] at hg
    subst hg
    have HB1 : Hid (Below w.heap.size w w1) := hb1
    clear hb1 G
    go_wp2_with fail
    go_ret
    exact ⟨rfl, HB1.out⟩
end Go.Proofs.YtccnjmnafkfjdaaGreat.vt
namespace Go.Proofs.YtccnjmnafkfjdaaGreat.vt
open Go.RowKit Go.Proofs.YtccnjmnafkfjdaaGreat.bts Go.Proofs.YtccnjmnafkfjdaaGreat.nod Go.ChangeShapes Go.Deep

section
variable {H : Type} {enc : TypeId × Value → H} {W : World} {held : Bool}
set_option maxRecDepth 100000 in
theorem node_wf {fuel : Nat} {cs : List Value} {x : DataW H × List MemPlace} (h : DataW.trod enc Tryz.prog W 0 (fun _ => true) held fuel 33 cs = some x) :
    ∃ n : Int, cs[1]? = some (.int .i64 n) ∧ (Lit.int .i64 n).wf = true := by
  obtain ⟨xs, m, _, _, hl, hlen, hf⟩ := DataW.trod_struct Tryz.underlying33 h
  rw [cellsNode] at hl
  match cs, hl with
  | [v0, v1, v2, v3, v4], _ =>
    match xs, hlen with
    | [y0, y1, y2, y3, y4], _ =>
      have f1 : DataW.trod enc Tryz.prog W 0 (fun _ => true) held m 3 [v1] = some y1 := by
        have := hf 1 _ rfl
        change DataW.trod enc Tryz.prog W 0 (fun _ => true) held m 3 (([v0, v1, v2, v3, v4].drop 1).take (Tryz.prog.cellsOf 3)) = _ at this
        rw [cells3] at this
        exact this
      obtain ⟨n, e1, _, hw⟩ := DataW.trod_int Tryz.underlying3 f1
      simp only [List.cons.injEq, and_true] at e1
      subst e1
      exact ⟨n, rfl, hw⟩
theorem i64_wf {n : Int} (h : (Lit.int .i64 n).wf = true) : -9223372036854775808 ≤ n ∧ n ≤ 9223372036854775807 := by
  simp only [Lit.wf, Bool.and_eq_true, decide_eq_true_eq] at h
  have e1 : IntKind.i64.min = -9223372036854775808 := by decide
  have e2 : IntKind.i64.max = 9223372036854775807 := by decide
  omega
set_option maxRecDepth 100000 in
theorem nodes_wf {fuel : Nat} {a0 : Option Addr} {len cap : Nat} {x : DataW H × List MemPlace} (h : DataW.trod enc Tryz.prog W 0 (fun _ => true) held fuel 22 [.slice a0 len cap] = some x)
    (l : List Nd) (hl : l.length = len) (hr : RdN W a0 l) : Wf l := by
  intro i hi
  rcases open_slice Tryz.underlying22 h with ⟨hcs, _⟩ | ⟨a, len', cap', m, n, D, Pl, hcs, _, hl2, hm, hmm, _, hx⟩
  · simp only [List.cons.injEq, Value.slice.injEq, and_true] at hcs
    obtain ⟨rfl, rfl, rfl⟩ := hcs
    omega
  · simp only [List.cons.injEq, Value.slice.injEq, and_true] at hcs
    obtain ⟨rfl, rfl, rfl⟩ := hcs
    simp only [if_true] at hmm
    rw [cellsNode] at hx
    obtain ⟨b, off, ut, un, e, _, c1, _⟩ := hr i hi
    simp only [Option.some.injEq] at e
    subst e
    obtain ⟨cs', h1, h2⟩ := hx i (by omega)
    obtain ⟨_, hlen, hc⟩ := World.cells?_some h1
    obtain ⟨k, hk, hw⟩ := node_wf h2
    have c1' := hc 1 (by omega)
    simp only [plainAt] at c1'
    rw [c1, hk] at c1'
    simp only [Option.some.injEq, Value.int.injEq, true_and] at c1'
    rw [c1']
    exact i64_wf hw
end
end Go.Proofs.YtccnjmnafkfjdaaGreat.vt
