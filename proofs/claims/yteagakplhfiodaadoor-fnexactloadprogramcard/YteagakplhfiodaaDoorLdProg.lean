import Derived.Test.YteagakplhfiodaaDoorRows
import Derived.WalkKit
import Derived.LaidEql
import Derived.Stop.Asserts
import Derived.RowKitTokens
import Derived.Test.YteagakplhfiodaaDoorLdList
import Derived.Laws.BytesArg
import Derived.Laws.ResultCell
import Derived.Deep.RegionHeld3
import Derived.Test.YteagakplhfiodaaDoorThImpl
namespace Go.Proofs.YteagakplhfiodaaDoor.ld
open Go.RowKit Go.Extern.Stop Go.Stop Go.Extern

/- What errors.Is asks of an error that errors.New made: its type can be compared, and it has neither Is nor Unwrap. -/
theorem typeOf_es (v : Value) (w : World) : (Extern.ReflectliteType.typeOf #[.iface 142 v]).run Tryd.prog w = .ok (.iface 102 (.agg #[.pointer (some ⟨3, 142, none⟩)])) w := by kernel_rfl
theorem call_typeOf (v : Value) (w : World) : (callFunc 35 #[.iface 142 v]).run Tryd.prog w = .ok (.value (.iface 102 (.agg #[.pointer (some ⟨3, 142, none⟩)]))) w := by
  rw [@run_callFunc_extern Tryd.prog 35 _ Extern.ReflectliteType.typeOf Tryd.func35 (by kernel_rfl) (by kernel_rfl) (by kernel_rfl) (by kernel_rfl), typeOf_es]
  rfl
theorem comparable_es (w : World) : ((Extern.ReflectliteType.method fun t => do Go.Extern.Rtype.noPackHeld "Comparable" t; pure (.bool (← typeInfo t).comparable)) #[.agg #[.pointer (some ⟨3, 142, none⟩)]]).run Tryd.prog w = .ok (.bool true) w := by kernel_rfl
theorem call_comparable (w : World) : (callFunc 96 #[.agg #[.pointer (some ⟨3, 142, none⟩)]]).run Tryd.prog w = .ok (.value (.bool true)) w := by
  rw [@run_callFunc_extern Tryd.prog 96 _ (Extern.ReflectliteType.method fun t => do Go.Extern.Rtype.noPackHeld "Comparable" t; pure (.bool (← typeInfo t).comparable)) Tryd.func96 (by kernel_rfl) (by kernel_rfl) (by kernel_rfl) (by kernel_rfl), comparable_es]
  rfl
theorem method_es (v : Value) (w : World) : (Go.method 278 102 v "Comparable").run Tryd.prog w = .ok (96, v) w := by kernel_rfl
theorem comp_es : (Tryd.prog.info? 142).map (·.comparable) = some true := by kernel_rfl
theorem size_es : (Tryd.prog.info? 166).map (·.size) = some 1 := by kernel_rfl
theorem no_is (v : Value) (xT : TypeId) (w : World) : (Instr.typeAssert (.iface 142 v) xT 104 true).run Tryd.prog w = .ok (.tuple #[.nilIface, .bool false]) w := run_typeAssert_lacksB Tryd.underlying104 (by kernel_rfl) (by kernel_rfl) v xT w
theorem no_unwrap (v : Value) (xT : TypeId) (w : World) : (Instr.typeAssert (.iface 142 v) xT 107 true).run Tryd.prog w = .ok (.tuple #[.nilIface, .bool false]) w := run_typeAssert_lacksB Tryd.underlying107 (by kernel_rfl) (by kernel_rfl) v xT w
theorem no_unwraps (v : Value) (xT : TypeId) (w : World) : (Instr.typeAssert (.iface 142 v) xT 109 true).run Tryd.prog w = .ok (.tuple #[.nilIface, .bool false]) w := run_typeAssert_lacksB Tryd.underlying109 (by kernel_rfl) (by kernel_rfl) v xT w

set_option maxRecDepth 100000 in
theorem is_same (a : Addr) (w : World) :
    Calls Tryd.prog 17 #[.iface 142 (.pointer (some a)), .iface 142 (.pointer (some a))] w fun e w' => e = .returned (.bool true) ∧ w' = w := by
  obtain ⟨i, hi, hcmp⟩ := Option.map_eq_some_iff.1 comp_es
  obtain ⟨j, hj, _⟩ := Option.map_eq_some_iff.1 size_es
  have h8 := call_typeOf
  have h32 := call_comparable
  have mR := method_es
  have heq := run_eql_iface_ptr_same (P := Tryd.prog) w a Tryd.underlying54 Tryd.underlying142 hi hcmp hj
  go_enter Tryd.func17, Tryd.ntmps17
  go_wp2
  refine wp_loop_rounds 1 ?_
  rw [rounds_succ]
  go_wp2
  go_ret
  exact ⟨rfl, rfl⟩

set_option maxRecDepth 100000 in
theorem is_nil (b : Addr) (w : World) :
    Calls Tryd.prog 17 #[.nilIface, .iface 142 (.pointer (some b))] w fun e w' => e = .returned (.bool false) ∧ w' = w := by
  have hn := run_eql_iface_nil_left (P := Tryd.prog) w 142 (.pointer (some b)) Tryd.underlying54
  go_enter Tryd.func17, Tryd.ntmps17
  go_wp2
  go_ret
  exact ⟨rfl, rfl⟩

set_option maxRecDepth 100000 in
theorem is_other (a b : Addr) (ca cb : Array Value) (ta tb : TypeId) (w : World) (hne : a ≠ b) (ha : w.heap[a.block]? = some (.cells ca ta (0, 0))) (hb : w.heap[b.block]? = some (.cells cb tb (0, 0))) :
    Calls Tryd.prog 17 #[.iface 142 (.pointer (some a)), .iface 142 (.pointer (some b))] w fun e w' => e = .returned (.bool false) ∧ w' = w := by
  obtain ⟨i, hi, hcmp⟩ := Option.map_eq_some_iff.1 comp_es
  obtain ⟨j, hj, hjs⟩ := Option.map_eq_some_iff.1 size_es
  have h8 := call_typeOf
  have h32 := call_comparable
  have mR := method_es
  have nE := no_is
  have uE := no_unwrap
  have vE := no_unwraps
  have heq := run_eql_iface_ptr_other (P := Tryd.prog) w Tryd.underlying54 Tryd.underlying142 hi hcmp hj (by rw [hjs]; decide) hne ha hb
  go_enter Tryd.func17, Tryd.ntmps17
  go_wp2
  refine wp_loop_rounds 1 ?_
  rw [rounds_succ]
  go_wp2
  go_ret
  exact ⟨rfl, rfl⟩
end Go.Proofs.YteagakplhfiodaaDoor.ld

namespace Go.Proofs.YteagakplhfiodaaDoor.ld
open Go.RowKit Go.Proofs.YteagakplhfiodaaDoor.bts Go.Proofs.YteagakplhfiodaaDoor.pg Go.Proofs.YteagakplhfiodaaDoor.chk Go.Proofs.YteagakplhfiodaaDoor.sv Go.Proofs.YteagakplhfiodaaDoor.th

theorem str_inj {xs ys : List Int} (hx : BB xs) (hy : BB ys) (h : strOfNums xs = strOfNums ys) : xs = ys := by
  have h1 := congrArg (fun s => s.data.toList) h
  simp only [strOfNums_data] at h1
  have key : ∀ {l : List Int}, BB l → (l.map fun n => UInt8.ofNat n.toNat).map (fun b => (b.toNat : Int)) = l := by
    intro l hl
    induction l with
    | nil => rfl
    | cons z l ih =>
      have := hl.head
      simp only [List.map_cons, ih hl.tail, List.cons.injEq, and_true, UInt8.toNat_ofNat']
      omega
  rw [← key hx, ← key hy, h1]

theorem conv_nil (w : World) (cv : Nat) : (convert 22 9 (.slice none 0 cv)).run Tryd.prog w = .ok (.string ⟨#[]⟩) w := by kernel_rfl
theorem conv_at (w : World) (av : Option Addr) (m cv : Nat) (ys : List Int) (hm : m = ys.length) (hr : RdV w (.slice av m cv) ys) (hz : ys = [] → av = none) : (convert 22 9 (.slice av m cv)).run Tryd.prog w = .ok (.string (strOfNums ys)) w := by
  subst hm
  have h := rdv_rd hr
  by_cases h0 : 0 < ys.length
  · obtain ⟨b, off, rfl, _, hc⟩ := h.at h0
    exact run_convert_bytes_arg w 22 5 Tryd.underlying22 Tryd.underlying5 b off _ cv ys rfl (fun i hi => hc i (by omega)) 9 Tryd.underlying9
  · obtain rfl : ys = [] := List.length_eq_zero_iff.1 (by omega)
    rw [hz rfl]
    exact conv_nil w cv
theorem str_list (ys : List Int) : (strOfNums ys).toList = ys.map fun n => UInt8.ofNat n.toNat := by
  rw [ByteArray.toList_eq]
  rfl
theorem str_mark {ys : List Int} (hy : BB ys) : ((strOfNums ys).toList == [77, 78, 76, 84]) = decide (ys = [77, 78, 76, 84]) := by
  by_cases h : ys = [77, 78, 76, 84]
  · subst h
    rw [str_list]
    rfl
  · rw [decide_eq_false h]
    refine beq_eq_false_iff_ne.2 fun e => h (str_inj hy (by intro z hz; simp only [List.mem_cons, List.not_mem_nil, or_false] at hz; omega) ?_)
    rw [str_list] at e
    have : strOfNums ys = ⟨([77, 78, 76, 84] : List UInt8).toArray⟩ := by unfold strOfNums; rw [e]
    rw [this]
    rfl

/-- A program in memory of its own, the constants below M, the functions from M on. -/
def PrgAt (w w' : World) (ak ap : Option Addr) (mk ck mp cp : Nat) (ks : List Cn) (ps : List Pr) : Prop :=
  ∃ (M : Nat) (ut uc ud : Nat → Value), BK w' w.heap.size (.slice ak mk ck) mk (fun j => ks.getD j cn0) ut ∧ UnderK M (.slice ak mk ck) mk ut ∧ BP w' M (.slice ap mp cp) mp (fun j => ps.getD j pr0) uc ud ∧ w.heap.size ≤ M ∧ M ≤ w'.heap.size ∧ mk = ks.length ∧ mp = ps.length ∧ KOk ks ∧ POk ps
theorem res2 {fn : Func} {P : Program} {p u : Tmp} {ty : TypeId} (h : fn.results = #[.cell p ty, .tmp u]) (tmps : Array Value) (w : World) (g : Nat) (t : TypeId) (cs : Array Value) (fr : Nat × Nat) (d : TypeDesc) (hp : tmps.getD p undef = .pointer (some ⟨g, 0, none⟩)) (hg : w.heap[g]? = some (.cells cs t fr))
    (hu : P.underlying ty = some d) (hd : (match d with | .struct _ | .array _ _ => true | _ => false) = true) (hi : (P.info? ty).map (·.size) = some cs.size) : (results fn tmps).run P w = .ok (.tuple #[.agg cs, tmps.getD u undef]) w := by
  rw [results_cell_tmp h, hp]
  simp [asAddr, run_loadVar_row w g t ty cs fr d hg hu hd hi]
theorem BK.weaken {w : World} {B B' n : Nat} {v : Value} {d : Nat → Cn} {ut : Nat → Value} (h : BK w B v n d ut) (hB : B' ≤ B) : BK w B' v n d ut := by
  obtain ⟨⟨us, h1, h2⟩, h3, h4, h5⟩ := h
  exact ⟨⟨us, own_weaken h1 hB, h2⟩, fun j hj => (h3 j hj).weaken hB, h4, h5⟩
/-- Constants stay where one block alone turns that is none of theirs. -/
theorem bk_far {w w' : World} {B n R : Nat} {v : Value} {d : Nat → Cn} {ut : Nat → Value} (h : BK w B v n d ut) (hk : ∀ b, b < w.heap.size → b ≠ R → w'.heap[b]? = w.heap[b]?) (hR : v.ownBlock ≠ some R ∧ ∀ j, j < n → (ut j).ownBlock ≠ some R) : BK w' B v n d ut := by
  obtain ⟨⟨us, h1, h2⟩, h3, h4, h5⟩ := h
  exact ⟨⟨us, th.own_hold h1 (fun b _ hb e => hk b hb (fun e' => hR.1 (by rw [e, e']))), h2⟩, fun j hj => (h3 j hj).hold (fun b _ hb e => hk b hb (fun e' => hR.2 j hj (by rw [e, e']))), h4, h5⟩

set_option maxRecDepth 100000 in
set_option maxHeartbeats 2000000 in
theorem readProgram_any (av : Option Addr) (cv : Nat) (bs : List Int) (w : World) (a0 a1 : Addr) (hE : Er w a0 a1) (hr : Rd w av bs) (hS : Sl av bs.length cv) (hb : BB bs) (hl : bs.length ≤ 1048576) :
    Calls Tryd.prog 16 #[.slice av bs.length cv] w fun e w' => ∃ (ak ap : Option Addr) (mk ck mp cp : Nat) (k : List Cn) (p : List Pr) (f : Value), e = .returned (.tuple #[.agg #[.slice ak mk ck, .slice ap mp cp], f]) ∧ PrgAt w w' ak ap mk ck mp cp k p ∧ (progD bs = none ∧ (f = .iface 142 (.pointer (some a0)) ∨ f = .iface 142 (.pointer (some a1))) ∨ progD bs = some ⟨k, p⟩ ∧ f = .nilIface) ∧ Below w.heap.size w w' := by
  obtain ⟨n, hn⟩ : ∃ n, n = bs.length := ⟨_, rfl⟩
  have b0 : Below w.heap.size w (w.alloc (.cells #[.slice none 0 0, .slice none 0 0] 26)) := (Below.refl _ _).alloc (Nat.le_refl _) _
  obtain ⟨W0, hW0⟩ : ∃ W0, W0 = w.alloc (.cells #[.slice none 0 0, .slice none 0 0] 26) := ⟨_, rfl⟩
  have hz0 : W0.heap.size = w.heap.size + 1 := by rw [hW0]; simp
  have E0 : Er W0 a0 a1 := by rw [hW0]; exact hE.below b0
  have L0 : Lone 26 2 W0 w.heap.size [.slice none 0 0, .slice none 0 0] := by rw [hW0]; exact lone_new w rfl
  have R0 : Rd W0 av bs := by rw [hW0]; exact hr.below b0
  have b1 : Below W0.heap.size W0 (W0.alloc (.cells #[.slice av n cv, .nilIface] 67)) := (Below.refl _ _).alloc (Nat.le_refl _) _
  have S1 : Hid (St W0 a0 a1 (W0.alloc (.cells #[.slice av n cv, .nilIface] 67)) (w.heap.size + 1) (some bs)) := ⟨b1, by omega, av, n, cv, .nilIface, by rw [← hz0]; exact lone_new W0 rfl, by rw [hn]; exact hS, by omega, fun xs e => by cases e; exact ⟨hn, R0, hb, rfl⟩, fun e => by cases e⟩
  have L1 : Hid (Lone 26 2 (W0.alloc (.cells #[.slice av n cv, .nilIface] 67)) w.heap.size [.slice none 0 0, .slice none 0 0]) := L0.below b1 (by omega)
  have B1 : Hid (Below w.heap.size w (W0.alloc (.cells #[.slice av n cv, .nilIface] 67)) ∧ w.heap.size + 2 ≤ (W0.alloc (.cells #[.slice av n cv, .nilIface] 67)).heap.size) := ⟨by rw [hW0] at b1 ⊢; exact b0.trans (b1.mono (by simp)), by simp; omega⟩
  have TK : Hid (∀ W s (n : Nat), n ≤ 9223372036854775807 → St W0 a0 a1 W (w.heap.size + 1) s → Calls Tryd.prog 29 #[.pointer (some ⟨w.heap.size + 1, 0, none⟩), .int .i64 (n : Int)] W fun e w' => ∃ av m cv ys s', e = .returned (.slice av m cv) ∧ m = ys.length ∧ RdV w' (.slice av m cv) ys ∧ ys.length ≤ 1048576 ∧ (s' = none → av = none) ∧ Got (s.bind (takeD n)) ys s' ∧ St W0 a0 a1 w' (w.heap.size + 1) s' ∧ Fq (w.heap.size + 1) W w') := fun W s n hn h => take_any W0 W a0 a1 (w.heap.size + 1) n s hn E0 h
  have FL : Hid (∀ W s, St W0 a0 a1 W (w.heap.size + 1) s → Calls Tryd.prog 30 #[.pointer (some ⟨w.heap.size + 1, 0, none⟩), .iface 142 (.pointer (some a1))] W fun e w' => (∃ v, e = .returned v) ∧ St W0 a0 a1 w' (w.heap.size + 1) none ∧ Fq (w.heap.size + 1) W w') := fun W s h => fail_any W0 W a0 a1 (w.heap.size + 1) s a1 (.inr rfl) h
  have LK : Hid (∀ W s, St W0 a0 a1 W (w.heap.size + 1) s → Calls Tryd.prog 31 #[.pointer (some ⟨w.heap.size + 1, 0, none⟩), .func (.func 32) #[.pointer (some ⟨w.heap.size + 1, 0, none⟩)] #[]] W fun e w' => ∃ (av : Option Addr) (m cv : Nat) (l : List Cn) (s' : Option (List Int)), e = .returned (.slice av m cv) ∧ l.length ≤ 1048576 ∧ OLk w' W.heap.size av m cv l ∧ Got (s.bind (manyD num (constD num flagD))) l s' ∧ St W0 a0 a1 w' (w.heap.size + 1) s' ∧ Fq (w.heap.size + 1) W w') := fun W s h => readListConst_any W0 W a0 a1 (w.heap.size + 1) s E0 h
  have LP : Hid (∀ W s, St W0 a0 a1 W (w.heap.size + 1) s → Calls Tryd.prog 33 #[.pointer (some ⟨w.heap.size + 1, 0, none⟩), .func (.func 34) #[.pointer (some ⟨w.heap.size + 1, 0, none⟩)] #[]] W fun e w' => ∃ (av : Option Addr) (m cv : Nat) (l : List Pr) (s' : Option (List Int)), e = .returned (.slice av m cv) ∧ l.length ≤ 1048576 ∧ OLp w' W.heap.size av m cv l ∧ Got (s.bind (manyD num (protoD num flagD))) l s' ∧ St W0 a0 a1 w' (w.heap.size + 1) s' ∧ Fq (w.heap.size + 1) W w') := fun W s h => readListProto_any W0 W a0 a1 (w.heap.size + 1) s E0 h
  have HE : Hid (Er W0 a0 a1) := E0
  have HW0 : Hid (W0 = w.alloc (.cells #[.slice none 0 0, .slice none 0 0] 26)) := hW0
  rw [← hn]
  clear hE hr hS hb hl hn b0 E0 L0 R0 b1 hW0
  go_enter Tryd.func16, Tryd.ntmps16
  go_wp2_with fail
  rw [← HW0.out]
  clear HW0
  generalize W0.alloc (.cells #[.slice av n cv, .nilIface] 67) = W1 at S1 L1 B1 ⊢
  refine (TK.out _ _ 4 (by omega) S1.out).mono ?_
  rintro e w2 ⟨av2, m2, cv2, ys, s2, rfl, hm, hr2, hyl, hz2, g2, h2, q2⟩
  have L2 : Hid (Lone 26 2 w2 w.heap.size [.slice none 0 0, .slice none 0 0]) := q2.lone L1.out (by omega)
  have B2 : Hid (Below w.heap.size w w2 ∧ w.heap.size + 2 ≤ w2.heap.size) := ⟨B1.out.1.trans (q2.below.mono (by omega)), Nat.le_trans B1.out.2 q2.below.size⟩
  have HS2 : Hid (St W0 a0 a1 w2 (w.heap.size + 1) s2) := h2
  have HG2 : Hid (Got ((some bs).bind (takeD 4)) ys s2) := g2
  have CV : (convert 22 9 (.slice av2 m2 cv2)).run Tryd.prog w2 = .ok (.string (strOfNums ys)) w2 := conv_at _ _ _ _ _ hm hr2 (fun e => hz2 (by
    rcases g2 with ⟨_, e'⟩ | ⟨zs, e', _⟩
    · exact e'
    · have := (takeD_inv e').2; rw [e] at this; cases this))
  have e1 := (HE.out.st h2).2
  have HY : Hid (BB ys) := by
    obtain ⟨_, _, _, _, _, hb⟩ := hr2
    exact bb_of hb
  clear g2 h2 q2 S1 L1 B1 hm hr2 hyl hz2
  obtain ⟨s3, hs3⟩ : ∃ s3 : Option (List Int), s3 = if ys = [77, 78, 76, 84] then s2 else none := ⟨_, rfl⟩
  have HG3 : Hid (∀ (x : Pg) (s4 : Option (List Int)), Got (s3.bind (bodyD num flagD)) x s4 → (progD bs = none ∧ (s4 = none ∨ ∃ z zs, s4 = some (z :: zs))) ∨ (progD bs = some x ∧ s4 = some [])) := by
    intro x s4 hG
    have hp : progD bs = (s3.bind (bodyD num flagD)).bind fun p => if p.2 = [] then some p.1 else none := by
      unfold progD
      rcases HG2.out with ⟨e, e'⟩ | ⟨zs, e, e'⟩
      · simp only [Option.bind_some] at e
        rw [e, hs3, e']
        split <;> rfl
      · simp only [Option.bind_some] at e
        rw [e, hs3, e']
        simp only [Option.bind_some]
        split <;> rfl
    rcases hG with ⟨e, e'⟩ | ⟨zs, e, e'⟩
    · exact .inl ⟨by rw [hp, e]; rfl, .inl e'⟩
    · rw [e] at hp
      cases zs with
      | nil => exact .inr ⟨by rw [hp]; rfl, e'⟩
      | cons z zs => exact .inl ⟨by rw [hp]; rfl, .inr ⟨z, zs, e'⟩⟩
  have hq := str_mark HY.out
  by_cases hmark : ys = [77, 78, 76, 84]
  · rw [decide_eq_true hmark] at hq
    rw [if_pos hmark] at hs3
    have L3 : Hid (Lone 26 2 w2 w.heap.size [.slice none 0 0, .slice none 0 0]) := L2.out
    have B3 : Hid (Below w.heap.size w w2 ∧ w.heap.size + 2 ≤ w2.heap.size) := B2.out
    have HS3 : Hid (St W0 a0 a1 w2 (w.heap.size + 1) s3) := by rw [hs3]; exact HS2.out
    clear hmark HG2 hs3 L2 B2 HS2
    go_wp2_with fail
    clear CV hq e1
    generalize w2 = w3 at L3 B3 HS3 ⊢
    have hsz3 := B3.out.2
    have b4 : Below w3.heap.size w3 (w3.alloc (.cells #[.slice none 0 0, .slice none 0 0] 26)) := (Below.refl _ _).alloc (Nat.le_refl _) _
    have S4 : Hid (St W0 a0 a1 (w3.alloc (.cells #[.slice none 0 0, .slice none 0 0] 26)) (w.heap.size + 1) s3) := HS3.out.keep b4
    have L4 : Hid (Lone 26 2 (w3.alloc (.cells #[.slice none 0 0, .slice none 0 0] 26)) w.heap.size [.slice none 0 0, .slice none 0 0]) := L3.out.below b4 (by omega)
    have M4 : Hid (Lone 26 2 (w3.alloc (.cells #[.slice none 0 0, .slice none 0 0] 26)) w3.heap.size [.slice none 0 0, .slice none 0 0]) := lone_new w3 rfl
    have B4 : Hid (Below w.heap.size w (w3.alloc (.cells #[.slice none 0 0, .slice none 0 0] 26)) ∧ w3.heap.size < (w3.alloc (.cells #[.slice none 0 0, .slice none 0 0] 26)).heap.size) := ⟨B3.out.1.trans (b4.mono (by omega)), by simp⟩
    clear b4 HS3 L3 B3
    generalize w3.alloc (.cells #[.slice none 0 0, .slice none 0 0] 26) = W4 at S4 L4 M4 B4 ⊢
    generalize w3.heap.size = Pb at hsz3 M4 B4 ⊢
    refine (LK.out _ _ S4.out).mono ?_
    rintro e w5 ⟨ak, mk, ck, ks, s5, rfl, hkl, oK, g5, h5, q5⟩
    have hs4 := B4.out.2
    have M5 : Lone 26 2 w5 Pb [.slice none 0 0, .slice none 0 0] := q5.lone M4.out (by omega)
    have S5 : Hid (St W0 a0 a1 (w5.setCell ⟨Pb, 0, none⟩ (.slice ak mk ck)) (w.heap.size + 1) s5) := h5.far (by omega)
    have L5 : Hid (Lone 26 2 (w5.setCell ⟨Pb, 0, none⟩ (.slice ak mk ck)) w.heap.size [.slice none 0 0, .slice none 0 0]) := (q5.lone L4.out (by omega)).other (by omega)
    have M6 : Hid (Lone 26 2 (w5.setCell ⟨Pb, 0, none⟩ (.slice ak mk ck)) Pb [.slice ak mk ck, .slice none 0 0]) := M5.set 0 _
    have B5 : Hid (Below w.heap.size w (w5.setCell ⟨Pb, 0, none⟩ (.slice ak mk ck)) ∧ Pb < (w5.setCell ⟨Pb, 0, none⟩ (.slice ak mk ck)).heap.size) := ⟨(B4.out.1.trans (q5.below.mono (by omega))).setCell (p := ⟨Pb, 0, none⟩) (show w.heap.size ≤ Pb by omega) _, by have := q5.below.size; simp; omega⟩
    obtain ⟨hkn, hok, ut, hbk⟩ := oK
    have HOK : Hid (KOk ks ∧ mk = ks.length) := ⟨hok, hkn⟩
    have HBK : Hid (BK (w5.setCell ⟨Pb, 0, none⟩ (.slice ak mk ck)) w.heap.size (.slice ak mk ck) mk (fun j => ks.getD j cn0) ut) := BK.weaken (hbk.hold (set_other (by omega))) (by omega)
    have HUK : Hid (UnderK (w5.setCell ⟨Pb, 0, none⟩ (.slice ak mk ck)).heap.size (.slice ak mk ck) mk ut ∧ ∀ b, b = Pb ∨ b = w.heap.size ∨ b = w.heap.size + 1 → (Value.slice ak mk ck).ownBlock ≠ some b ∧ ∀ j, j < mk → (ut j).ownBlock ≠ some b) := ⟨⟨fun b e => by have := (hbk.lt b e).2; simp; omega, fun j hj b e => by have := ((hbk.texts j hj).lt b e).2; simp; omega⟩, fun b hb => ⟨fun e => by have := (hbk.lt b e).1; omega, fun j hj e => by have := ((hbk.texts j hj).lt b e).1; omega⟩⟩
    have HG5 : Hid (Got (s3.bind (manyD num (constD num flagD))) ks s5) := g5
    have f0 := M5.free 0
    have c0 := M5.at (j := 0) (by omega)
    simp only [List.getElem?_cons_zero] at c0
    clear g5 h5 q5 M5 S4 L4 M4 B4 hbk hok hkn hkl hs4
    go_wp2_with fail
    clear f0 c0
    generalize w5.setCell ⟨Pb, 0, none⟩ (.slice ak mk ck) = W5 at S5 L5 M6 B5 HBK HUK ⊢
    refine (LP.out _ _ S5.out).mono ?_
    rintro e w6 ⟨ap, mp, cp, ps, s6, rfl, hpl, oP, g6, h6, q6⟩
    have hs5 := B5.out.2
    have M7 : Lone 26 2 w6 Pb [.slice ak mk ck, .slice none 0 0] := q6.lone M6.out (by omega)
    have S6 : Hid (St W0 a0 a1 (w6.setCell ⟨Pb, 1, none⟩ (.slice ap mp cp)) (w.heap.size + 1) s6) := h6.far (by omega)
    have L6 : Hid (Lone 26 2 (w6.setCell ⟨Pb, 1, none⟩ (.slice ap mp cp)) w.heap.size [.slice none 0 0, .slice none 0 0]) := (q6.lone L5.out (by omega)).other (by omega)
    have M8 : Hid (Lone 26 2 (w6.setCell ⟨Pb, 1, none⟩ (.slice ap mp cp)) Pb [.slice ak mk ck, .slice ap mp cp]) := M7.set 1 _
    have B6 : Hid (Below w.heap.size w (w6.setCell ⟨Pb, 1, none⟩ (.slice ap mp cp)) ∧ W5.heap.size ≤ (w6.setCell ⟨Pb, 1, none⟩ (.slice ap mp cp)).heap.size) := ⟨(B5.out.1.trans (q6.below.mono (by omega))).setCell (p := ⟨Pb, 1, none⟩) (show w.heap.size ≤ Pb by omega) _, by have := q6.below.size; simp; omega⟩
    obtain ⟨hpn, hpk, uc, ud, hbp⟩ := oP
    have HPK : Hid (POk ps ∧ mp = ps.length) := ⟨hpk, hpn⟩
    have HBP : Hid (BP (w6.setCell ⟨Pb, 1, none⟩ (.slice ap mp cp)) W5.heap.size (.slice ap mp cp) mp (fun j => ps.getD j pr0) uc ud) := hbp.hold (set_other (by omega))
    have HBK6 : Hid (BK (w6.setCell ⟨Pb, 1, none⟩ (.slice ap mp cp)) w.heap.size (.slice ak mk ck) mk (fun j => ks.getD j cn0) ut) := bk_far (bk_far HBK.out (R := w.heap.size + 1) (fun b h1 h2 => q6.keep b h1 h2) (HUK.out.2 _ (by omega))) (R := Pb) (fun b h1 h2 => Below.heap_setCell w6 ⟨Pb, 1, none⟩ _ b h2) (HUK.out.2 _ (by omega))
    have e5 := got_map (fun l : List Pr => (⟨ks, l⟩ : Pg)) g6
    have e6 := got_then (e := fun (k : List Cn) (ys : List Int) => (manyD num (protoD num flagD) ys).map fun p : List Pr × List Int => ((⟨k, p.1⟩ : Pg), p.2)) HG5.out e5
    have e7 := HG3.out ⟨ks, ps⟩ s6 e6
    have HG7 : Hid ((progD bs = none ∧ (s6 = none ∨ ∃ z zs, s6 = some (z :: zs))) ∨ (progD bs = some ⟨ks, ps⟩ ∧ s6 = some [])) := e7
    have f0 := M7.free 1
    have c0 := M7.at (j := 1) (by omega)
    simp only [List.getElem?_cons_zero, List.getElem?_cons_succ] at c0
    have q0 := S6.out.1
    obtain ⟨-, -, avr, mr, cvr, fr, hLr, -, hmr, hr1, hr2⟩ := S6.out
    have d0 : (w6.setCell ⟨Pb, 1, none⟩ (.slice ap mp cp)).cell? ⟨w.heap.size + 1, 0, none⟩ = some (.slice avr mr cvr) := hLr.at (j := 0) (by omega)
    have d1 : (w6.setCell ⟨Pb, 1, none⟩ (.slice ap mp cp)).cell? ⟨w.heap.size + 1, 1, none⟩ = some fr := hLr.at (j := 1) (by omega)
    have e1 := (HE.out.below q0).2
    clear g6 h6 q6 M7 S5 L5 M6 B5 hbp hpk hpn hpl HBK e5 e6 e7 hLr q0
    by_cases hpos : (0 : Int) < (mr : Int)
    · have HPN : Hid (progD bs = none) := by
        rcases HG7.out with ⟨h, _⟩ | ⟨_, h⟩
        · exact h
        · have := (hr1 [] h).1
          simp at this
          omega
      go_wp2_with fail
      clear f0 c0 d0 d1 hr1 hr2
      refine (FL.out _ _ S6.out).mono ?_
      rintro e w7 ⟨⟨v7, rfl⟩, h7, q7⟩
      have LV : Hid (Lone 26 2 w7 w.heap.size [.slice none 0 0, .slice none 0 0]) := q7.lone L6.out (by omega)
      have MV : Hid (Lone 26 2 w7 Pb [.slice ak mk ck, .slice ap mp cp]) := q7.lone M8.out (by omega)
      have BV : Hid (Below w.heap.size w w7 ∧ W5.heap.size ≤ w7.heap.size) := ⟨B6.out.1.trans (q7.below.mono (by omega)), Nat.le_trans B6.out.2 q7.below.size⟩
      have KV : Hid (BK w7 w.heap.size (.slice ak mk ck) mk (fun j => ks.getD j cn0) ut) := bk_far HBK6.out (R := w.heap.size + 1) (fun b h1 h2 => q7.keep b h1 h2) (HUK.out.2 _ (by omega))
      have PV : Hid (BP w7 W5.heap.size (.slice ap mp cp) mp (fun j => ps.getD j pr0) uc ud) := HBP.out.hold (fun b h1 h2 => q7.keep b h2 (by omega))
      obtain ⟨-, -, av7, m7, cv7, f7, hL7, -, -, -, h7'⟩ := h7
      have d1 : w7.cell? ⟨w.heap.size + 1, 1, none⟩ = some f7 := hL7.at (j := 1) (by omega)
      have hf7 := h7' rfl
      have HR : Hid (∀ f : Value, (f = .iface 142 (.pointer (some a0)) ∨ f = .iface 142 (.pointer (some a1))) → (progD bs = none ∧ (f = .iface 142 (.pointer (some a0)) ∨ f = .iface 142 (.pointer (some a1))) ∨ progD bs = some ⟨ks, ps⟩ ∧ f = .nilIface)) := fun f h => .inl ⟨HPN.out, h⟩
      clear hL7 h7' q7 L6 M8 B6 HBK6 HBP S6 HPN HG7
      generalize w7 = V at LV MV BV KV PV d1 ⊢
      rcases hf7 with rfl | rfl
      all_goals
        have pv0 := MV.out.at (j := 0) (by omega)
        have pv1 := MV.out.at (j := 1) (by omega)
        have rv0 := LV.out.at (j := 0) (by omega)
        have rv1 := LV.out.at (j := 1) (by omega)
        have tv0 := LV.out.free 0
        have tv1 := LV.out.free 1
        simp only [List.getElem?_cons_zero, List.getElem?_cons_succ] at pv0 pv1 rv0 rv1
        go_wp2_with fail
        go_region
        have hWF : ∀ b, b ≠ w.heap.size → (((V.setCell ⟨w.heap.size, 0, none⟩ (.slice ak mk ck)).setCell ⟨w.heap.size, 1, none⟩ (.slice ap mp cp)).drew).heap[b]? = V.heap[b]? := fun b hb => by
          show ((V.setCell ⟨w.heap.size, 0, none⟩ (.slice ak mk ck)).setCell ⟨w.heap.size, 1, none⟩ (.slice ap mp cp)).heap[b]? = _
          rw [Below.heap_setCell _ ⟨w.heap.size, 1, none⟩ _ b hb, Below.heap_setCell _ ⟨w.heap.size, 0, none⟩ _ b hb]
        have hm5 := HUK.out.2 w.heap.size (by omega)
        have PR : Hid (PrgAt w (((V.setCell ⟨w.heap.size, 0, none⟩ (.slice ak mk ck)).setCell ⟨w.heap.size, 1, none⟩ (.slice ap mp cp)).drew) ak ap mk ck mp cp ks ps) := ⟨W5.heap.size, ut, uc, ud, bk_far KV.out (fun b _ h2 => hWF b h2) hm5, HUK.out.1, PV.out.hold (fun b h1 _ => hWF b (by omega)), by omega, by have := BV.out.2; show _ ≤ ((V.setCell ⟨w.heap.size, 0, none⟩ (.slice ak mk ck)).setCell ⟨w.heap.size, 1, none⟩ (.slice ap mp cp)).heap.size; simp only [World.size_setCell] at this ⊢; exact this, HOK.out.2, HPK.out.2, HOK.out.1, HPK.out.1⟩
        have LF : Hid (Lone 26 2 (((V.setCell ⟨w.heap.size, 0, none⟩ (.slice ak mk ck)).setCell ⟨w.heap.size, 1, none⟩ (.slice ap mp cp)).drew) w.heap.size [.slice ak mk ck, .slice ap mp cp]) := ((LV.out.set 0 (.slice ak mk ck)).set 1 (.slice ap mp cp)).below ((Below.refl _ _).drew) (heap_lt (Lone.back ((LV.out.set 0 (.slice ak mk ck)).set 1 (.slice ap mp cp))))
        have BF : Hid (Below w.heap.size w (((V.setCell ⟨w.heap.size, 0, none⟩ (.slice ak mk ck)).setCell ⟨w.heap.size, 1, none⟩ (.slice ap mp cp)).drew)) := ((BV.out.1.setCell (p := ⟨w.heap.size, 0, none⟩) (Nat.le_refl _) _).setCell (p := ⟨w.heap.size, 1, none⟩) (Nat.le_refl _) _).drew
        clear hWF hm5 pv0 pv1 rv0 rv1 tv0 tv1
        go_wp2
        refine bodyPost_ret (res2 Tryd.results16 _ _ w.heap.size 26 _ _ _ rfl (Lone.back LF.out) Tryd.underlying26 rfl rfl) rfl ?_
        exact ⟨ak, ap, mk, ck, mp, cp, ks, ps, _, rfl, PR.out, HR.out _ (by simp), BF.out⟩
    · have LV : Hid (Lone 26 2 (w6.setCell ⟨Pb, 1, none⟩ (.slice ap mp cp)) w.heap.size [.slice none 0 0, .slice none 0 0]) := L6.out
      have MV : Hid (Lone 26 2 (w6.setCell ⟨Pb, 1, none⟩ (.slice ap mp cp)) Pb [.slice ak mk ck, .slice ap mp cp]) := M8.out
      have BV : Hid (Below w.heap.size w (w6.setCell ⟨Pb, 1, none⟩ (.slice ap mp cp)) ∧ W5.heap.size ≤ (w6.setCell ⟨Pb, 1, none⟩ (.slice ap mp cp)).heap.size) := B6.out
      have KV : Hid (BK (w6.setCell ⟨Pb, 1, none⟩ (.slice ap mp cp)) w.heap.size (.slice ak mk ck) mk (fun j => ks.getD j cn0) ut) := HBK6.out
      have PV : Hid (BP (w6.setCell ⟨Pb, 1, none⟩ (.slice ap mp cp)) W5.heap.size (.slice ap mp cp) mp (fun j => ps.getD j pr0) uc ud) := HBP.out
      have hf7 : (progD bs = none ∧ (fr = .iface 142 (.pointer (some a0)) ∨ fr = .iface 142 (.pointer (some a1)))) ∨ progD bs = some ⟨ks, ps⟩ ∧ fr = .nilIface := by
        rcases HG7.out with ⟨h, h'⟩ | ⟨h, h'⟩
        · rcases h' with h' | ⟨z, zs, h'⟩
          · exact .inl ⟨h, hr2 h'⟩
          · have := (hr1 _ h').1
            simp at this
            omega
        · exact .inr ⟨h, (hr1 [] h').2.2.2⟩
      have HR : Hid (∀ f : Value, f = fr → (progD bs = none ∧ (f = .iface 142 (.pointer (some a0)) ∨ f = .iface 142 (.pointer (some a1))) ∨ progD bs = some ⟨ks, ps⟩ ∧ f = .nilIface)) := fun f h => by rw [h]; exact hf7
      have hf8 : fr = .iface 142 (.pointer (some a0)) ∨ fr = .iface 142 (.pointer (some a1)) ∨ fr = .nilIface := by
        rcases hf7 with ⟨_, h | h⟩ | ⟨_, h⟩
        · exact .inl h
        · exact .inr (.inl h)
        · exact .inr (.inr h)
      clear L6 M8 B6 HBK6 HBP S6 HG7 hr1 hr2 hf7 e1
      rcases hf8 with rfl | rfl | rfl
      all_goals
        have pv0 := MV.out.at (j := 0) (by omega)
        have pv1 := MV.out.at (j := 1) (by omega)
        have rv0 := LV.out.at (j := 0) (by omega)
        have rv1 := LV.out.at (j := 1) (by omega)
        have tv0 := LV.out.free 0
        have tv1 := LV.out.free 1
        simp only [List.getElem?_cons_zero, List.getElem?_cons_succ] at pv0 pv1 rv0 rv1
        go_wp2_with fail
        go_region
        have hWF : ∀ b, b ≠ w.heap.size → ((((w6.setCell ⟨Pb, 1, none⟩ (.slice ap mp cp)).setCell ⟨w.heap.size, 0, none⟩ (.slice ak mk ck)).setCell ⟨w.heap.size, 1, none⟩ (.slice ap mp cp)).drew).heap[b]? = (w6.setCell ⟨Pb, 1, none⟩ (.slice ap mp cp)).heap[b]? := fun b hb => by
          show (((w6.setCell ⟨Pb, 1, none⟩ (.slice ap mp cp)).setCell ⟨w.heap.size, 0, none⟩ (.slice ak mk ck)).setCell ⟨w.heap.size, 1, none⟩ (.slice ap mp cp)).heap[b]? = _
          rw [Below.heap_setCell _ ⟨w.heap.size, 1, none⟩ _ b hb, Below.heap_setCell _ ⟨w.heap.size, 0, none⟩ _ b hb]
        have hm5 := HUK.out.2 w.heap.size (by omega)
        have PR : Hid (PrgAt w ((((w6.setCell ⟨Pb, 1, none⟩ (.slice ap mp cp)).setCell ⟨w.heap.size, 0, none⟩ (.slice ak mk ck)).setCell ⟨w.heap.size, 1, none⟩ (.slice ap mp cp)).drew) ak ap mk ck mp cp ks ps) := ⟨W5.heap.size, ut, uc, ud, bk_far KV.out (fun b _ h2 => hWF b h2) hm5, HUK.out.1, PV.out.hold (fun b h1 _ => hWF b (by omega)), by omega, by have := BV.out.2; show _ ≤ (((w6.setCell ⟨Pb, 1, none⟩ (.slice ap mp cp)).setCell ⟨w.heap.size, 0, none⟩ (.slice ak mk ck)).setCell ⟨w.heap.size, 1, none⟩ (.slice ap mp cp)).heap.size; simp only [World.size_setCell] at this ⊢; exact this, HOK.out.2, HPK.out.2, HOK.out.1, HPK.out.1⟩
        have LF : Hid (Lone 26 2 ((((w6.setCell ⟨Pb, 1, none⟩ (.slice ap mp cp)).setCell ⟨w.heap.size, 0, none⟩ (.slice ak mk ck)).setCell ⟨w.heap.size, 1, none⟩ (.slice ap mp cp)).drew) w.heap.size [.slice ak mk ck, .slice ap mp cp]) := ((LV.out.set 0 (.slice ak mk ck)).set 1 (.slice ap mp cp)).below ((Below.refl _ _).drew) (heap_lt (Lone.back ((LV.out.set 0 (.slice ak mk ck)).set 1 (.slice ap mp cp))))
        have BF : Hid (Below w.heap.size w ((((w6.setCell ⟨Pb, 1, none⟩ (.slice ap mp cp)).setCell ⟨w.heap.size, 0, none⟩ (.slice ak mk ck)).setCell ⟨w.heap.size, 1, none⟩ (.slice ap mp cp)).drew)) := ((BV.out.1.setCell (p := ⟨w.heap.size, 0, none⟩) (Nat.le_refl _) _).setCell (p := ⟨w.heap.size, 1, none⟩) (Nat.le_refl _) _).drew
        clear hWF hm5 pv0 pv1 rv0 rv1 tv0 tv1
        go_wp2
        refine bodyPost_ret (res2 Tryd.results16 _ _ w.heap.size 26 _ _ _ rfl (Lone.back LF.out) Tryd.underlying26 rfl rfl) rfl ?_
        exact ⟨ak, ap, mk, ck, mp, cp, ks, ps, _, rfl, PR.out, HR.out _ (by simp), BF.out⟩
  · rw [decide_eq_false hmark] at hq
    rw [if_neg hmark] at hs3
    clear hmark HG2
    go_wp2_with fail
    refine (FL.out _ _ HS2.out).mono ?_
    rintro e w3 ⟨⟨v3, rfl⟩, h3, q3⟩
    have L3 : Hid (Lone 26 2 w3 w.heap.size [.slice none 0 0, .slice none 0 0]) := q3.lone L2.out (by omega)
    have B3 : Hid (Below w.heap.size w w3 ∧ w.heap.size + 2 ≤ w3.heap.size) := ⟨B2.out.1.trans (q3.below.mono (by omega)), Nat.le_trans B2.out.2 q3.below.size⟩
    have HS3 : Hid (St W0 a0 a1 w3 (w.heap.size + 1) s3) := by rw [hs3]; exact h3
    clear h3 q3 L2 B2 HS2 CV hq e1 hs3
    go_wp2_with fail
    have hsz3 := B3.out.2
    have b4 : Below w3.heap.size w3 (w3.alloc (.cells #[.slice none 0 0, .slice none 0 0] 26)) := (Below.refl _ _).alloc (Nat.le_refl _) _
    have S4 : Hid (St W0 a0 a1 (w3.alloc (.cells #[.slice none 0 0, .slice none 0 0] 26)) (w.heap.size + 1) s3) := HS3.out.keep b4
    have L4 : Hid (Lone 26 2 (w3.alloc (.cells #[.slice none 0 0, .slice none 0 0] 26)) w.heap.size [.slice none 0 0, .slice none 0 0]) := L3.out.below b4 (by omega)
    have M4 : Hid (Lone 26 2 (w3.alloc (.cells #[.slice none 0 0, .slice none 0 0] 26)) w3.heap.size [.slice none 0 0, .slice none 0 0]) := lone_new w3 rfl
    have B4 : Hid (Below w.heap.size w (w3.alloc (.cells #[.slice none 0 0, .slice none 0 0] 26)) ∧ w3.heap.size < (w3.alloc (.cells #[.slice none 0 0, .slice none 0 0] 26)).heap.size) := ⟨B3.out.1.trans (b4.mono (by omega)), by simp⟩
    clear b4 HS3 L3 B3
    generalize w3.alloc (.cells #[.slice none 0 0, .slice none 0 0] 26) = W4 at S4 L4 M4 B4 ⊢
    generalize w3.heap.size = Pb at hsz3 M4 B4 ⊢
    refine (LK.out _ _ S4.out).mono ?_
    rintro e w5 ⟨ak, mk, ck, ks, s5, rfl, hkl, oK, g5, h5, q5⟩
    have hs4 := B4.out.2
    have M5 : Lone 26 2 w5 Pb [.slice none 0 0, .slice none 0 0] := q5.lone M4.out (by omega)
    have S5 : Hid (St W0 a0 a1 (w5.setCell ⟨Pb, 0, none⟩ (.slice ak mk ck)) (w.heap.size + 1) s5) := h5.far (by omega)
    have L5 : Hid (Lone 26 2 (w5.setCell ⟨Pb, 0, none⟩ (.slice ak mk ck)) w.heap.size [.slice none 0 0, .slice none 0 0]) := (q5.lone L4.out (by omega)).other (by omega)
    have M6 : Hid (Lone 26 2 (w5.setCell ⟨Pb, 0, none⟩ (.slice ak mk ck)) Pb [.slice ak mk ck, .slice none 0 0]) := M5.set 0 _
    have B5 : Hid (Below w.heap.size w (w5.setCell ⟨Pb, 0, none⟩ (.slice ak mk ck)) ∧ Pb < (w5.setCell ⟨Pb, 0, none⟩ (.slice ak mk ck)).heap.size) := ⟨(B4.out.1.trans (q5.below.mono (by omega))).setCell (p := ⟨Pb, 0, none⟩) (show w.heap.size ≤ Pb by omega) _, by have := q5.below.size; simp; omega⟩
    obtain ⟨hkn, hok, ut, hbk⟩ := oK
    have HOK : Hid (KOk ks ∧ mk = ks.length) := ⟨hok, hkn⟩
    have HBK : Hid (BK (w5.setCell ⟨Pb, 0, none⟩ (.slice ak mk ck)) w.heap.size (.slice ak mk ck) mk (fun j => ks.getD j cn0) ut) := BK.weaken (hbk.hold (set_other (by omega))) (by omega)
    have HUK : Hid (UnderK (w5.setCell ⟨Pb, 0, none⟩ (.slice ak mk ck)).heap.size (.slice ak mk ck) mk ut ∧ ∀ b, b = Pb ∨ b = w.heap.size ∨ b = w.heap.size + 1 → (Value.slice ak mk ck).ownBlock ≠ some b ∧ ∀ j, j < mk → (ut j).ownBlock ≠ some b) := ⟨⟨fun b e => by have := (hbk.lt b e).2; simp; omega, fun j hj b e => by have := ((hbk.texts j hj).lt b e).2; simp; omega⟩, fun b hb => ⟨fun e => by have := (hbk.lt b e).1; omega, fun j hj e => by have := ((hbk.texts j hj).lt b e).1; omega⟩⟩
    have HG5 : Hid (Got (s3.bind (manyD num (constD num flagD))) ks s5) := g5
    have f0 := M5.free 0
    have c0 := M5.at (j := 0) (by omega)
    simp only [List.getElem?_cons_zero] at c0
    clear g5 h5 q5 M5 S4 L4 M4 B4 hbk hok hkn hkl hs4
    go_wp2_with fail
    clear f0 c0
    generalize w5.setCell ⟨Pb, 0, none⟩ (.slice ak mk ck) = W5 at S5 L5 M6 B5 HBK HUK ⊢
    refine (LP.out _ _ S5.out).mono ?_
    rintro e w6 ⟨ap, mp, cp, ps, s6, rfl, hpl, oP, g6, h6, q6⟩
    have hs5 := B5.out.2
    have M7 : Lone 26 2 w6 Pb [.slice ak mk ck, .slice none 0 0] := q6.lone M6.out (by omega)
    have S6 : Hid (St W0 a0 a1 (w6.setCell ⟨Pb, 1, none⟩ (.slice ap mp cp)) (w.heap.size + 1) s6) := h6.far (by omega)
    have L6 : Hid (Lone 26 2 (w6.setCell ⟨Pb, 1, none⟩ (.slice ap mp cp)) w.heap.size [.slice none 0 0, .slice none 0 0]) := (q6.lone L5.out (by omega)).other (by omega)
    have M8 : Hid (Lone 26 2 (w6.setCell ⟨Pb, 1, none⟩ (.slice ap mp cp)) Pb [.slice ak mk ck, .slice ap mp cp]) := M7.set 1 _
    have B6 : Hid (Below w.heap.size w (w6.setCell ⟨Pb, 1, none⟩ (.slice ap mp cp)) ∧ W5.heap.size ≤ (w6.setCell ⟨Pb, 1, none⟩ (.slice ap mp cp)).heap.size) := ⟨(B5.out.1.trans (q6.below.mono (by omega))).setCell (p := ⟨Pb, 1, none⟩) (show w.heap.size ≤ Pb by omega) _, by have := q6.below.size; simp; omega⟩
    obtain ⟨hpn, hpk, uc, ud, hbp⟩ := oP
    have HPK : Hid (POk ps ∧ mp = ps.length) := ⟨hpk, hpn⟩
    have HBP : Hid (BP (w6.setCell ⟨Pb, 1, none⟩ (.slice ap mp cp)) W5.heap.size (.slice ap mp cp) mp (fun j => ps.getD j pr0) uc ud) := hbp.hold (set_other (by omega))
    have HBK6 : Hid (BK (w6.setCell ⟨Pb, 1, none⟩ (.slice ap mp cp)) w.heap.size (.slice ak mk ck) mk (fun j => ks.getD j cn0) ut) := bk_far (bk_far HBK.out (R := w.heap.size + 1) (fun b h1 h2 => q6.keep b h1 h2) (HUK.out.2 _ (by omega))) (R := Pb) (fun b h1 h2 => Below.heap_setCell w6 ⟨Pb, 1, none⟩ _ b h2) (HUK.out.2 _ (by omega))
    have e5 := got_map (fun l : List Pr => (⟨ks, l⟩ : Pg)) g6
    have e6 := got_then (e := fun (k : List Cn) (ys : List Int) => (manyD num (protoD num flagD) ys).map fun p : List Pr × List Int => ((⟨k, p.1⟩ : Pg), p.2)) HG5.out e5
    have e7 := HG3.out ⟨ks, ps⟩ s6 e6
    have HG7 : Hid ((progD bs = none ∧ (s6 = none ∨ ∃ z zs, s6 = some (z :: zs))) ∨ (progD bs = some ⟨ks, ps⟩ ∧ s6 = some [])) := e7
    have f0 := M7.free 1
    have c0 := M7.at (j := 1) (by omega)
    simp only [List.getElem?_cons_zero, List.getElem?_cons_succ] at c0
    have q0 := S6.out.1
    obtain ⟨-, -, avr, mr, cvr, fr, hLr, -, hmr, hr1, hr2⟩ := S6.out
    have d0 : (w6.setCell ⟨Pb, 1, none⟩ (.slice ap mp cp)).cell? ⟨w.heap.size + 1, 0, none⟩ = some (.slice avr mr cvr) := hLr.at (j := 0) (by omega)
    have d1 : (w6.setCell ⟨Pb, 1, none⟩ (.slice ap mp cp)).cell? ⟨w.heap.size + 1, 1, none⟩ = some fr := hLr.at (j := 1) (by omega)
    have e1 := (HE.out.below q0).2
    clear g6 h6 q6 M7 S5 L5 M6 B5 hbp hpk hpn hpl HBK e5 e6 e7 hLr q0
    by_cases hpos : (0 : Int) < (mr : Int)
    · have HPN : Hid (progD bs = none) := by
        rcases HG7.out with ⟨h, _⟩ | ⟨_, h⟩
        · exact h
        · have := (hr1 [] h).1
          simp at this
          omega
      go_wp2_with fail
      clear f0 c0 d0 d1 hr1 hr2
      refine (FL.out _ _ S6.out).mono ?_
      rintro e w7 ⟨⟨v7, rfl⟩, h7, q7⟩
      have LV : Hid (Lone 26 2 w7 w.heap.size [.slice none 0 0, .slice none 0 0]) := q7.lone L6.out (by omega)
      have MV : Hid (Lone 26 2 w7 Pb [.slice ak mk ck, .slice ap mp cp]) := q7.lone M8.out (by omega)
      have BV : Hid (Below w.heap.size w w7 ∧ W5.heap.size ≤ w7.heap.size) := ⟨B6.out.1.trans (q7.below.mono (by omega)), Nat.le_trans B6.out.2 q7.below.size⟩
      have KV : Hid (BK w7 w.heap.size (.slice ak mk ck) mk (fun j => ks.getD j cn0) ut) := bk_far HBK6.out (R := w.heap.size + 1) (fun b h1 h2 => q7.keep b h1 h2) (HUK.out.2 _ (by omega))
      have PV : Hid (BP w7 W5.heap.size (.slice ap mp cp) mp (fun j => ps.getD j pr0) uc ud) := HBP.out.hold (fun b h1 h2 => q7.keep b h2 (by omega))
      obtain ⟨-, -, av7, m7, cv7, f7, hL7, -, -, -, h7'⟩ := h7
      have d1 : w7.cell? ⟨w.heap.size + 1, 1, none⟩ = some f7 := hL7.at (j := 1) (by omega)
      have hf7 := h7' rfl
      have HR : Hid (∀ f : Value, (f = .iface 142 (.pointer (some a0)) ∨ f = .iface 142 (.pointer (some a1))) → (progD bs = none ∧ (f = .iface 142 (.pointer (some a0)) ∨ f = .iface 142 (.pointer (some a1))) ∨ progD bs = some ⟨ks, ps⟩ ∧ f = .nilIface)) := fun f h => .inl ⟨HPN.out, h⟩
      clear hL7 h7' q7 L6 M8 B6 HBK6 HBP S6 HPN HG7
      generalize w7 = V at LV MV BV KV PV d1 ⊢
      rcases hf7 with rfl | rfl
      all_goals
        have pv0 := MV.out.at (j := 0) (by omega)
        have pv1 := MV.out.at (j := 1) (by omega)
        have rv0 := LV.out.at (j := 0) (by omega)
        have rv1 := LV.out.at (j := 1) (by omega)
        have tv0 := LV.out.free 0
        have tv1 := LV.out.free 1
        simp only [List.getElem?_cons_zero, List.getElem?_cons_succ] at pv0 pv1 rv0 rv1
        go_wp2_with fail
        go_region
        have hWF : ∀ b, b ≠ w.heap.size → (((V.setCell ⟨w.heap.size, 0, none⟩ (.slice ak mk ck)).setCell ⟨w.heap.size, 1, none⟩ (.slice ap mp cp)).drew).heap[b]? = V.heap[b]? := fun b hb => by
          show ((V.setCell ⟨w.heap.size, 0, none⟩ (.slice ak mk ck)).setCell ⟨w.heap.size, 1, none⟩ (.slice ap mp cp)).heap[b]? = _
          rw [Below.heap_setCell _ ⟨w.heap.size, 1, none⟩ _ b hb, Below.heap_setCell _ ⟨w.heap.size, 0, none⟩ _ b hb]
        have hm5 := HUK.out.2 w.heap.size (by omega)
        have PR : Hid (PrgAt w (((V.setCell ⟨w.heap.size, 0, none⟩ (.slice ak mk ck)).setCell ⟨w.heap.size, 1, none⟩ (.slice ap mp cp)).drew) ak ap mk ck mp cp ks ps) := ⟨W5.heap.size, ut, uc, ud, bk_far KV.out (fun b _ h2 => hWF b h2) hm5, HUK.out.1, PV.out.hold (fun b h1 _ => hWF b (by omega)), by omega, by have := BV.out.2; show _ ≤ ((V.setCell ⟨w.heap.size, 0, none⟩ (.slice ak mk ck)).setCell ⟨w.heap.size, 1, none⟩ (.slice ap mp cp)).heap.size; simp only [World.size_setCell] at this ⊢; exact this, HOK.out.2, HPK.out.2, HOK.out.1, HPK.out.1⟩
        have LF : Hid (Lone 26 2 (((V.setCell ⟨w.heap.size, 0, none⟩ (.slice ak mk ck)).setCell ⟨w.heap.size, 1, none⟩ (.slice ap mp cp)).drew) w.heap.size [.slice ak mk ck, .slice ap mp cp]) := ((LV.out.set 0 (.slice ak mk ck)).set 1 (.slice ap mp cp)).below ((Below.refl _ _).drew) (heap_lt (Lone.back ((LV.out.set 0 (.slice ak mk ck)).set 1 (.slice ap mp cp))))
        have BF : Hid (Below w.heap.size w (((V.setCell ⟨w.heap.size, 0, none⟩ (.slice ak mk ck)).setCell ⟨w.heap.size, 1, none⟩ (.slice ap mp cp)).drew)) := ((BV.out.1.setCell (p := ⟨w.heap.size, 0, none⟩) (Nat.le_refl _) _).setCell (p := ⟨w.heap.size, 1, none⟩) (Nat.le_refl _) _).drew
        clear hWF hm5 pv0 pv1 rv0 rv1 tv0 tv1
        go_wp2
        refine bodyPost_ret (res2 Tryd.results16 _ _ w.heap.size 26 _ _ _ rfl (Lone.back LF.out) Tryd.underlying26 rfl rfl) rfl ?_
        exact ⟨ak, ap, mk, ck, mp, cp, ks, ps, _, rfl, PR.out, HR.out _ (by simp), BF.out⟩
    · have LV : Hid (Lone 26 2 (w6.setCell ⟨Pb, 1, none⟩ (.slice ap mp cp)) w.heap.size [.slice none 0 0, .slice none 0 0]) := L6.out
      have MV : Hid (Lone 26 2 (w6.setCell ⟨Pb, 1, none⟩ (.slice ap mp cp)) Pb [.slice ak mk ck, .slice ap mp cp]) := M8.out
      have BV : Hid (Below w.heap.size w (w6.setCell ⟨Pb, 1, none⟩ (.slice ap mp cp)) ∧ W5.heap.size ≤ (w6.setCell ⟨Pb, 1, none⟩ (.slice ap mp cp)).heap.size) := B6.out
      have KV : Hid (BK (w6.setCell ⟨Pb, 1, none⟩ (.slice ap mp cp)) w.heap.size (.slice ak mk ck) mk (fun j => ks.getD j cn0) ut) := HBK6.out
      have PV : Hid (BP (w6.setCell ⟨Pb, 1, none⟩ (.slice ap mp cp)) W5.heap.size (.slice ap mp cp) mp (fun j => ps.getD j pr0) uc ud) := HBP.out
      have hf7 : (progD bs = none ∧ (fr = .iface 142 (.pointer (some a0)) ∨ fr = .iface 142 (.pointer (some a1)))) ∨ progD bs = some ⟨ks, ps⟩ ∧ fr = .nilIface := by
        rcases HG7.out with ⟨h, h'⟩ | ⟨h, h'⟩
        · rcases h' with h' | ⟨z, zs, h'⟩
          · exact .inl ⟨h, hr2 h'⟩
          · have := (hr1 _ h').1
            simp at this
            omega
        · exact .inr ⟨h, (hr1 [] h').2.2.2⟩
      have HR : Hid (∀ f : Value, f = fr → (progD bs = none ∧ (f = .iface 142 (.pointer (some a0)) ∨ f = .iface 142 (.pointer (some a1))) ∨ progD bs = some ⟨ks, ps⟩ ∧ f = .nilIface)) := fun f h => by rw [h]; exact hf7
      have hf8 : fr = .iface 142 (.pointer (some a0)) ∨ fr = .iface 142 (.pointer (some a1)) ∨ fr = .nilIface := by
        rcases hf7 with ⟨_, h | h⟩ | ⟨_, h⟩
        · exact .inl h
        · exact .inr (.inl h)
        · exact .inr (.inr h)
      clear L6 M8 B6 HBK6 HBP S6 HG7 hr1 hr2 hf7 e1
      rcases hf8 with rfl | rfl | rfl
      all_goals
        have pv0 := MV.out.at (j := 0) (by omega)
        have pv1 := MV.out.at (j := 1) (by omega)
        have rv0 := LV.out.at (j := 0) (by omega)
        have rv1 := LV.out.at (j := 1) (by omega)
        have tv0 := LV.out.free 0
        have tv1 := LV.out.free 1
        simp only [List.getElem?_cons_zero, List.getElem?_cons_succ] at pv0 pv1 rv0 rv1
        go_wp2_with fail
        go_region
        have hWF : ∀ b, b ≠ w.heap.size → ((((w6.setCell ⟨Pb, 1, none⟩ (.slice ap mp cp)).setCell ⟨w.heap.size, 0, none⟩ (.slice ak mk ck)).setCell ⟨w.heap.size, 1, none⟩ (.slice ap mp cp)).drew).heap[b]? = (w6.setCell ⟨Pb, 1, none⟩ (.slice ap mp cp)).heap[b]? := fun b hb => by
          show (((w6.setCell ⟨Pb, 1, none⟩ (.slice ap mp cp)).setCell ⟨w.heap.size, 0, none⟩ (.slice ak mk ck)).setCell ⟨w.heap.size, 1, none⟩ (.slice ap mp cp)).heap[b]? = _
          rw [Below.heap_setCell _ ⟨w.heap.size, 1, none⟩ _ b hb, Below.heap_setCell _ ⟨w.heap.size, 0, none⟩ _ b hb]
        have hm5 := HUK.out.2 w.heap.size (by omega)
        have PR : Hid (PrgAt w ((((w6.setCell ⟨Pb, 1, none⟩ (.slice ap mp cp)).setCell ⟨w.heap.size, 0, none⟩ (.slice ak mk ck)).setCell ⟨w.heap.size, 1, none⟩ (.slice ap mp cp)).drew) ak ap mk ck mp cp ks ps) := ⟨W5.heap.size, ut, uc, ud, bk_far KV.out (fun b _ h2 => hWF b h2) hm5, HUK.out.1, PV.out.hold (fun b h1 _ => hWF b (by omega)), by omega, by have := BV.out.2; show _ ≤ (((w6.setCell ⟨Pb, 1, none⟩ (.slice ap mp cp)).setCell ⟨w.heap.size, 0, none⟩ (.slice ak mk ck)).setCell ⟨w.heap.size, 1, none⟩ (.slice ap mp cp)).heap.size; simp only [World.size_setCell] at this ⊢; exact this, HOK.out.2, HPK.out.2, HOK.out.1, HPK.out.1⟩
        have LF : Hid (Lone 26 2 ((((w6.setCell ⟨Pb, 1, none⟩ (.slice ap mp cp)).setCell ⟨w.heap.size, 0, none⟩ (.slice ak mk ck)).setCell ⟨w.heap.size, 1, none⟩ (.slice ap mp cp)).drew) w.heap.size [.slice ak mk ck, .slice ap mp cp]) := ((LV.out.set 0 (.slice ak mk ck)).set 1 (.slice ap mp cp)).below ((Below.refl _ _).drew) (heap_lt (Lone.back ((LV.out.set 0 (.slice ak mk ck)).set 1 (.slice ap mp cp))))
        have BF : Hid (Below w.heap.size w ((((w6.setCell ⟨Pb, 1, none⟩ (.slice ap mp cp)).setCell ⟨w.heap.size, 0, none⟩ (.slice ak mk ck)).setCell ⟨w.heap.size, 1, none⟩ (.slice ap mp cp)).drew)) := ((BV.out.1.setCell (p := ⟨w.heap.size, 0, none⟩) (Nat.le_refl _) _).setCell (p := ⟨w.heap.size, 1, none⟩) (Nat.le_refl _) _).drew
        clear hWF hm5 pv0 pv1 rv0 rv1 tv0 tv1
        go_wp2
        refine bodyPost_ret (res2 Tryd.results16 _ _ w.heap.size 26 _ _ _ rfl (Lone.back LF.out) Tryd.underlying26 rfl rfl) rfl ?_
        exact ⟨ak, ap, mk, ck, mp, cp, ks, ps, _, rfl, PR.out, HR.out _ (by simp), BF.out⟩
end Go.Proofs.YteagakplhfiodaaDoor.ld

namespace Go.Proofs.YteagakplhfiodaaDoor.ld
open Go.RowKit Go.Proofs.YteagakplhfiodaaDoor.bts Go.Proofs.YteagakplhfiodaaDoor.pg Go.Proofs.YteagakplhfiodaaDoor.chk Go.Proofs.YteagakplhfiodaaDoor.sv

/-! What save writes of a program of small numbers are bytes. -/
theorem BB.app {xs ys : List Int} (h1 : BB xs) (h2 : BB ys) : BB (xs ++ ys) := fun z hz => (List.mem_append.1 hz).elim (h1 z) (h2 z)
theorem BB.put {x : Int} {xs : List Int} (h0 : 0 ≤ x ∧ x ≤ 255) (h : BB xs) : BB (x :: xs) := fun z hz => by
  rcases List.mem_cons.1 hz with rfl | hz
  · exact h0
  · exact h z hz
theorem vr_bb : ∀ (f v : Nat), v < 128 ^ (f + 1) → BB (vr f v)
  | 0, v, h => by
    intro z hz
    simp only [vr, List.mem_cons, List.not_mem_nil, or_false] at hz
    omega
  | f + 1, v, h => by
    by_cases hv : v < 128
    · rw [vr_small hv]
      exact BB.put (by omega) (fun z hz => (by cases hz))
    · rw [vr_great hv]
      exact BB.put (by omega) (vr_bb f (v / 128) (by rw [Nat.div_lt_iff_lt_mul (by omega)]; rw [Nat.pow_succ] at h; exact h))
theorem var_bb {v : Nat} (h : v < 2097152) : BB (var v) := vr_bb 2 v h
theorem vz_bb {z : Int} (h : z < 2097152) : BB (vz z) := var_bb (by omega)
theorem e8_bb (n : Int) (k : Nat) : BB (e8 n k) := by
  intro z hz
  obtain ⟨i, _, rfl⟩ := List.mem_map.1 hz
  omega
theorem fl_bb {α : Type} {f : α → List Int} {l : List α} (d : α) (h : ∀ i, i < l.length → BB (f (l.getD i d))) (k : Nat) : BB (fl f l k) := by
  intro z hz
  obtain ⟨t, ht, hz⟩ := List.mem_flatten.1 hz
  obtain ⟨a, ha, rfl⟩ := List.mem_map.1 ht
  obtain ⟨i, hi, e⟩ := List.getElem_of_mem (List.mem_of_mem_take ha)
  have := h i hi
  rw [List.getD_eq_getElem?_getD, List.getElem?_eq_getElem hi, Option.getD_some, e] at this
  exact this z hz
theorem kc_bb {c : Cn} (hb : Bts c.text) (h : c.text.length ≤ 5000) : BB (kc c) := by
  unfold kc
  split
  · exact (BB.put (by omega) (var_bb (by omega))).app (bb_of hb)
  · exact BB.put (by omega) (e8_bb _ _)
theorem cc_bb {c : Cp} (h : SmallC c) : BB (cc c) := BB.put (by split <;> omega) (vz_bb h.2)
theorem xc_bb {x : In} (h : SmallI x) : BB (xc x) := BB.put ⟨h.1, by have := h.2.1; omega⟩ ((vz_bb h.2.2.2.1).app (vz_bb h.2.2.2.2.2))
theorem fc_bb {f : Pr} (h : SmallP f) (hc : f.caps.length < 2097152) (hd : f.code.length < 2097152) : BB (fc f) := ((((((vz_bb h.p1).app (vz_bb h.s1)).app (var_bb hc)).app (fl_bb cp0 (fun i hi => cc_bb (h.caps i hi)) _)).app (var_bb hd)).app (fl_bb in0 (fun i hi => xc_bb (h.code i hi)) _))
theorem save_bb {p : Pg} (h : SmallG p) (hk : KOk p.consts) (hs : sizePg p ≤ 1048576) : BB (save p) := by
  have hn : p.consts.length ≤ 1048576 ∧ p.protos.length + sumsF sizePr p.protos p.protos.length ≤ 1048576 := by unfold sizePg sizeK sizeP at hs; omega
  refine ((((BB.app ?_ (var_bb (by omega))).app (fl_bb cn0 (fun i hi => kc_bb (hk.2 i hi).1 (h.texts i hi)) _)).app (var_bb (by omega))).app (fl_bb pr0 (fun i hi => ?_) _))
  · intro z hz
    simp only [List.mem_cons, List.not_mem_nil, or_false] at hz
    omega
  · have hz := sumsF_at (f := sizePr) pr0 hi
    have e : sizePr (p.protos.getD i pr0) = (p.protos.getD i pr0).caps.length + (p.protos.getD i pr0).code.length := rfl
    exact fc_bb (h.protos i hi) (by omega) (by omega)
theorem save_pos (p : Pg) : 0 < (save p).length := by
  unfold save
  simp only [List.length_append, List.length_cons]
  omega
theorem progL_pos {xs : List Int} {p : Pg} (h : progL xs = some p) : 0 < xs.length := by
  cases xs with
  | nil => exact absurd h (by simp [progL, takeD])
  | cons x xs => simp
theorem conv_rd (w : World) (av : Option Addr) (m cv : Nat) (ys : List Int) (hm : m = ys.length) (hr : Rd w av ys) (h0 : 0 < ys.length) : (convert 22 9 (.slice av m cv)).run Tryd.prog w = .ok (.string (strOfNums ys)) w := by
  subst hm
  obtain ⟨b, off, rfl, _, hc⟩ := hr.at h0
  exact run_convert_bytes_arg w 22 5 Tryd.underlying22 Tryd.underlying5 b off _ cv ys rfl (fun i hi => hc i (by omega)) 9 Tryd.underlying9
end Go.Proofs.YteagakplhfiodaaDoor.ld
