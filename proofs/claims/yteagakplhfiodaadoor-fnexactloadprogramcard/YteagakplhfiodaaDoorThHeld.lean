import Derived.Test.YteagakplhfiodaaDoorThMarkC
import Derived.Test.YteagakplhfiodaaDoorPgMarkB
namespace Go.Proofs.YteagakplhfiodaaDoor.th
open Go.RowKit Go.Proofs.YteagakplhfiodaaDoor.bts Go.Proofs.YteagakplhfiodaaDoor.pg Go.Proofs.YteagakplhfiodaaDoor.chk Go.Proofs.YteagakplhfiodaaDoor.sv

/-- A program in memory of its own, from B on: the constants below M, the functions from M on and below H. -/
structure Own (w : World) (B M H : Nat) (ak ap : Option Addr) (ck cp : Nat) (q : Pg) (ut uc ud : Nat → Value) : Prop where
  k : BK w B (.slice ak q.consts.length ck) q.consts.length (fun j => q.consts.getD j cn0) ut
  ku : UnderK M (.slice ak q.consts.length ck) q.consts.length ut
  bm : B ≤ M
  p : BP w M (.slice ap q.protos.length cp) q.protos.length (fun j => q.protos.getD j pr0) uc ud
  pu : UnderP H (.slice ap q.protos.length cp) q.protos.length uc ud
  mh : M ≤ H
theorem Own.hold {w w' : World} {B M H ck cp : Nat} {ak ap : Option Addr} {q : Pg} {ut uc ud : Nat → Value} (h : Own w B M H ak ap ck cp q ut uc ud) (hk : ∀ b, B ≤ b → b < H → w'.heap[b]? = w.heap[b]?) : Own w' B M H ak ap ck cp q ut uc ud := by
  have hbm := h.bm
  have hmh := h.mh
  obtain ⟨us, ho, hx⟩ := h.k.row
  obtain ⟨vs, hv, hy⟩ := h.p.row
  exact ⟨⟨⟨us, own_hold ho (fun b h1 _ e => hk b h1 (by have := h.ku.1 b e; omega)), hx⟩, fun j hj => (h.k.texts j hj).hold (fun b h1 _ e => hk b h1 (by have := h.ku.2 j hj b e; omega)), h.k.apart, h.k.spine⟩, h.ku, h.bm,
    ⟨⟨vs, own_hold hv (fun b h1 _ e => hk b (by omega) (h.pu.1 b e)), hy⟩, fun j hj => (h.p.caps j hj).hold (fun b h1 _ e => hk b (by omega) (h.pu.2.1 j hj b e)), fun j hj => (h.p.code j hj).hold (fun b h1 _ e => hk b (by omega) (h.pu.2.2 j hj b e)), h.p.apartC, h.p.apartD, h.p.cross, h.p.spineC, h.p.spineD⟩, h.pu, h.mh⟩
theorem Own.rdK {w : World} {B M H ck cp : Nat} {ak ap : Option Addr} {q : Pg} {ut uc ud : Nat → Value} (h : Own w B M H ak ap ck cp q ut uc ud) (ok : KOk q.consts) : RdKV w (.slice ak q.consts.length ck) q.consts := h.k.rd ok
theorem Own.rdP {w : World} {B M H ck cp : Nat} {ak ap : Option Addr} {q : Pg} {ut uc ud : Nat → Value} (h : Own w B M H ak ap ck cp q ut uc ud) (ok : POk q.protos) : RdPV w (.slice ap q.protos.length cp) q.protos := h.p.rd ok
theorem Prog.own {w w' : World} {q : Pg} {e : Ending} (h : Prog w q e w') : ∃ ak ap ck cp M ut uc ud, e = .returned (.agg #[.slice ak q.consts.length ck, .slice ap q.protos.length cp]) ∧ Own w' w.heap.size M w'.heap.size ak ap ck cp q ut uc ud ∧ Below w.heap.size w w' := by
  obtain ⟨ak, ap, ck, cp, M, ut, uc, ud, e, hk, hu, hm, hp, hm2, hb⟩ := h
  exact ⟨ak, ap, ck, cp, M, ut, uc, ud, e, ⟨hk, hu, hm, hp, ⟨fun b e => (hp.lt b e).2, fun j hj b e => ((hp.caps j hj).lt b e).2, fun j hj b e => ((hp.code j hj).lt b e).2⟩, hm2⟩, hb⟩

/-- How many numbers the marks of the constants, of the functions take. -/
def kn1 (q : Pg) : Nat := 1 + 2 * q.consts.length + sumN (fun j => (q.consts.getD j cn0).text.length) q.consts.length
def kn2 (q : Pg) : Nat := kn1 q + 2 * q.protos.length + sumN (fun j => 2 * (q.protos.getD j pr0).caps.length + 3 * (q.protos.getD j pr0).code.length) q.protos.length
structure Mkd (w : World) (B M : Nat) (ak ap : Option Addr) (ck cp : Nat) (q : Pg) (ut uc ud : Nat → Value) : Prop where
  k : MdK w B (.slice ak q.consts.length ck) q.consts.length (fun j => (q.consts.getD j cn0).text.length) ut 1
  p : MdP w M (.slice ap q.protos.length cp) q.protos.length (fun j => (q.protos.getD j pr0).caps.length) (fun j => (q.protos.getD j pr0).code.length) uc ud (kn1 q : Int)

theorem sumN_of {α : Type} (f : α → Nat) (l : List α) (x : α) : ∀ k, k ≤ l.length → sumN (fun j => f (l.getD j x)) k = sumsF f l k
  | 0, _ => by simp [sumN, sumsF]
  | k + 1, h => by rw [sumN, sumN_of f l x k (by omega), sumsF_succ x (by omega)]
theorem size_k {q : Pg} (h : sizePg q ≤ 1048576) : q.consts.length ≤ 1048576 ∧ sumN (fun j => (q.consts.getD j cn0).text.length) q.consts.length ≤ 1048576 := by
  have := sumN_of sizeCn q.consts cn0 q.consts.length (Nat.le_refl _)
  unfold sizePg sizeK at h
  exact ⟨by omega, by rw [show (fun j => (q.consts.getD j cn0).text.length) = fun j => sizeCn (q.consts.getD j cn0) from rfl, this]; omega⟩
theorem size_p {q : Pg} (h : sizePg q ≤ 1048576) : q.protos.length ≤ 1048576 ∧ sumN (fun j => 2 * (q.protos.getD j pr0).caps.length + 3 * (q.protos.getD j pr0).code.length) q.protos.length ≤ 4194304 := by
  have h1 := sumN_of wtPr q.protos pr0 q.protos.length (Nat.le_refl _)
  have h2 := wt_le q.protos q.protos.length
  unfold sizePg sizeP at h
  exact ⟨by omega, by rw [show (fun j => 2 * (q.protos.getD j pr0).caps.length + 3 * (q.protos.getD j pr0).code.length) = fun j => wtPr (q.protos.getD j pr0) from rfl, h1]; omega⟩

set_option maxRecDepth 100000 in
set_option maxHeartbeats 2000000 in
theorem markProgram_ex (q : Pg) (ak ap : Option Addr) (ck cp B M H : Nat) (ut uc ud : Nat → Value) (w : World) (h : Own w B M H ak ap ck cp q ut uc ud) (hH : H ≤ w.heap.size) (hs : sizePg q ≤ 1048576) :
    Calls Tryd.prog 10 #[.agg #[.slice ak q.consts.length ck, .slice ap q.protos.length cp], .int .i64 1] w fun e w' => e = .returned (.int .i64 (kn2 q : Nat)) ∧ Mkd w' B M ak ap ck cp q ut uc ud ∧ On B H w w' := by
  obtain ⟨s1, s2⟩ := size_k hs
  obtain ⟨s3, s4⟩ := size_p hs
  have hbm := h.bm
  have hmh := h.mh
  have HA : Hid (∀ o, Own (w.alloc o) B M H ak ap ck cp q ut uc ud) := fun o => h.hold (fun b _ h2 => heap_alloc_old _ _ (by omega))
  have CK : Hid (∀ o, Calls Tryd.prog 21 #[.slice ak q.consts.length ck, .int .i64 1] (w.alloc o) fun e w' => e = .returned (.int .i64 (kn1 q : Nat)) ∧ MdK w' B (.slice ak q.consts.length ck) q.consts.length (fun j => (q.consts.getD j cn0).text.length) ut 1 ∧ On B M (w.alloc o) w') := fun o => (markConstS_ex ak ck q.consts.length B M (fun j => q.consts.getD j cn0) ut 1 (by omega) (by omega) (w.alloc o) (HA.out o).k (HA.out o).ku s1 s2).mono (by
    rintro e w' ⟨rfl, h1, h2⟩
    exact ⟨by unfold kn1; simp, h1, h2⟩)
  have CP : Hid (∀ W, BP W M (.slice ap q.protos.length cp) q.protos.length (fun j => q.protos.getD j pr0) uc ud → Calls Tryd.prog 22 #[.slice ap q.protos.length cp, .int .i64 (kn1 q : Nat)] W fun e w' => e = .returned (.int .i64 (kn2 q : Nat)) ∧ MdP w' M (.slice ap q.protos.length cp) q.protos.length (fun j => (q.protos.getD j pr0).caps.length) (fun j => (q.protos.getD j pr0).code.length) uc ud (kn1 q : Int) ∧ On M H W w') := fun W hW => (markProtoS_ex ap cp q.protos.length M H (fun j => q.protos.getD j pr0) uc ud (kn1 q : Int) (by omega) (by unfold kn1; omega) W hW h.pu s3 s4).mono (by
    rintro e w' ⟨rfl, h1, h2⟩
    exact ⟨by unfold kn2; simp, h1, h2⟩)
  have HKU : Hid (UnderK M (.slice ak q.consts.length ck) q.consts.length ut) := h.ku
  clear h hs s1 s2 s3 s4
  generalize kn2 q = K2 at CP
  generalize hK1 : kn1 q = K1 at CK CP
  go_enter Tryd.func10, Tryd.ntmps10
  go_wp2_with fail
  refine (CK.out _).mono ?_
  rintro e w1 ⟨rfl, m1, o1⟩
  have z1 : w1.cell? ⟨w.heap.size, 1, none⟩ = some (.slice ap q.protos.length cp) := (World.cell?_of_block (a := ⟨w.heap.size, 1, none⟩) (o1.far w.heap.size (by show M ≤ w.heap.size; omega) (by simp))).trans (cellNew rfl)
  have HM1 : Hid _ := m1
  have HP1 : Hid (BP w1 M (.slice ap q.protos.length cp) q.protos.length (fun j => q.protos.getD j pr0) uc ud) := (HA.out _).p.hold (fun b h1 h2 => o1.far b h1 h2)
  have HO1 : Hid (On B H w w1) := (On.trans ⟨(Below.refl B w).alloc (by omega) _, fun b _ hb => heap_alloc_old _ _ hb⟩ (o1.wide (Nat.le_refl _) (by omega)))
  clear m1 o1
  go_wp2_with fail
  refine (CP.out _ HP1.out).mono ?_
  rintro e w2 ⟨rfl, m2, o2⟩
  have HM2 : Hid _ := m2
  have HO2 : Hid (On B H w w2) := HO1.out.trans (o2.wide (by omega) (Nat.le_refl _))
  have HB2 : Hid (Below M w1 w2) := o2.below
  clear m2 o2
  go_wp2
  go_returns
  refine ⟨rfl, ⟨?_, by rw [hK1]; exact HM2.out⟩, HO2.out⟩
  obtain ⟨us, ho, hx⟩ := HM1.out.row
  exact ⟨⟨us, own_hold ho (fun b _ _ e => HB2.out.block b (HKU.out.1 b e)), hx⟩, fun j hj => ⟨(HM1.out.texts j hj).1, own_hold (HM1.out.texts j hj).2 (fun b _ _ e => HB2.out.block b (HKU.out.2 j hj b e))⟩⟩

set_option maxRecDepth 100000 in
set_option maxHeartbeats 2000000 in
theorem heldProgram_ex (q : Pg) (ak ap : Option Addr) (ck cp B M : Nat) (ut uc ud : Nat → Value) (w : World) (h : Mkd w B M ak ap ck cp q ut uc ud) (hs : sizePg q ≤ 1048576) :
    Calls Tryd.prog 11 #[.agg #[.slice ak q.consts.length ck, .slice ap q.protos.length cp], .int .i64 1] w fun e w' => e = .returned (.int .i64 (kn2 q : Nat)) ∧ Below w.heap.size w w' := by
  obtain ⟨s1, s2⟩ := size_k hs
  obtain ⟨s3, s4⟩ := size_p hs
  have HA : Hid (∀ o, Mkd (w.alloc o) B M ak ap ck cp q ut uc ud) := fun o => by
    obtain ⟨us, ho, hx⟩ := h.k.row
    obtain ⟨vs, hv, hy⟩ := h.p.row
    have hh : ∀ b, b < w.heap.size → (w.alloc o).heap[b]? = w.heap[b]? := fun b hb => heap_alloc_old _ _ hb
    exact ⟨⟨⟨us, own_hold ho (fun b _ h2 _ => hh b h2), hx⟩, fun j hj => ⟨(h.k.texts j hj).1, own_hold (h.k.texts j hj).2 (fun b _ h2 _ => hh b h2)⟩⟩, ⟨⟨vs, own_hold hv (fun b _ h2 _ => hh b h2), hy⟩, fun j hj => by
      obtain ⟨a1, us, a2, a3⟩ := h.p.caps j hj
      exact ⟨a1, us, own_hold a2 (fun b _ h2 _ => hh b h2), a3⟩, fun j hj => by
      obtain ⟨a1, us, a2, a3⟩ := h.p.code j hj
      exact ⟨a1, us, own_hold a2 (fun b _ h2 _ => hh b h2), a3⟩⟩⟩
  have CK : Hid (∀ o, Calls Tryd.prog 23 #[.slice ak q.consts.length ck, .int .i64 1] (w.alloc o) fun e w' => e = .returned (.int .i64 (kn1 q : Nat)) ∧ w' = w.alloc o) := fun o => (heldConstS_ex ak ck q.consts.length B (fun j => (q.consts.getD j cn0).text.length) ut 1 (by omega) (by omega) (w.alloc o) (HA.out o).k s1 s2).mono (by
    rintro e w' ⟨rfl, h1⟩
    exact ⟨by unfold kn1; simp, h1⟩)
  have CP : Hid (∀ o, Calls Tryd.prog 24 #[.slice ap q.protos.length cp, .int .i64 (kn1 q : Nat)] (w.alloc o) fun e w' => e = .returned (.int .i64 (kn2 q : Nat)) ∧ w' = w.alloc o) := fun o => (heldProtoS_ex ap cp q.protos.length M (fun j => (q.protos.getD j pr0).caps.length) (fun j => (q.protos.getD j pr0).code.length) uc ud (kn1 q : Int) (by omega) (by unfold kn1; omega) (w.alloc o) (HA.out o).p s3 s4).mono (by
    rintro e w' ⟨rfl, h1⟩
    exact ⟨by unfold kn2; simp, h1⟩)
  clear h hs s1 s2 s3 s4 HA
  generalize kn2 q = K2 at CP
  generalize kn1 q = K1 at CK CP
  have n1 : decide ((K1 : Int) < 0) = false := by simp
  have n2 : decide ((K2 : Int) < 0) = false := by simp
  go_enter Tryd.func11, Tryd.ntmps11
  go_wp2_with fail
  refine (CK.out _).mono ?_
  rintro e w1 ⟨rfl, rfl⟩
  go_wp2_with fail
  refine (CP.out _).mono ?_
  rintro e w2 ⟨rfl, rfl⟩
  go_wp2
  go_returns
  exact ⟨rfl, (Below.refl _ _).alloc (Nat.le_refl _) _⟩
end Go.Proofs.YteagakplhfiodaaDoor.th
