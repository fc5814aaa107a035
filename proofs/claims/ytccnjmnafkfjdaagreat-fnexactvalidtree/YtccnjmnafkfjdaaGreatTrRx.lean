import Derived.Test.YtccnjmnafkfjdaaGreatTrMeth
namespace Go.Proofs.YtccnjmnafkfjdaaGreat.vt
open Go.RowKit Go.Proofs.YtccnjmnafkfjdaaGreat.bts Go.Proofs.YtccnjmnafkfjdaaGreat.nod Go.Proofs.YtccnjmnafkfjdaaGreat.lex

/-- The interface value is the tree: its nodes lie in blocks of which A holds, its texts are those of the world W0. -/
def Rx (W0 : World) (A : Nat → Prop) : {D : Nat} → World → Value → Tr D → Prop
  | 0, _, _, _ => False
  | D + 1, w, v, t => ∃ (g : Nat) (ao : Option Addr) (cap : Nat) (ut un : Value) (U : Nat → Value), v = .iface (ty t.1.kind) (.pointer (some ⟨g, 0, none⟩)) ∧ 0 ≤ t.1.kind ∧ t.1.kind ≤ 26 ∧ t.2.length ≤ cap ∧ cap ≤ 9223372036854775807 ∧ t.2.length ≤ 1048576 ∧ A g ∧
      NodeAt w g t.1 ut un (.slice ao t.2.length cap) ∧ RcV W0 ut t.1.text ∧ RcVV W0 un t.1.names ∧ t.1.text.length + sizeSS t.1.names ≤ 1048576 ∧
      (∀ k, k < t.2.length → ∃ b off, ao = some ⟨b, off, none⟩ ∧ A b ∧ w.cell? ⟨b, off + k, none⟩ = some (U k)) ∧ (∀ k, k < t.2.length → Rx W0 A w (U k) (t.2.getD k (tr0 D)))
theorem Rx.rep {W0 w : World} {A : Nat → Prop} (hb : Below W0.heap.size W0 w) : ∀ {D : Nat} {v : Value} {t : Tr D}, Rx W0 A w v t → Rep w v t := by
  intro D
  induction D with
  | zero => intro v t h; exact h
  | succ D ih =>
    rintro v t ⟨g, ao, cap, ut, un, U, e, hk0, hk1, hlen, hcap, hl6, hA, hn, ht, hm, hsz, hc, hr⟩
    refine ⟨g, ao, cap, ut, un, U, e, hk0, hk1, hlen, hcap, hl6, hn, ht.below hb, hm.below hb, hsz, fun k hk => ?_, fun k hk => ih (hr k hk)⟩
    obtain ⟨b, off, e, _, h⟩ := hc k hk
    exact ⟨b, off, e, h⟩
theorem Rx.kept {W0 w w' : World} {A A' : Nat → Prop} (hA' : ∀ x, A x → A' x ∧ w'.heap[x]? = w.heap[x]?) : ∀ {D : Nat} {v : Value} {t : Tr D}, Rx W0 A w v t → Rx W0 A' w' v t := by
  intro D
  induction D with
  | zero => intro v t h; exact h
  | succ D ih =>
    rintro v t ⟨g, ao, cap, ut, un, U, e, hk0, hk1, hlen, hcap, hl6, hA, hn, ht, hm, hsz, hc, hr⟩
    have cg : ∀ o, w'.cell? ⟨g, o, none⟩ = w.cell? ⟨g, o, none⟩ := fun o => World.cell?_of_block (hA' g hA).2
    obtain ⟨c0, c1, c2, c3, c4, c5⟩ := hn
    refine ⟨g, ao, cap, ut, un, U, e, hk0, hk1, hlen, hcap, hl6, (hA' g hA).1, ⟨(cg _).trans c0, (cg _).trans c1, (cg _).trans c2, (cg _).trans c3, (cg _).trans c4, (cg _).trans c5⟩, ht, hm, hsz, fun k hk => ?_, fun k hk => ih (hr k hk)⟩
    obtain ⟨b, off, e, hB, h⟩ := hc k hk
    exact ⟨b, off, e, (hA' b hB).1, (World.cell?_of_block (a := ⟨b, off + k, none⟩) (hA' b hB).2).trans h⟩
end Go.Proofs.YtccnjmnafkfjdaaGreat.vt
