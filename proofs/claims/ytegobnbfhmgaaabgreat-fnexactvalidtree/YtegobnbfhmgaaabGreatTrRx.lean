import Derived.Test.YtegobnbfhmgaaabGreatTrMeth
namespace Go.Proofs.YtegobnbfhmgaaabGreat.vt
open Go.RowKit Go.Proofs.YtegobnbfhmgaaabGreat.bts Go.Proofs.YtegobnbfhmgaaabGreat.nod Go.Proofs.YtegobnbfhmgaaabGreat.lex

/-- The interface value is the tree: its nodes lie in blocks of which A holds, its texts are those of the world W0. -/
inductive Rx (W0 w : World) (A : Nat → Prop) : Value → Tr → Prop
  | mk (d : Nd) (ks : List Tr) (g : Nat) (ao : Option Addr) (cap : Nat) (ut un : Value) (U : Nat → Value) (hk0 : 0 ≤ d.kind) (hk1 : d.kind ≤ 26) (hlen : ks.length ≤ cap) (hcap : cap ≤ 9223372036854775807) (hl6 : ks.length ≤ 1048576) (hA : A g)
      (hn : NodeAt w g d ut un (.slice ao ks.length cap)) (ht : RcV W0 ut d.text) (hm : RcVV W0 un d.names) (hsz : d.text.length + sizeSS d.names ≤ 1048576)
      (hc : ∀ k, k < ks.length → ∃ b off, ao = some ⟨b, off, none⟩ ∧ A b ∧ w.cell? ⟨b, off + k, none⟩ = some (U k)) (hr : ∀ k, k < ks.length → Rx W0 w A (U k) (ks.getD k default)) :
      Rx W0 w A (.iface (ty d.kind) (.pointer (some ⟨g, 0, none⟩))) (.mk d ks)
theorem Rx.rep {W0 w : World} {A : Nat → Prop} (hb : Below W0.heap.size W0 w) {v : Value} {t : Tr} (h : Rx W0 w A v t) : Rep w v t := by
  induction h with
  | mk d ks g ao cap ut un U hk0 hk1 hlen hcap hl6 hA hn ht hm hsz hc hr ih =>
    refine .mk d ks g ao cap ut un U hk0 hk1 hlen hcap hl6 hn (ht.below hb) (hm.below hb) hsz (fun k hk => ?_) ih
    obtain ⟨b, off, e, _, h⟩ := hc k hk
    exact ⟨b, off, e, h⟩
theorem Rx.kept {W0 w w' : World} {A A' : Nat → Prop} (hA' : ∀ x, A x → A' x ∧ w'.heap[x]? = w.heap[x]?) {v : Value} {t : Tr} (h : Rx W0 w A v t) : Rx W0 w' A' v t := by
  induction h with
  | mk d ks g ao cap ut un U hk0 hk1 hlen hcap hl6 hA hn ht hm hsz hc hr ih =>
    have cg : ∀ o, w'.cell? ⟨g, o, none⟩ = w.cell? ⟨g, o, none⟩ := fun o => World.cell?_of_block (hA' g hA).2
    obtain ⟨c0, c1, c2, c3, c4, c5⟩ := hn
    refine .mk d ks g ao cap ut un U hk0 hk1 hlen hcap hl6 (hA' g hA).1 ⟨(cg _).trans c0, (cg _).trans c1, (cg _).trans c2, (cg _).trans c3, (cg _).trans c4, (cg _).trans c5⟩ ht hm hsz (fun k hk => ?_) ih
    obtain ⟨b, off, e, hB, h⟩ := hc k hk
    exact ⟨b, off, e, (hA' b hB).1, (World.cell?_of_block (a := ⟨b, off + k, none⟩) (hA' b hB).2).trans h⟩
end Go.Proofs.YtegobnbfhmgaaabGreat.vt
