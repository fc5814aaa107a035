import Derived.Test.YtccnjmnafkfjdaaGreatTrFitsB
import Derived.Test.YtccnjmnafkfjdaaGreatTrFitsC
import Derived.Test.YtccnjmnafkfjdaaGreatTrFitsE
import Derived.Shelf.Abstract
namespace Go.Proofs.YtccnjmnafkfjdaaGreat.vt
open Go.RowKit Go.Shelf Go.Proofs.YtccnjmnafkfjdaaGreat.bts Go.Proofs.YtccnjmnafkfjdaaGreat.nod Go.Proofs.YtccnjmnafkfjdaaGreat.lex

/-- The function of a method of the program's nodes. -/
def MethodIs (T g : Nat) (name : String) (f : Nat) : Prop := ∀ W : World, (method 285 T (.pointer (some ⟨g, 0, none⟩)) name).run Tryz.prog W = .ok (f, .pointer (some ⟨g, 0, none⟩)) W

set_option maxRecDepth 100000 in
set_option maxHeartbeats 4000000 in
theorem fits_any {D : Nat} {v : Value} {t : Tr D} {w : World} (h : Rep w v t) (hwf : -9223372036854775808 ≤ (dT t).n ∧ (dT t).n ≤ 9223372036854775807) :
    ∃ T g f, v = .iface T (.pointer (some ⟨g, 0, none⟩)) ∧ MethodIs T g "loop.example/s02245/impl.fits" f ∧ (∀ args W, (callFunc f args).run Tryz.prog W = .ok (.enter f args) W) ∧ Calls Tryz.prog f #[.pointer (some ⟨g, 0, none⟩)] w fun e w' => e = .returned (.bool (fitsT t)) ∧ Below w.heap.size w w' := by
  obtain ⟨g, ao, cap, at_, an, ca, cn, rfl, hk0, hk1, N, ht, hm, hsz, hS⟩ := h.open
  unfold fitsT
  clear h
  generalize kkT t = ks at *
  generalize dT t = d at *
  have : d.kind = 0 ∨ d.kind = 1 ∨ d.kind = 2 ∨ d.kind = 3 ∨ d.kind = 4 ∨ d.kind = 5 ∨ d.kind = 6 ∨ d.kind = 7 ∨ d.kind = 8 ∨ d.kind = 9 ∨ d.kind = 10 ∨ d.kind = 11 ∨ d.kind = 12 ∨ d.kind = 13 ∨ d.kind = 14 ∨ d.kind = 15 ∨ d.kind = 16 ∨ d.kind = 17 ∨ d.kind = 18 ∨ d.kind = 19 ∨ d.kind = 20 ∨ d.kind = 21 ∨ d.kind = 22 ∨ d.kind = 23 ∨ d.kind = 24 ∨ d.kind = 25 ∨ d.kind = 26 := by omega
  rcases this with hk | hk | hk | hk | hk | hk | hk | hk | hk | hk | hk | hk | hk | hk | hk | hk | hk | hk | hk | hk | hk | hk | hk | hk | hk | hk | hk
  · refine ⟨_, g, 63, rfl, ?_, enters_of Tryz.func63 (by kernel_rfl) rfl, ?_⟩
    · rw [hk]; intro W; kernel_rfl
    · rw [hk]; exact ft0 g d ao cap at_ an ca cn w ks N hm hsz hS
  · refine ⟨_, g, 75, rfl, ?_, enters_of Tryz.func75 (by kernel_rfl) rfl, ?_⟩
    · rw [hk]; intro W; kernel_rfl
    · rw [hk]; exact ft1 g d ao cap at_ an ca cn w ks N hm hsz hS
  · refine ⟨_, g, 82, rfl, ?_, enters_of Tryz.func82 (by kernel_rfl) rfl, ?_⟩
    · rw [hk]; intro W; kernel_rfl
    · rw [hk, show fitsI 2 d.n d.text d.names ks = (numbered d.n d.text d.names 1 50 && (decide (d.n ≤ (ks.length : Int)) && (takesAll 3 (ks.take d.n.toNat) 1 50 && takesAll 2 (ks.drop d.n.toNat) 1 50))) from rfl]
      exact ft2 g d ao cap at_ an ca cn w ks N hm hsz hS
  · refine ⟨_, g, 88, rfl, ?_, enters_of Tryz.func88 (by kernel_rfl) rfl, ?_⟩
    · rw [hk]; intro W; kernel_rfl
    · rw [hk]; exact ft3 g d ao cap at_ an ca cn w ks N hm hsz hS
  · refine ⟨_, g, 91, rfl, ?_, enters_of Tryz.func91 (by kernel_rfl) rfl, ?_⟩
    · rw [hk]; intro W; kernel_rfl
    · rw [hk]; exact ft4 g d ao cap at_ an ca cn w ks N hm hsz hS
  · refine ⟨_, g, 94, rfl, ?_, enters_of Tryz.func94 (by kernel_rfl) rfl, ?_⟩
    · rw [hk]; intro W; kernel_rfl
    · rw [hk]; exact ft5 g d ao cap at_ an ca cn w ks N hm hsz hS
  · refine ⟨_, g, 97, rfl, ?_, enters_of Tryz.func97 (by kernel_rfl) rfl, ?_⟩
    · rw [hk]; intro W; kernel_rfl
    · rw [hk]; exact ft6 g d ao cap at_ an ca cn w ks N hm hsz hS
  · refine ⟨_, g, 100, rfl, ?_, enters_of Tryz.func100 (by kernel_rfl) rfl, ?_⟩
    · rw [hk]; intro W; kernel_rfl
    · rw [hk]; exact ft7 g d ao cap at_ an ca cn w ks N hm hsz hS
  · refine ⟨_, g, 103, rfl, ?_, enters_of Tryz.func103 (by kernel_rfl) rfl, ?_⟩
    · rw [hk]; intro W; kernel_rfl
    · rw [hk]; exact ft8 g d ao cap at_ an ca cn w ks N hm hsz hS
  · refine ⟨_, g, 106, rfl, ?_, enters_of Tryz.func106 (by kernel_rfl) rfl, ?_⟩
    · rw [hk]; intro W; kernel_rfl
    · rw [hk]; exact ft9 g d ao cap at_ an ca cn w ks N hm hsz hS
  · refine ⟨_, g, 109, rfl, ?_, enters_of Tryz.func109 (by kernel_rfl) rfl, ?_⟩
    · rw [hk]; intro W; kernel_rfl
    · rw [hk]; exact ft10 g d ao cap at_ an ca cn w ks N hm hsz hS
  · refine ⟨_, g, 140, rfl, ?_, enters_of Tryz.func140 (by kernel_rfl) rfl, ?_⟩
    · rw [hk]; intro W; kernel_rfl
    · rw [hk]; exact ftW g d ao cap at_ an ca cn w ks N hm hsz hS
  · refine ⟨_, g, 140, rfl, ?_, enters_of Tryz.func140 (by kernel_rfl) rfl, ?_⟩
    · rw [hk]; intro W; kernel_rfl
    · rw [hk]; exact ftW g d ao cap at_ an ca cn w ks N hm hsz hS
  · refine ⟨_, g, 140, rfl, ?_, enters_of Tryz.func140 (by kernel_rfl) rfl, ?_⟩
    · rw [hk]; intro W; kernel_rfl
    · rw [hk]; exact ftW g d ao cap at_ an ca cn w ks N hm hsz hS
  · refine ⟨_, g, 112, rfl, ?_, enters_of Tryz.func112 (by kernel_rfl) rfl, ?_⟩
    · rw [hk]; intro W; kernel_rfl
    · have e : fitsI 14 d.n d.text d.names ks = (numbered d.n d.text d.names (-9223372036854775808) 9223372036854775807 && holds [] ks) := by
        show (decide (d.text.length = 0) && (decide (d.names.length = 0) && holds [] ks)) = _
        unfold numbered
        rw [decide_eq_true (show -9223372036854775808 ≤ d.n from hwf.1), decide_eq_true (show d.n ≤ 9223372036854775807 from hwf.2), Bool.true_and, Bool.true_and, Bool.and_assoc]
      rw [hk, e]; exact ft14 g d ao cap at_ an ca cn w ks N hm hsz hS
  · refine ⟨_, g, 115, rfl, ?_, enters_of Tryz.func115 (by kernel_rfl) rfl, ?_⟩
    · rw [hk]; intro W; kernel_rfl
    · rw [hk]; exact ft15 g d ao cap at_ an ca cn w ks N hm hsz hS
  · refine ⟨_, g, 118, rfl, ?_, enters_of Tryz.func118 (by kernel_rfl) rfl, ?_⟩
    · rw [hk]; intro W; kernel_rfl
    · rw [hk]; exact ft16 g d ao cap at_ an ca cn w ks N hm hsz hS
  · refine ⟨_, g, 121, rfl, ?_, enters_of Tryz.func121 (by kernel_rfl) rfl, ?_⟩
    · rw [hk]; intro W; kernel_rfl
    · rw [hk]; exact ft17 g d ao cap at_ an ca cn w ks N hm hsz hS
  · refine ⟨_, g, 124, rfl, ?_, enters_of Tryz.func124 (by kernel_rfl) rfl, ?_⟩
    · rw [hk]; intro W; kernel_rfl
    · rw [hk]; exact ft18 g d ao cap at_ an ca cn w ks N hm hsz hS
  · refine ⟨_, g, 127, rfl, ?_, enters_of Tryz.func127 (by kernel_rfl) rfl, ?_⟩
    · rw [hk]; intro W; kernel_rfl
    · rw [hk]; exact ft19 g d ao cap at_ an ca cn w ks N hm hsz hS
  · refine ⟨_, g, 130, rfl, ?_, enters_of Tryz.func130 (by kernel_rfl) rfl, ?_⟩
    · rw [hk]; intro W; kernel_rfl
    · rw [hk, show fitsI 20 d.n d.text d.names ks = (named d.n d.text d.names 0 0 && (decide (ks.length % 2 = 0) && takesAll 2 ks 0 6000)) from rfl]
      exact ft20 g d ao cap at_ an ca cn w ks N hm hsz hS
  · refine ⟨_, g, 134, rfl, ?_, enters_of Tryz.func134 (by kernel_rfl) rfl, ?_⟩
    · rw [hk]; intro W; kernel_rfl
    · rw [hk]; exact ft21 g d ao cap at_ an ca cn w ks N hm hsz hS hk
  · refine ⟨_, g, 134, rfl, ?_, enters_of Tryz.func134 (by kernel_rfl) rfl, ?_⟩
    · rw [hk]; intro W; kernel_rfl
    · have hne : ¬ d.kind = 21 := by omega
      rw [hk]; exact ftQ g d ao cap at_ an ca cn w ks N hm hsz hS hne
  · refine ⟨_, g, 134, rfl, ?_, enters_of Tryz.func134 (by kernel_rfl) rfl, ?_⟩
    · rw [hk]; intro W; kernel_rfl
    · have hne : ¬ d.kind = 21 := by omega
      rw [hk]; exact ftQ g d ao cap at_ an ca cn w ks N hm hsz hS hne
  · refine ⟨_, g, 137, rfl, ?_, enters_of Tryz.func137 (by kernel_rfl) rfl, ?_⟩
    · rw [hk]; intro W; kernel_rfl
    · rw [hk]; exact ftU g d ao cap at_ an ca cn w ks N hm hsz hS
  · refine ⟨_, g, 137, rfl, ?_, enters_of Tryz.func137 (by kernel_rfl) rfl, ?_⟩
    · rw [hk]; intro W; kernel_rfl
    · rw [hk]; exact ftU g d ao cap at_ an ca cn w ks N hm hsz hS
  · refine ⟨_, g, 78, rfl, ?_, enters_of Tryz.func78 (by kernel_rfl) rfl, ?_⟩
    · rw [hk]; intro W; kernel_rfl
    · rw [hk]; exact ft26 g d ao cap at_ an ca cn w ks N hm hsz hS

end Go.Proofs.YtccnjmnafkfjdaaGreat.vt
