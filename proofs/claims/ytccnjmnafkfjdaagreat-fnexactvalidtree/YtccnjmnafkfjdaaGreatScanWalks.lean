import Derived.Test.YtccnjmnafkfjdaaGreatScanLists
import Derived.Test.YtccnjmnafkfjdaaGreatBytesWalks
namespace Go.Proofs.YtccnjmnafkfjdaaGreat.scn
open Go.RowKit Go.Proofs.YtccnjmnafkfjdaaGreat.bts

theorem ret_int {k : IntKind} {a b : Int} (h : a = b) : Ending.returned (.int k a) = .returned (.int k b) := by rw [h]
theorem ret_two {a b c d : Int} (p : Int × Int) (h : p = (a, b)) (e : c = p.1) (e' : d = p.2) : Ending.returned (.tuple #[.int .i64 a, .int .i64 b]) = .returned (.tuple #[.int .i64 c, .int .i64 d]) := by
  subst h; subst e; subst e'; rfl

theorem fin2 {zs : List Int} {a b : Int} (h : scan zs = (a, b)) : Ending.returned (.tuple #[.int .i64 a, .int .i64 b]) = .returned (.tuple #[.int .i64 (scan zs).1, .int .i64 (scan zs).2]) := by rw [h]
theorem digv_bad {z base : Int} (h : base ≤ digv z) (_h16 : base ≤ 16) : hexv z < 0 ∨ base ≤ hexv z := by
  unfold digv at h; split at h <;> omega
theorem digv_good {z base : Int} (h : ¬ base ≤ digv z) (h16 : base ≤ 16) : ¬ hexv z < 0 ∧ ¬ base ≤ hexv z ∧ digv z = hexv z := by
  unfold digv at h ⊢; split at h <;> rename_i h2
  · omega
  · exact ⟨h2, h, by rw [if_neg h2]⟩

end Go.Proofs.YtccnjmnafkfjdaaGreat.scn
