import Derived.Test.YtdffdkaligkkbaaLexImpl
import Derived.BigQuiet
import Derived.Deep.QuietTactic
namespace Go.Proofs.Ytdffdkaligkkbaa.lex
open Go.RowKit Go.Proofs.Ytdffdkaligkkbaa.bts Go.Proofs.Ytdffdkaligkkbaa.scn Go.Proofs.Ytdffdkaligkkbaa.lit

/-- The kind of a word or name. -/
def wkind (s : ByteArray) : Int := if isIn words s then 4 else 1

theorem toList_len (bs : ByteArray) : bs.data.toList.length = bs.size := Array.length_toList
theorem toList_loop (bs : ByteArray) : ∀ (j i : Nat) (r : List UInt8), bs.size - i ≤ j → ByteArray.toList.loop bs i r = r.reverse ++ bs.data.toList.drop i := by
  intro j
  induction j with
  | zero =>
    intro i r h
    rw [ByteArray.toList.loop, if_neg (by omega), List.drop_of_length_le (by rw [toList_len]; omega), List.append_nil]
  | succ j ih =>
    intro i r h
    by_cases hi : i < bs.size
    · have hs := toList_len bs
      rw [ByteArray.toList.loop, if_pos hi, ih (i + 1) _ (by omega), List.drop_eq_getElem_cons (l := bs.data.toList) (i := i) (by omega), List.reverse_cons, List.append_assoc]
      have e : bs.get! i = bs.data.toList[i]'(by omega) := by
        have hi' : i < bs.data.size := hi
        show bs.data[i]! = _
        rw [getElem!_pos bs.data i hi', Array.getElem_toList]
      rw [e]; rfl
    · rw [ByteArray.toList.loop, if_neg hi, List.drop_of_length_le (by rw [toList_len]; omega), List.append_nil]
theorem toList_mk (bs : ByteArray) : bs.toList = bs.data.toList := by
  unfold ByteArray.toList
  rw [toList_loop bs bs.size 0 [] (by omega)]; rfl
theorem wkind_hit {s : ByteArray} {l : List UInt8} (h : (s.toList == l) = true) (hl : l ∈ words.map (fun x => x.data.toList)) : wkind s = 4 := by
  unfold wkind isIn
  rw [if_pos]
  rw [List.any_eq_true]
  obtain ⟨x, hx, e⟩ := List.mem_map.mp hl
  refine ⟨x, hx, ?_⟩
  rw [toList_mk x, e]
  simp only [beq_iff_eq] at h ⊢
  exact h.symm
theorem wkind_miss {s : ByteArray} (h : ∀ l ∈ words.map (fun x => x.data.toList), (s.toList == l) = false) : wkind s = 1 := by
  unfold wkind isIn
  rw [if_neg]
  rw [List.any_eq_true]
  rintro ⟨x, hx, e⟩
  have := h _ (List.mem_map_of_mem hx)
  rw [← toList_mk x] at this
  simp only [beq_iff_eq] at e
  rw [e] at this
  simp at this

theorem conv_at (b off n cap : Nat) (zs : List Int) (w : World) (hcell : ∀ i, i < zs.length → w.cell? ⟨b, off + i, none⟩ = some (.int .u8 (zs.getD i 0))) (h : n ≤ zs.length) :
    (convert 25 9 (.slice (some ⟨b, off, none⟩) n cap)).run Try.prog w = .ok (.string (strOfNums (part zs 0 n))) w :=
  run_convert_bytes_arg w 25 5 Try.underlying25 Try.underlying5 b off n cap (part zs 0 n) (part_len (by omega)) (fun i hi => by rw [part_getD hi, Nat.zero_add]; exact hcell i (by omega)) 9 Try.underlying9

set_option maxHeartbeats 2000000 in
set_option maxRecDepth 100000 in
theorem readWord_any (b off cap n : Nat) (zs : List Int) (w : World) (hcell : ∀ i, i < zs.length → w.cell? ⟨b, off + i, none⟩ = some (.int .u8 (zs.getD i 0))) (hl : zs.length = n) (hcap : n ≤ cap) (hm : cap ≤ 1048576) :
    Calls Try.prog 38 #[.slice (some ⟨b, off, none⟩) n cap] w fun e w' => e = .returned (.tuple #[.int .i64 (wkind (strOfNums (part zs 0 (span alnum zs 0)))), .int .i64 (span alnum zs 0)]) ∧ w' = w := by
  have R := runSize_any b off cap n zs w hcell hl (by omega)
  have hle := span_le alnum zs 0
  have CV := conv_at b off (span alnum zs 0) cap zs w hcell (by omega)
  obtain ⟨m, hmm⟩ : ∃ m, m = span alnum zs 0 := ⟨_, rfl⟩
  rw [← hmm] at R hle CV ⊢
  obtain ⟨s, hs⟩ : ∃ s, s = strOfNums (part zs 0 m) := ⟨_, rfl⟩
  rw [← hs] at CV ⊢
  have hmn : m ≤ n := by omega
  clear hle hs hmm hcell hl
  go_enter Try.func38, Try.ntmps38
  go_wp2_with fail
  refine R.mono ?_
  rintro e w' ⟨rfl, hw⟩
  replace hw := hw.symm
  subst hw
  clear R
  go_wp2_with fail
  all_goals
    first
    | (exfalso; simp_all; done)
    | (go_ret2; refine ⟨ret_two (_, _) rfl ?_ rfl, rfl⟩; exact wkind_hit (by assumption) (by decide))
    | (go_ret2; refine ⟨ret_two (_, _) rfl ?_ rfl, rfl⟩; refine wkind_miss ?_; intro l hl; simp only [words, List.map_cons, List.map_nil, List.mem_cons, List.not_mem_nil, or_false] at hl; rcases hl with rfl | rfl | rfl | rfl | rfl | rfl | rfl | rfl | rfl | rfl | rfl | rfl | rfl | rfl | rfl | rfl | rfl | rfl | rfl | rfl <;> assumption)
end Go.Proofs.Ytdffdkaligkkbaa.lex
