import Derived.Test.YtpkgibdbkmddiaaDoorThImpl
import Derived.Test.YtpkgibdbkmddiaaDoorChkSpecA
namespace Go.Proofs.YtpkgibdbkmddiaaDoor.th
open Go.RowKit Go.Proofs.YtpkgibdbkmddiaaDoor.bts Go.Proofs.YtpkgibdbkmddiaaDoor.pg Go.Proofs.YtpkgibdbkmddiaaDoor.chk Go.Proofs.YtpkgibdbkmddiaaDoor.sv

set_option maxRecDepth 100000 in
set_option maxHeartbeats 1000000 in
theorem l1copy_any (v : Value) (l : List Int) (w : World) (hr : RdV w v l) (hs : l.length ≤ 1048576) :
    Calls Tryd.prog 56 #[v] w fun e w' => ∃ av cv, e = .returned (.slice av l.length cv) ∧ w'.ownsRow w.heap.size 5 1 (.slice av l.length cv) l.length (bcells l) ∧ Below w.heap.size w w' := by
  obtain ⟨ao, cap, rfl, _, hr, _⟩ := hr
  have HR : Hid (Rd w ao l) := hr
  have h0 : w.ownsRow w.heap.size 5 1 (.slice none 0 0) 0 (bcells []) := World.ownsRow_nil _ _ _ _
  clear hr
  go_enter Tryd.func56, Tryd.ntmps56
  go_wp2_with (at_builtin; refine wpList_append_bytes rfl _ _ rfl w.heap.size none 0 0 [] rfl h0 ao l.length cap l rfl rfl HR.out (by omega) (Nat.le_refl _) ?_; intro av' cv' w2 hA; have HA : Hid _ := hA; clear hA)
  go_returns
  refine ⟨av', cv', by first | rfl | (rw [Nat.zero_add]; rfl), ?_, (Below.refl w.heap.size w).grown HA.out.grow (Nat.le_refl _) (fun k hk => by cases hk)⟩
  have := HA.out.own
  rw [Nat.zero_add] at this
  exact this

set_option maxRecDepth 100000 in
set_option maxHeartbeats 1000000 in
theorem l5last_any (aD : Option Addr) (cD : Nat) (code : List In) (t : Nat) (w : World) (hd : RdI w aD code) (hN : code.length ≤ 1048576) (ht : t < code.length) (hx : ∀ i, i < code.length → XOk code.length (code.getD i in0)) :
    Calls Tryd.prog 34 #[.slice aD code.length cD, .int .i64 (t : Int)] w fun e w' => e = .returned (.int .i64 (lastF code t : Nat)) ∧ w' = w := by
  have HX : Hid (∀ i, i < code.length → XOk code.length (code.getD i in0)) := hx
  have HD : Hid (RdI w aD code) := hd
  obtain ⟨N, hNN⟩ : ∃ N, N = code.length := ⟨_, rfl⟩
  have HN : Hid (code.length = N) := hNN.symm
  have HL : Hid (lst code (N + 1) t t = lastF code t) := by show _ = _; rw [hNN]; rfl
  rw [← hNN] at hN ht ⊢
  clear hd hx hNN
  go_enter Tryd.func34, Tryd.ntmps34
  go_wp2
  go_loop [5, 6] (fun x i => ∃ (k a : Nat), k ≤ N + 1 ∧ a < N ∧ i = .int .i64 (k : Int) ∧ x = .int .i64 (a : Int) ∧ Hid (lst code (N + 1 - k) a t = lastF code t)) (fun _ i => N + 1 - (intOf i).toNat)
  case atStart => exact ⟨0, t, by omega, ht, rfl, rfl, HL.out⟩
  case round =>
    obtain ⟨k, a, hk, ha, rfl, rfl, HK⟩ := hrel
    by_cases hlt : k ≤ N
    · have hlt' : (k : Int) ≤ (N : Int) := by omega
      have ha' : (a : Int) < (N : Int) := by omega
      have hac : a < code.length := by rw [HN.out]; exact ha
      obtain ⟨b, off, rfl, c0, c1, _⟩ := HD.out a hac
      have hj := (HX.out a hac).jmp
      rw [HN.out] at hj
      have HS : Hid (lst code (N + 1 - k) a t = if (code.getD a in0).op = 18 then lst code (N + 1 - (k + 1)) (stp code a) t else a) := by
        show _ = _
        rw [show N + 1 - k = (N + 1 - (k + 1)) + 1 by omega, lst]
      by_cases ho : (code.getD a in0).op = 18
      · obtain ⟨hA0, hA1⟩ := hj (by omega) (by omega)
        rw [if_pos ho] at HS
        have hst : stp code a = (code.getD a in0).a.toNat := rfl
        rw [ho] at c0
        generalize (code.getD a in0).a = az at c1 hA0 hA1 hst
        obtain ⟨a2, rfl⟩ : ∃ a2 : Nat, az = (a2 : Int) := ⟨az.toNat, by omega⟩
        have hst2 : stp code a = a2 := by rw [hst]; simp
        rw [hst2] at HS
        have HK2 : Hid (lst code (N + 1 - (k + 1)) a2 t = lastF code t) := by show _ = _; rw [← HS.out]; exact HK.out
        clear ho hj hst hst2
        go_wp2
        go_round
        case rel => exact ⟨k + 1, a2, by omega, by omega, by go_num, rfl, HK2.out⟩
        case measure => simp [intOf]; omega
      · rw [if_neg ho] at HS
        have on : ((code.getD a in0).op == 18) = false := by simpa using ho
        have HE : Hid (lastF code t = a) := by show _ = _; rw [← HK.out, HS.out]
        generalize (code.getD a in0).op = op at c0 on
        clear ho hj
        go_wp2
        go_returns
        exact ⟨by rw [HE.out]; rfl, rfl⟩
    · have hkn : k = N + 1 := by omega
      have HE : Hid (lastF code t = t) := by show _ = _; rw [← HK.out, hkn, Nat.sub_self]; rfl
      clear hkn
      go_wp2
      go_returns
      exact ⟨by rw [HE.out]; rfl, rfl⟩
end Go.Proofs.YtpkgibdbkmddiaaDoor.th
