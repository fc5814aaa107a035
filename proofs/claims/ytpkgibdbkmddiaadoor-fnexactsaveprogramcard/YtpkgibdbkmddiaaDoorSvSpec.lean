import Derived.Test.YtpkgibdbkmddiaaDoorSvSpecB
import Derived.Test.YtpkgibdbkmddiaaDoorSvImplB
import Derived.Test.YtpkgibdbkmddiaaDoorChkSpec
namespace Go.Proofs.YtpkgibdbkmddiaaDoor.sv
open Go.RowKit Go.Proofs.YtpkgibdbkmddiaaDoor.bts Go.Proofs.YtpkgibdbkmddiaaDoor.pg Go.Proofs.YtpkgibdbkmddiaaDoor.chk

/-- A call answers these bytes, in memory of its own. -/
def Bytes (w : World) (zs : List Int) (e : Ending) (w' : World) : Prop := ∃ av cv, e = .returned (.slice av zs.length cv) ∧ w'.ownsRow w.heap.size 5 1 (.slice av zs.length cv) zs.length (bcells zs) ∧ Below w.heap.size w w'

theorem ans_no {b : Bool} {p : Pg} (h : b = false) : ans b p = [] := by subst h; rfl
theorem ans_yes {b : Bool} {p : Pg} (h : b = true) : ans b p = save p := by subst h; rfl

theorem implSave_any (p : Pg) (uk up : Value) (w : World) (hk : RdKV w uk p.consts) (hp : RdPV w up p.protos) (hs : sizePg p ≤ 1048576) (hS : Shp w) (hw0 : 0 < w.heap.size) (bS : Bool) (hb : bS = true ↔ Sound p) :
    Calls Tryd.prog 8 #[.agg #[uk, up]] w (Bytes w (ans bS p)) := by
  cases bS with
  | false =>
    refine (implSave_no p uk up w hk hp hs hS hw0 (fun h => by have := hb.2 h; cases this)).mono ?_
    rintro e w' ⟨rfl, h⟩
    exact ⟨none, 0, rfl, World.ownsRow_nil _ _ _ _, h⟩
  | true =>
    exact (implSave_yes p uk up w hk hp hs hS hw0 (hb.1 rfl)).mono fun e w' h => h

set_option maxRecDepth 100000 in
set_option maxHeartbeats 1000000 in
theorem specSave_any (p : Pg) (uk up : Value) (w : World) (hk : RdKV w uk p.consts) (hp : RdPV w up p.protos) (hs : sizePg p ≤ 1048576) (bS : Bool) (hb : bS = true ↔ Sound p) :
    Calls Tryd.prog 6 #[.agg #[uk, up]] w (Bytes w (ans bS p)) := by
  have SP : Hid (∀ W, Below w.heap.size w W → Calls Tryd.prog 19 #[.agg #[uk, up]] W fun e w' => e = .returned (.bool bS) ∧ Below W.heap.size W w') := fun W hW => specCheck_any p uk up W (hk.below hW) (hp.below hW) hs bS hb
  have SL : Hid (bS = true → ∀ W, Below w.heap.size w W → Calls Tryd.prog 20 #[.agg #[uk, up]] W fun e w' => ∃ av cv, e = .returned (.slice av (save p).length cv) ∧ w'.ownsRow W.heap.size 5 1 (.slice av (save p).length cv) (save p).length (bcells (save p)) ∧ Below W.heap.size W w') := fun h W hW => l5save_any p uk up W (hk.below hW) (hp.below hW) hs (sound_small (hb.1 h) hs)
  obtain ⟨ak, ck, rfl, _, _⟩ := hk
  obtain ⟨ap, cp, rfl, _, _⟩ := hp
  clear hb hs
  cases bS with
  | false =>
    go_enter Tryd.func6, Tryd.ntmps6
    go_wp2_with fail
    refine (SP.out _ (by go_grown)).mono ?_
    rintro e w1 ⟨rfl, b1⟩
    go_wp2
    go_returns
    exact ⟨none, 0, rfl, World.ownsRow_nil _ _ _ _, Below.trans (by go_grown) (b1.mono (by simp))⟩
  | true =>
    go_enter Tryd.func6, Tryd.ntmps6
    go_wp2_with fail
    refine (SP.out _ (by go_grown)).mono ?_
    rintro e w1 ⟨rfl, b1⟩
    have z0 := cellB (cellNew (w := w) (cs := #[.slice ak p.consts.length ck, .slice ap p.protos.length cp]) (t := 32) (j := 0) (v := .slice ak p.consts.length ck) rfl) b1
    have z1 := cellB (cellNew (w := w) (cs := #[.slice ak p.consts.length ck, .slice ap p.protos.length cp]) (t := 32) (j := 1) (v := .slice ap p.protos.length cp) rfl) b1
    have HB1 : Hid (Below w.heap.size w w1) := Below.trans (by go_grown) (b1.mono (by simp))
    clear b1
    go_wp2_with fail
    refine (SL.out trivial w1 HB1.out).mono ?_
    rintro e w2 ⟨av, cv, rfl, ho, hb⟩
    go_wp2
    go_returns
    exact ⟨av, cv, rfl, own_weaken ho HB1.out.size, HB1.out.trans (hb.mono HB1.out.size)⟩

theorem Save_len (p : Pg) (hs : sizePg p ≤ 1048576) (bS : Bool) (hb : bS = true ↔ Sound p) : (ans bS p).length ≤ 100000000000000 := by
  cases bS with
  | false => simp [ans]
  | true =>
    have hsm := sound_small (hb.1 rfl) hs
    have hnk : p.consts.length ≤ 1048576 := by unfold sizePg sizeK at hs; omega
    have hnp : p.protos.length ≤ 1048576 := by unfold sizePg sizeP at hs; omega
    have h1 := fl_len (f := kc) (C := 5013) cn0 (fun i hi => kc_len _ (hsm.texts i hi)) p.consts.length (Nat.le_refl _)
    have h2 := fl_len (f := fc) (C := 11534352) pr0 (fun i hi => by
      have hz := sumsF_at (f := sizePr) pr0 hi
      have e : sizePr (p.protos.getD i pr0) = (p.protos.getD i pr0).caps.length + (p.protos.getD i pr0).code.length := rfl
      unfold sizePg sizeP at hs
      exact fc_len _ (by omega) (by omega)) p.protos.length (Nat.le_refl _)
    have l1 := var_len p.consts.length
    have l2 := var_len p.protos.length
    show (save p).length ≤ _
    unfold save
    simp only [List.length_append, List.length_cons, List.length_nil]
    omega
end Go.Proofs.YtpkgibdbkmddiaaDoor.sv
