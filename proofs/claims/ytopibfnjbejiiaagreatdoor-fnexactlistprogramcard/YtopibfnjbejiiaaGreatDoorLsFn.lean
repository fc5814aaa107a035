import Derived.Test.YtopibfnjbejiiaaGreatDoorLsSpec
import Derived.Test.YtopibfnjbejiiaaGreatDoorLsList
namespace Go.Proofs.YtopibfnjbejiiaaGreatDoor.ls
open Go.RowKit Go.Proofs.YtopibfnjbejiiaaGreatDoor.bts Go.Proofs.YtopibfnjbejiiaaGreatDoor.pg Go.Proofs.YtopibfnjbejiiaaGreatDoor.chk Go.Proofs.YtopibfnjbejiiaaGreatDoor.sv Go.Proofs.YtopibfnjbejiiaaGreatDoor.fmt Go.Proofs.YtopibfnjbejiiaaGreatDoor.quo

/-- A call answers these bytes, in memory of its own. -/
def Bytes (w : World) (zs : List Int) (e : Ending) (w' : World) : Prop := ∃ av cv, e = .returned (.slice av zs.length cv) ∧ w'.ownsRow w.heap.size 5 1 (.slice av zs.length cv) zs.length (bcells zs) ∧ Below w.heap.size w w'
/-- The listing, or nothing. -/
def ans (b : Bool) (p : Pg) : List Int := if b then listing p else []

theorem implList_any (p : Pg) (uk up : Value) (w : World) (hk : RdKV w uk p.consts) (hp : RdPV w up p.protos) (hs : sizePg p ≤ 1048576) (hS : Shp w) (hT : Tab w) (hA : Asc w) (hN : Num p.consts) (bS : Bool) (hb : bS = true ↔ Sound p) :
    Calls Tryz.prog 7 #[.agg #[uk, up]] w (Bytes w (ans bS p)) := by
  cases bS with
  | false =>
    refine (implList_no p uk up w hk hp hs hS (fun h => by have := hb.2 h; cases this)).mono ?_
    rintro e w' ⟨rfl, h⟩
    exact ⟨none, 0, rfl, World.ownsRow_nil _ _ _ _, h⟩
  | true =>
    exact (implList_yes p uk up w hk hp hs hS hT hA hN (hb.1 rfl)).mono fun e w' h => h

set_option maxRecDepth 100000 in
set_option maxHeartbeats 1000000 in
theorem specList_no (p : Pg) (uk up : Value) (w : World) (hk : RdKV w uk p.consts) (hp : RdPV w up p.protos) (hs : sizePg p ≤ 1048576) (hn : ¬ Sound p) :
    Calls Tryz.prog 5 #[.agg #[uk, up]] w (Bytes w []) := by
  have SP : Hid (∀ W, Below w.heap.size w W → Calls Tryz.prog 15 #[.agg #[uk, up]] W fun e w' => e = .returned (.bool false) ∧ Below W.heap.size W w') := fun W hW => specCheck_any p uk up W (hk.below hW) (hp.below hW) hs false (by show _ ↔ _; simp [hn])
  obtain ⟨ak, ck, rfl, _, _⟩ := hk
  obtain ⟨ap, cp, rfl, _, _⟩ := hp
  clear hn hs
  go_enter Tryz.func5, Tryz.ntmps5
  go_wp2_with fail
  refine (SP.out _ (by go_grown)).mono ?_
  rintro e w1 ⟨rfl, b1⟩
  go_wp2
  go_returns
  exact ⟨none, 0, rfl, World.ownsRow_nil _ _ _ _, Below.trans (by go_grown) (b1.mono (by simp))⟩

theorem specList_any (p : Pg) (uk up : Value) (w : World) (hk : RdKV w uk p.consts) (hp : RdPV w up p.protos) (hs : sizePg p ≤ 1048576) (hN : Num p.consts) (bS : Bool) (hb : bS = true ↔ Sound p) :
    Calls Tryz.prog 5 #[.agg #[uk, up]] w (Bytes w (ans bS p)) := by
  cases bS with
  | false => exact specList_no p uk up w hk hp hs (fun h => by have := hb.2 h; cases this)
  | true => exact specList_yes p uk up w hk hp hs hN (hb.1 rfl)

theorem List_len (p : Pg) (hs : sizePg p ≤ 1048576) (hN : Num p.consts) (bS : Bool) (hb : bS = true ↔ Sound p) : (ans bS p).length ≤ 100000000000000 := by
  cases bS with
  | false => simp [ans]
  | true =>
    have h := listing_len p hs (sound_small (hb.1 rfl) hs) hN
    show (listing p).length ≤ _
    omega

section
variable {H : Type} {enc : TypeId × Value → H} {W : World} {held : Bool}
/-- An argument's int is one of 64 bits. -/
theorem open_intN {fuel : Nat} {v : Value} {x : DataW H × List MemPlace} (h : DataW.trod enc Tryz.prog W 0 (fun _ => true) held fuel 3 [v] = some x) : ∃ z, v = .int .i64 z ∧ -9223372036854775808 ≤ z ∧ z ≤ 9223372036854775807 := by
  obtain ⟨z, e, _, hw⟩ := DataW.trod_int Tryz.underlying3 h
  simp only [List.cons.injEq, and_true] at e
  exact ⟨z, e, bounds_i64 hw⟩
set_option maxRecDepth 100000 in
theorem open_constN {fuel : Nat} {cs : List Value} {x : DataW H × List MemPlace} (h : DataW.trod enc Tryz.prog W 0 (fun _ => true) held fuel 69 cs = some x) : ∃ (d : Cn), ∃ ut : Value, cs = [.bool d.isText, .int .i64 d.n, ut] ∧ RdV W ut d.text ∧ -9223372036854775808 ≤ d.n ∧ d.n ≤ 9223372036854775807 := by
  obtain ⟨xs, m, _, _, hl, hlen, hf⟩ := DataW.trod_struct Tryz.underlying69 h
  rw [cellsConst] at hl
  match cs, hl with
  | [v0, v1, v2], _ =>
    match xs, hlen with
    | [y0, y1, y2], _ =>
      obtain ⟨k, rfl⟩ := open_bool1 (field (o := 0) (hf 0 _ rfl) cellsBool rfl)
      obtain ⟨n, rfl, hn⟩ := open_intN (field (o := 1) (hf 1 _ rfl) cellsInt rfl)
      obtain ⟨t, ht⟩ := open_bytes (field (o := 2) (hf 2 _ rfl) cellsBys rfl)
      exact ⟨⟨k, n, t⟩, v2, rfl, ht, hn⟩
theorem open_constsN {fuel : Nat} {v : Value} {x : DataW H × List MemPlace} (h : DataW.trod enc Tryz.prog W 0 (fun _ => true) held fuel 22 [v] = some x) : ∃ l, RdKV W v l ∧ Num l := by
  have inh : Inhabited Cn := ⟨cn0⟩
  obtain ⟨l, ao, cap, e, hm, hx⟩ := open_row (c := 3) (fun (d : Cn) cs => ∃ ut : Value, cs = [.bool d.isText, .int .i64 d.n, ut] ∧ RdV W ut d.text ∧ -9223372036854775808 ≤ d.n ∧ d.n ≤ 9223372036854775807) Tryz.underlying22 cellsConst (by omega) (fun d cs ⟨_, e, _⟩ => by rw [e]; rfl) open_constN h
  have hg : ∀ i, i < l.length → l.getD i default = l.getD i cn0 := fun i hi => by simp [List.getD_eq_getElem?_getD, List.getElem?_eq_getElem hi]
  refine ⟨l, ⟨ao, cap, e, hm, fun i hi => ?_⟩, fun i hi => ?_⟩
  · obtain ⟨b, off, cs, e, ⟨ut, hd, ht, _⟩, hc⟩ := hx i hi
    rw [hg i hi] at hd ht
    subst hd
    exact ⟨b, off, ut, e, hc 0 (by omega), hc 1 (by omega), hc 2 (by omega), ht⟩
  · obtain ⟨_, _, _, _, ⟨_, _, _, hn⟩, _⟩ := hx i hi
    rw [hg i hi] at hn
    exact hn
set_option maxRecDepth 100000 in
theorem open_programN {fuel : Nat} {cs : List Value} {x : DataW H × List MemPlace} (h : DataW.trod enc Tryz.prog W 0 (fun _ => true) held fuel 25 cs = some x) : ∃ (d : Pg) (uk up : Value), cs = [uk, up] ∧ RdKV W uk d.consts ∧ RdPV W up d.protos ∧ Num d.consts := by
  obtain ⟨xs, m, _, _, hl, hlen, hf⟩ := DataW.trod_struct Tryz.underlying25 h
  rw [cellsProgram] at hl
  match cs, hl with
  | [v0, v1], _ =>
    match xs, hlen with
    | [y0, y1], _ =>
      obtain ⟨c, hc, hn⟩ := open_constsN (field (o := 0) (hf 0 _ rfl) cellsConstS rfl)
      obtain ⟨d, hd⟩ := open_protos (field (o := 1) (hf 1 _ rfl) cellsProtoS rfl)
      exact ⟨⟨c, d⟩, v0, v1, rfl, hc, hd, hn⟩
end
end Go.Proofs.YtopibfnjbejiiaaGreatDoor.ls
