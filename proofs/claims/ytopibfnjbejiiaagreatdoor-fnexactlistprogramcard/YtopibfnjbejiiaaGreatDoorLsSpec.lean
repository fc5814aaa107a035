import Derived.Test.YtopibfnjbejiiaaGreatDoorLsLine
import Derived.Test.YtopibfnjbejiiaaGreatDoorLsList
import Derived.Test.YtopibfnjbejiiaaGreatDoorChkSpec
namespace Go.Proofs.YtopibfnjbejiiaaGreatDoor.ls
open Go.RowKit Go.Proofs.YtopibfnjbejiiaaGreatDoor.bts Go.Proofs.YtopibfnjbejiiaaGreatDoor.pg Go.Proofs.YtopibfnjbejiiaaGreatDoor.chk Go.Proofs.YtopibfnjbejiiaaGreatDoor.sv Go.Proofs.YtopibfnjbejiiaaGreatDoor.fmt Go.Proofs.YtopibfnjbejiiaaGreatDoor.quo

theorem own_hold {w w' : World} {B n : Nat} {v : Value} {us : List Value} (h : w.ownsRow B 5 1 v n us) (hb : Below w.heap.size w w') : w'.ownsRow B 5 1 v n us := own_far h (fun b e => hb.block b (h.lt b e).2)
theorem ap_post {wz W w' : World} {B n m cv' : Nat} {v : Value} {us : List Value} {zs : List Int} {av' : Option Addr} (hb : Below wz.heap.size wz W) (hO : wz.ownsRow B 5 1 v n us) (hA : Ap W B v zs av' m cv' w') (hB : B ≤ wz.heap.size) :
    Below B wz w' ∧ (∀ (g : Nat) (cs : Array Value) (T : TypeId) (fr : Nat × Nat), wz.heap[g]? = some (.cells cs T fr) → T ≠ 5 → w'.heap[g]? = some (.cells cs T fr)) ∧ w'.ownsRow B 5 1 (.slice av' m cv') m (bcells zs) :=
  ⟨(hb.mono hB).trans (hA.below (own_hold hO hb) (Nat.le_trans hB hb.size)), fun g _ _ _ h hT => hA.block (own_hold hO hb) ((hb.block g (heap_lt h)).trans h) hT, hA.own⟩
theorem by_one {z : Int} (h0 : 0 ≤ z) (h1 : z ≤ 255) : By [z] := fun y hy => by
  simp only [List.mem_cons, List.not_mem_nil, or_false] at hy
  subst hy
  exact ⟨h0, h1⟩
theorem by_nil : By [] := fun _ h => by cases h
theorem by_lit {c : Cn} (h : Bts c.text) : By (litL c) := by
  unfold litL
  split
  · exact By.append (xs := [32]) (by_one (by omega) (by omega)) (quote_byte fun i _ => h i)
  · exact by_dc _
theorem by_num (x : In) : By (numL x) := by
  unfold numL
  refine By.append ?_ ?_
  all_goals
    split
    · exact by_nil
    · exact by_dc _
theorem by_ins {ks : List Cn} (h : ∀ i, i < ks.length → Bts (ks.getD i cn0).text) (k : Nat) (x : In) : By (insL ks k x) := by
  unfold insL
  refine (((((by_one (by omega) (by omega)).append (by_dc _)).append (by_one (by omega) (by omega))).append (by_ib _)).append ?_).append (by_one (by omega) (by omega))
  split
  · refine by_lit ?_
    by_cases hl : x.a.toNat < ks.length
    · exact h _ hl
    · rw [List.getD_eq_getElem?_getD, List.getElem?_eq_none (by omega)]
      intro i
      simp [cn0]
  · exact by_num x
theorem by_cap (c : Cp) : By (capL c) := by
  unfold capL
  refine By.append ?_ (by_fi _)
  split
  · intro z hz; simp only [List.mem_cons, List.not_mem_nil, or_false] at hz; omega
  · intro z hz; simp only [List.mem_cons, List.not_mem_nil, or_false] at hz; omega
/-- A function's line, up to its first j captures. -/
def hdL (i : Nat) (f : Pr) (j : Nat) : List Int := [102, 117, 110, 99, 116, 105, 111, 110] ++ dc i ++ dc f.params ++ dc f.slots ++ fl capL f.caps j
theorem by_hd (i : Nat) (f : Pr) : ∀ j, j ≤ f.caps.length → By (hdL i f j)
  | 0, _ => by
    unfold hdL
    rw [fl_zero]
    refine By.append ((By.append (By.append ?_ (by_dc _)) (by_dc _)).append (by_dc _)) by_nil
    intro z hz; simp only [List.mem_cons, List.not_mem_nil, or_false] at hz; omega
  | j + 1, hj => by
    have h := by_hd i f j (by omega)
    unfold hdL at h ⊢
    rw [fl_succ cp0 (by omega), ← List.append_assoc]
    exact h.append (by_cap _)
theorem hd_head (i : Nat) (f : Pr) : headL i f = hdL i f f.caps.length ++ [10] := rfl
theorem st_dc (z : Int) : st (dc z) = ⟨#[32]⟩ ++ st (fi z) := by rw [show dc z = [32] ++ fi z from rfl, st_append]; rfl
theorem hd_zero (i : Nat) (f : Pr) : st (hdL i f 0) = ⟨#[102, 117, 110, 99, 116, 105, 111, 110, 32]⟩ ++ st (fi i) ++ ⟨#[32]⟩ ++ st (fi f.params) ++ ⟨#[32]⟩ ++ st (fi f.slots) := by
  unfold hdL
  rw [fl_zero, List.append_nil, st_append, st_append, st_append, st_dc, st_dc, st_dc, show (ByteArray.mk #[102, 117, 110, 99, 116, 105, 111, 110, 32]) = st [102, 117, 110, 99, 116, 105, 111, 110] ++ ⟨#[32]⟩ from rfl]
  simp [ByteArray.append_assoc]
theorem hd_succ (i : Nat) (f : Pr) {j : Nat} (h : j < f.caps.length) : st (hdL i f (j + 1)) = st (hdL i f j) ++ st (capL (f.caps.getD j cp0)) := by
  unfold hdL
  rw [fl_succ cp0 h, ← List.append_assoc, st_append]
theorem line_any (k op az bz : Nat) (ak ap : Option Addr) (ck np cp : Nat) (ks : List Cn) (w : World) (hk : RdKV w (.slice ak ks.length ck) ks) (hN : Num ks) (hx : ∀ i, i < ks.length → (ks.getD i cn0).text.length ≤ 5000) (h0 : op = 0 → az < ks.length) (hop : op < 28) (ha : az < 2097152) (hbz : bz < 2097152) (hkk : k ≤ 1048576) :
    Calls Tryz.prog 17 #[.agg #[.slice ak ks.length ck, .slice ap np cp], .int .i64 (k : Int), .agg #[.int .i64 (op : Int), .int .i64 (az : Int), .int .i64 (bz : Int)]] w fun e w' => e = .returned (.string (st (insL ks k ⟨(op : Int), (az : Int), (bz : Int)⟩))) ∧ Below w.heap.size w w' := by
  by_cases hz : op = 0
  · subst hz
    exact line_const k az bz ak ap ck np cp ks w hk hN hx (h0 rfl) hkk
  · exact line_other k op az bz ak ap ck np cp ks w hk hN hx hz hop ha hbz hkk

set_option maxRecDepth 100000 in
set_option maxHeartbeats 8000000 in
theorem specList_yes (p : Pg) (uk up : Value) (w : World) (hk : RdKV w uk p.consts) (hp : RdPV w up p.protos) (hs : sizePg p ≤ 1048576) (hN : Num p.consts) (hn : Sound p) :
    Calls Tryz.prog 5 #[.agg #[uk, up]] w fun e w' => ∃ av cv, e = .returned (.slice av (listing p).length cv) ∧ w'.ownsRow w.heap.size 5 1 (.slice av (listing p).length cv) (listing p).length (bcells (listing p)) ∧ Below w.heap.size w w' := by
  have SP : Hid (∀ W, Below w.heap.size w W → Calls Tryz.prog 15 #[.agg #[uk, up]] W fun e w' => e = .returned (.bool true) ∧ Below W.heap.size W w') := fun W hW => specCheck_any p uk up W (hk.below hW) (hp.below hW) hs true ⟨fun _ => hn, fun _ => rfl⟩
  have HSM : Hid (SmallG p) := sound_small hn hs
  have HTX : Hid (∀ i, i < p.consts.length → (p.consts.getD i cn0).text.length ≤ 5000) := HSM.out.texts
  have HSO : Hid (Sound p) := hn
  have HNU : Hid (Num p.consts) := hN
  have HK : Hid (∀ W, Below w.heap.size w W → RdKV W uk p.consts) := fun W h => hk.below h
  have HBT : Hid (∀ i, i < p.consts.length → Bts (p.consts.getD i cn0).text) := fun i hi => by
    obtain ⟨_, _, _, _, rK⟩ := hk
    obtain ⟨_, _, _, _, _, _, _, ht⟩ := rK i hi
    obtain ⟨_, _, _, _, _, hB⟩ := ht
    exact hB
  have HRP : Hid (RdPV w up p.protos) := hp
  obtain ⟨ak, ck, rfl, _, _⟩ := hk
  obtain ⟨ap, cp, rfl, _, _⟩ := hp
  have hnp : p.protos.length ≤ 1048576 := by unfold sizePg sizeP at hs; omega
  have HSZ : Hid (sizePg p ≤ 1048576) := hs
  have HLP : Hid (∀ k, k ≤ p.protos.length → (protL p.consts p.protos k).length ≤ 30000000000) := protL_top p hs HSM.out hN
  have HCD : Hid (∀ i, i < p.protos.length → (p.protos.getD i pr0).caps.length ≤ 1048576 ∧ (p.protos.getD i pr0).code.length ≤ 1048576) := fun i hi => by
    have hz := sumsF_at (f := sizePr) pr0 hi
    have h2 := HSZ.out
    unfold sizePg sizeP at h2
    have e : sizePr (p.protos.getD i pr0) = (p.protos.getD i pr0).caps.length + (p.protos.getD i pr0).code.length := rfl
    exact ⟨by omega, by omega⟩
  clear hn hs hN
  go_enter Tryz.func5, Tryz.ntmps5
  go_wp2_with fail
  refine (SP.out _ (by go_grown)).mono ?_
  rintro e w1 ⟨rfl, b1⟩
  have z0 := cellB (cellNew (w := w) (cs := #[.slice ak p.consts.length ck, .slice ap p.protos.length cp]) (t := 32) (j := 0) (v := .slice ak p.consts.length ck) rfl) b1
  have z1 := cellB (cellNew (w := w) (cs := #[.slice ak p.consts.length ck, .slice ap p.protos.length cp]) (t := 32) (j := 1) (v := .slice ap p.protos.length cp) rfl) b1
  have HB1 : Hid (Below w.heap.size w w1) := Below.trans (by go_grown) (b1.mono (by simp))
  have hz1 := World.block_lt_of_cell? _ _ z0
  simp only at hz1
  clear b1 SP
  have HPC : Hid (∀ W, Below (w.heap.size + 1) w1 W → W.cell? ⟨w.heap.size, 0, none⟩ = some (.slice ak p.consts.length ck) ∧ W.cell? ⟨w.heap.size, 1, none⟩ = some (.slice ap p.protos.length cp)) := fun W h => ⟨cellL z0 h (by omega), cellL z1 h (by omega)⟩
  have HBW : Hid (∀ W, Below (w.heap.size + 1) w1 W → Below w.heap.size w W) := fun W h => HB1.out.trans (h.mono (by omega))
  go_wp2_with fail
  go_loopw [3, 4] (fun v x wr => ∃ (k m cv : Nat) (av : Option Addr), k ≤ p.protos.length ∧ x = .int .i64 (k : Int) ∧ v = .slice av m cv ∧ Hid (wr.ownsRow (w.heap.size + 1) 5 1 (.slice av m cv) m (bcells (protL p.consts p.protos k))) ∧ Hid (Below (w.heap.size + 1) w1 wr)) (fun _ x _ => p.protos.length - (intOf x).toNat)
  case atStart => exact ⟨0, 0, 0, none, by omega, rfl, rfl, World.ownsRow_nil _ _ _ _, Below.refl _ _⟩
  case round =>
    clear z0 z1
    obtain ⟨k, m, cv, av, hk, rfl, rfl, HO, HF⟩ := hrel
    have lp := HLP.out k hk
    have hml : (protL p.consts p.protos k).length = m := own_len HO.out
    have HML : Hid ((protL p.consts p.protos k).length = m) := hml
    have hsz : w.heap.size + 1 ≤ wr.heap.size := Nat.le_trans (by omega) HF.out.size
    obtain ⟨y0, y1⟩ := HPC.out wr HF.out
    have hkI : (k : Int) < 2097152 := by omega
    have hk0 : 0 ≤ (k : Int) := by omega
    by_cases hlt : k < p.protos.length
    · obtain ⟨_, _, eP, _, rP⟩ := HRP.out
      simp only [Value.slice.injEq] at eP
      obtain ⟨rfl, -, rfl⟩ := eP
      obtain ⟨b, off, uc, ud, rfl, c0', c1', c2', c3', hc, hd⟩ := rP k hlt
      have c0 := cellB c0' (HBW.out wr HF.out)
      have c1 := cellB c1' (HBW.out wr HF.out)
      have c2 := cellB c2' (HBW.out wr HF.out)
      have c3 := cellB c3' (HBW.out wr HF.out)
      clear rP c0' c1' c2' c3'
      have HS : Hid (protL p.consts p.protos (k + 1) = protL p.consts p.protos k ++ headL k (p.protos.getD k pr0) ++ codeL p.consts (p.protos.getD k pr0).code (p.protos.getD k pr0).code.length) := rfl
      have hsm := HSM.out.protos k hlt
      have HSC : Hid (∀ j, j < (p.protos.getD k pr0).code.length → ((p.protos.getD k pr0).code.getD j in0).op = 0 → ((p.protos.getD k pr0).code.getD j in0).a.toNat < p.consts.length) := fun j hj h => sound_const HSO.out hlt hj h
      obtain ⟨hcl, hdl⟩ := HCD.out k hlt
      generalize p.protos.getD k pr0 = d at c0 c1 hc hd HS hsm hcl hdl HSC
      have HRC : Hid (RdCV w uc d.caps) := hc
      have HRD : Hid (RdIV w ud d.code) := hd
      obtain ⟨aC, cC, rfl, _, _⟩ := hc
      obtain ⟨aD, cD, rfl, _, _⟩ := hd
      have p0 := hsm.p0
      have p1 := hsm.p1
      have s0 := hsm.s0
      have s1 := hsm.s1
      have lh := headL_len k d (by omega) hsm
      have HSI : Hid (∀ j, j < d.code.length → SmallI (d.code.getD j in0)) := hsm.code
      have HCS : Hid (∀ j, j < d.caps.length → SmallC (d.caps.getD j cp0)) := hsm.caps
      have HLC : Hid (∀ j, j ≤ d.code.length → (codeL p.consts d.code j).length ≤ 20100 * j) := codeL_len p.consts HNU.out HTX.out d.code hdl hsm.code
      have HLH : Hid (∀ j, j ≤ d.caps.length → (hdL k d j).length ≤ 74 + 26 * j) := fun j hj => by
        have h1 := fl_len (f := capL) cp0 (fun i hi => capL_len _ (hsm.caps i hi)) j hj
        have h2 := dc_len (k : Int) (by omega) (by omega)
        have h3 := dc_len d.params (by omega) (by omega)
        have h4 := dc_len d.slots (by omega) (by omega)
        unfold hdL
        simp only [List.length_append, List.length_cons, List.length_nil]
        omega
      have HH0 : Hid (st (hdL k d 0) = ⟨#[102, 117, 110, 99, 116, 105, 111, 110, 32]⟩ ++ st (fi k) ++ ⟨#[32]⟩ ++ st (fi d.params) ++ ⟨#[32]⟩ ++ st (fi d.slots)) := hd_zero k d
      have HHS : Hid (∀ j, j < d.caps.length → st (hdL k d (j + 1)) = st (hdL k d j) ++ st (capL (d.caps.getD j cp0))) := fun j hj => hd_succ k d hj
      have HBH : Hid (∀ j, j ≤ d.caps.length → By (hdL k d j)) := by_hd k d
      have HHE : Hid (headL k d = hdL k d d.caps.length ++ [10]) := hd_head k d
      clear hsm
      obtain ⟨fp, fs, fca, fco⟩ := d
      simp only at c0 c1 c2 c3 HS HSC HSI HLC HRD HRC hcl hdl p0 p1 s0 s1 lh HCS HH0 HHS HLH HBH HHE
      generalize hdL k ⟨fp, fs, fca, fco⟩ = hl at HLH HH0 HHS HBH HHE
      have hlt' : (k : Int) < (p.protos.length : Int) := by omega
      obtain ⟨W4, hW4⟩ : ∃ W4, W4 = wr.alloc (.cells #[.int .i64 fp, .int .i64 fs, .slice aC fca.length cC, .slice aD fco.length cD] 45) := ⟨_, rfl⟩
      have HB4 : Hid (Below (w.heap.size + 1) w1 W4) := by rw [hW4]; exact HF.out.alloc hsz _
      have HO4 : Hid (W4.ownsRow (w.heap.size + 1) 5 1 (.slice av m cv) m (bcells (protL p.consts p.protos k))) := by rw [hW4]; exact own_hold HO.out ((Below.refl _ _).alloc (Nat.le_refl _) _)
      have HG4 : Hid (W4.heap[wr.heap.size]? = some (.cells #[.int .i64 fp, .int .i64 fs, .slice aC fca.length cC, .slice aD fco.length cD] 45 (0, 0))) := by rw [hW4]; exact heap_alloc_new wr _
      have HS4 : Hid (W4.heap.size = wr.heap.size + 1) := by rw [hW4]; show _ = _; simp
      have HGC : Hid (∀ W : World, W.heap[wr.heap.size]? = some (.cells #[.int .i64 fp, .int .i64 fs, .slice aC fca.length cC, .slice aD fco.length cD] 45 (0, 0)) → W.cell? ⟨wr.heap.size, 0, none⟩ = some (.int .i64 fp) ∧ W.cell? ⟨wr.heap.size, 1, none⟩ = some (.int .i64 fs) ∧ W.cell? ⟨wr.heap.size, 2, none⟩ = some (.slice aC fca.length cC) ∧ W.cell? ⟨wr.heap.size, 3, none⟩ = some (.slice aD fco.length cD)) := fun W h => ⟨by rw [cell_of_row _ _ _ _ _ _ h]; rfl, by rw [cell_of_row _ _ _ _ _ _ h]; rfl, by rw [cell_of_row _ _ _ _ _ _ h]; rfl, by rw [cell_of_row _ _ _ _ _ _ h]; rfl⟩
      have HG : Hid (∀ W, Below W4.heap.size W4 W → W.heap[wr.heap.size]? = some (.cells #[.int .i64 fp, .int .i64 fs, .slice aC fca.length cC, .slice aD fco.length cD] 45 (0, 0))) := fun W h => (h.block _ (by rw [HS4.out]; omega)).trans HG4.out
      have DEC : Hid (∀ (z : Int), 0 ≤ z → z < 2097152 → ∀ W, Below W4.heap.size W4 W → Calls Tryz.prog 16 #[.int .i64 z] W fun e w' => e = .returned (.string (st (fi z))) ∧ Hid (Below W4.heap.size W4 w')) := fun z h0 h1 W h => (l5dec_any z (by omega) (by omega) W).mono fun _ _ ⟨k1, k2⟩ => ⟨k1, h.trans (k2.mono h.size)⟩
      have zk : (st (fi (k : Int))).size ≤ 21 := by rw [st_size]; exact fi_len _ (by omega) (by omega)
      have zp : (st (fi fp)).size ≤ 21 := by rw [st_size]; exact fi_len _ (by omega) (by omega)
      have zs : (st (fi fs)).size ≤ 21 := by rw [st_size]; exact fi_len _ (by omega) (by omega)
      have f1 : ¬ 9223372036854775807 < 9 + (st (fi (k : Int))).size := by omega
      have f2 : ¬ 9223372036854775807 < 9 + (st (fi (k : Int))).size + 1 := by omega
      have f3 : ¬ 9223372036854775807 < 9 + (st (fi (k : Int))).size + 1 + (st (fi fp)).size := by omega
      have f4 : ¬ 9223372036854775807 < 9 + (st (fi (k : Int))).size + 1 + (st (fi fp)).size + 1 := by omega
      have f5 : ¬ 9223372036854775807 < 9 + (st (fi (k : Int))).size + 1 + (st (fi fp)).size + 1 + (st (fi fs)).size := by omega
      have HC4 : Hid (∀ W, Below W4.heap.size W4 W → W.cell? ⟨wr.heap.size, 0, none⟩ = some (.int .i64 fp) ∧ W.cell? ⟨wr.heap.size, 1, none⟩ = some (.int .i64 fs)) := fun W h => ⟨(HGC.out W (HG.out W h)).1, (HGC.out W (HG.out W h)).2.1⟩
      obtain ⟨W5, hW5⟩ : ∃ W5, W5 = W4 := ⟨_, rfl⟩
      rw [hW4] at DEC HC4
      have HWX : Hid (W4 = wr.alloc (.cells #[.int .i64 fp, .int .i64 fs, .slice aC fca.length cC, .slice aD fco.length cD] 45)) := hW4
      clear hW4 hW5
      go_wp2_with fail
      go_region_held3 (fun W => W.cell? ⟨wr.heap.size, 0, none⟩ = some (.int .i64 fp) ∧ W.cell? ⟨wr.heap.size, 1, none⟩ = some (.int .i64 fs)) (first | (refine HC4.out _ ?_; repeat (first | exact Below.refl _ _ | exact HB.out | refine Below.drew ?_ | refine bel_drewN ?_ _))) (first | (go_at_call 16; with_reducible refine Calls.mono (DEC.out _ (by assumption) (by assumption) _ (by repeat (first | exact Below.refl _ _ | exact HB.out | refine Below.drew ?_ | refine bel_drewN ?_ _))) ?_; rintro e w5 ⟨rfl, HB⟩))
      rw [← HWX.out] at HB DEC
      have HL0 : Hid (⟨#[102, 117, 110, 99, 116, 105, 111, 110, 32]⟩ ++ st (fi k) ++ ⟨#[32]⟩ ++ st (fi fp) ++ ⟨#[32]⟩ ++ st (fi fs) = st (hl 0)) := HH0.out.symm
      generalize (⟨#[102, 117, 110, 99, 116, 105, 111, 110, 32]⟩ : ByteArray) ++ st (fi (k : Int)) ++ ⟨#[32]⟩ ++ st (fi fp) ++ ⟨#[32]⟩ ++ st (fi fs) = L0 at HL0 ⊢
      obtain ⟨_, _, d2, d3⟩ := HGC.out w5 (HG.out w5 HB.out)
      clear f1 f2 f3 f4 f5 zk zp zs c0 c1 c2 c3 HC4
      go_wp2_with fail
      go_loopw [6, 7] (fun v x wq => ∃ (j : Nat) (L : ByteArray), j ≤ fca.length ∧ x = .int .i64 (j : Int) ∧ v = .string L ∧ Hid (L = st (hl j)) ∧ Hid (Below W4.heap.size W4 wq)) (fun _ x _ => fca.length - (intOf x).toNat)
      case atStart => exact ⟨0, L0, by omega, rfl, rfl, HL0.out, HB.out⟩
      case round =>
        rename World => wq
        clear d2 d3 HL0 HB
        obtain ⟨j, L, hj, rfl, rfl, HL, HQ⟩ := hrel
        have lj := HLH.out j hj
        have zl : L.size ≤ 30000000 := by rw [HL.out, st_size]; omega
        obtain ⟨d0, d1, d2, d3⟩ := HGC.out wq (HG.out wq HQ.out)
        clear d0 d1
        by_cases hjl : j < fca.length
        · obtain ⟨_, _, eC, _, rC⟩ := HRC.out
          simp only [Value.slice.injEq] at eC
          obtain ⟨rfl, -, rfl⟩ := eC
          obtain ⟨bc, oc, rfl, g0', g1'⟩ := rC j hjl
          have HBq : Hid (Below w.heap.size w wq) := (HBW.out W4 HB4.out).trans (HQ.out.mono (HBW.out W4 HB4.out).size)
          have g0 := cellB g0' HBq.out
          have g1 := cellB g1' HBq.out
          clear rC g0' g1'
          have HSJ := HHS.out j hjl
          obtain ⟨i0, i1⟩ := HCS.out j hjl
          generalize fca.getD j cp0 = c at g0 g1 HSJ i0 i1
          obtain ⟨ub, iz⟩ := c
          simp only at g0 g1 i0 i1
          have HSX : Hid (st (hl (j + 1)) = st (hl j) ++ st (capL ⟨ub, iz⟩)) := HSJ
          clear HSJ
          have zi : (st (fi iz)).size ≤ 21 := by rw [st_size]; exact fi_len _ (by omega) (by omega)
          have hjl' : (j : Int) < (fca.length : Int) := by omega
          have q1 : ¬ 9223372036854775807 < 3 + (st (fi iz)).size := by omega
          have q2 : ¬ 9223372036854775807 < L.size + (3 + (st (fi iz)).size) := by omega
          have q3 : ¬ 9223372036854775807 < 5 + (st (fi iz)).size := by omega
          have q4 : ¬ 9223372036854775807 < L.size + (5 + (st (fi iz)).size) := by omega
          cases ub
          · have EX : Hid (st (capL ⟨false, iz⟩) = ⟨#[32, 115, 108, 111, 116]⟩ ++ st (fi iz)) := by show _ = _; rw [show capL ⟨false, iz⟩ = [32, 115, 108, 111, 116] ++ fi iz from rfl, st_append]; rfl
            go_wp2_with fail
            refine (DEC.out iz i0 i1 wq HQ.out).mono ?_
            rintro e w6 ⟨rfl, HB6⟩
            go_wp2
            go_roundw
            case rel => exact ⟨j + 1, _, by omega, by go_num, rfl, by show _ = _; rw [HSX.out, EX.out, HL.out], HB6.out⟩
            case measure => simp [intOf]; omega
          · have EX : Hid (st (capL ⟨true, iz⟩) = ⟨#[32, 117, 112]⟩ ++ st (fi iz)) := by show _ = _; rw [show capL ⟨true, iz⟩ = [32, 117, 112] ++ fi iz from rfl, st_append]; rfl
            go_wp2_with fail
            refine (DEC.out iz i0 i1 wq HQ.out).mono ?_
            rintro e w6 ⟨rfl, HB6⟩
            go_wp2
            go_roundw
            case rel => exact ⟨j + 1, _, by omega, by go_num, rfl, by show _ = _; rw [HSX.out, EX.out, HL.out], HB6.out⟩
            case measure => simp [intOf]; omega
        · have hjn : j = fca.length := by omega
          rw [hjn] at HL lj
          have HOq : Hid (wq.ownsRow (w.heap.size + 1) 5 1 (.slice av m cv) m (bcells (protL p.consts p.protos k))) := own_hold HO4.out HQ.out
          have HGq : Hid (wq.heap[wr.heap.size]? = some (.cells #[.int .i64 fp, .int .i64 fs, .slice aC fca.length cC, .slice aD fco.length cD] 45 (0, 0))) := HG.out wq HQ.out
          have HFq : Hid (Below (w.heap.size + 1) w1 wq) := HB4.out.trans (HQ.out.mono (Nat.le_trans (by omega) HB4.out.size))
          have hsq : w.heap.size + 1 ≤ wq.heap.size := Nat.le_trans (by omega) HFq.out.size
          have hby := HBH.out fca.length (Nat.le_refl _)
          obtain ⟨hN, hhN⟩ : ∃ n, n = (hl fca.length).length := ⟨_, rfl⟩
          have HHN : Hid ((hl fca.length).length = hN) := hhN.symm
          rw [← hhN] at lj
          clear hjn hj hhN
          have hY : protL p.consts p.protos (k + 1) = protL p.consts p.protos k ++ hl fca.length ++ [10] ++ codeL p.consts fco fco.length := by rw [HS.out, HHE.out]; simp
          have HY : Hid (protL p.consts p.protos (k + 1) = protL p.consts p.protos k ++ hl fca.length ++ [10] ++ codeL p.consts fco fco.length) := hY
          generalize protL p.consts p.protos k = Y at HOq HY hml lp HML
          generalize hl fca.length = H at HL HY hby HHN
          clear hY
          have HBY : Hid (By H) := hby
          clear hby
          have hTne : (45 : TypeId) ≠ 5 := by decide
          have hbb : m + hN ≤ 140737488355328 := by omega
          have hbb2 : m + hN + 1 ≤ 140737488355328 := by omega
          have hsw1 : w.heap.size + 1 ≤ w1.heap.size := by omega
          go_wp2_with (first | (at_builtin; refine wpList_append_bytes rfl _ _ rfl (w.heap.size + 1) av1 (m + hN) cv1 (Y ++ H) rfl HO8.out (some ⟨w7.heap.size, 0, none⟩) 1 1 [10] rfl rfl HR8.out hbb2 hsq8 ?_; intro av2 cv2 w8 hA2; have hA3 := ap_app hA2; have HF8 : Hid (Below (w.heap.size + 1) w1 w8) := (HF7.out.alloc hsq7 _).trans (hA3.below HO8.out hsq8); have HO9 : Hid (w8.ownsRow (w.heap.size + 1) 5 1 (.slice av2 (m + hN + 1) cv2) (m + hN + 1) (bcells (Y ++ H ++ [10]))) := hA3.own; have HG8 : Hid (w8.heap[wr.heap.size]? = some (.cells #[.int .i64 fp, .int .i64 fs, .slice aC fca.length cC, .slice aD fco.length cD] 45 (0, 0))) := hA3.block HO8.out HG7b.out hTne; clear hA2 hA3) | (at_builtin; refine wpList_append_str rfl _ _ rfl (w.heap.size + 1) av m cv Y rfl HOq.out hN H L HL.out rfl HHN.out HBY.out hbb hsq ?_; intro av1 cv1 w7 hA; have HF7 : Hid (Below (w.heap.size + 1) w1 w7) := HFq.out.trans (hA.below HOq.out hsq); have HO7 : Hid (w7.ownsRow (w.heap.size + 1) 5 1 (.slice av1 (m + hN) cv1) (m + hN) (bcells (Y ++ H))) := hA.own; have HG7 : Hid (w7.heap[wr.heap.size]? = some (.cells #[.int .i64 fp, .int .i64 fs, .slice aC fca.length cC, .slice aD fco.length cD] 45 (0, 0))) := hA.block HOq.out HGq.out hTne; have hsq7 : w.heap.size + 1 ≤ w7.heap.size := Nat.le_trans hsw1 HF7.out.size; have HO8 : Hid ((w7.alloc (.cells #[.int .u8 10] 5)).ownsRow (w.heap.size + 1) 5 1 (.slice av1 (m + hN) cv1) (m + hN) (bcells (Y ++ H))) := own_hold HO7.out ((Below.refl _ _).alloc (Nat.le_refl _) _); have HR8 : Hid (Rd (w7.alloc (.cells #[.int .u8 10] 5)) (some ⟨w7.heap.size, 0, none⟩) [10]) := rd_one w7 10; have hsq8 : w.heap.size + 1 ≤ (w7.alloc (.cells #[.int .u8 10] 5)).heap.size := Nat.le_trans hsq7 (by simp); have HG7b : Hid ((w7.alloc (.cells #[.int .u8 10] 5)).heap[wr.heap.size]? = some (.cells #[.int .i64 fp, .int .i64 fs, .slice aC fca.length cC, .slice aD fco.length cD] 45 (0, 0))) := (heap_alloc_old _ _ (heap_lt HG7.out)).trans HG7.out; clear hA))
          go_loopw [3, 8] (fun v x wq => ∃ (j m' cv' : Nat) (av' : Option Addr), j ≤ fco.length ∧ x = .int .i64 (j : Int) ∧ v = .slice av' m' cv' ∧ Hid (wq.ownsRow (w.heap.size + 1) 5 1 (.slice av' m' cv') m' (bcells (Y ++ H ++ [10] ++ codeL p.consts fco j))) ∧ Hid (Below (w.heap.size + 1) w1 wq) ∧ Hid (wq.heap[wr.heap.size]? = some (.cells #[.int .i64 fp, .int .i64 fs, .slice aC fca.length cC, .slice aD fco.length cD] 45 (0, 0)))) (fun _ x _ => fco.length - (intOf x).toNat)
          case atStart => exact ⟨0, _, cv2, av2, by omega, rfl, rfl, by rw [show codeL p.consts fco 0 = [] from rfl, List.append_nil]; exact HO9.out, HF8.out, HG8.out⟩
          case round =>
            rename World => wz
            clear HO9 HF8 HG8 HO8 HR8 HG7b HO7 HG7 HF7 d2 d3
            obtain ⟨j2, m2, cv3, av3, hj2, rfl, rfl, HOz, HFz, HGz⟩ := hrel
            have lj2 := HLC.out j2 hj2
            have hm2 := own_len HOz.out
            simp only [List.length_append, List.length_cons, List.length_nil] at hm2
            have hHN := HHN.out
            have hszz : w.heap.size + 1 ≤ wz.heap.size := Nat.le_trans hsw1 HFz.out.size
            obtain ⟨_, _, _, d3⟩ := HGC.out wz HGz.out
            obtain ⟨u0, u1⟩ := HPC.out wz HFz.out
            by_cases hl2 : j2 < fco.length
            · obtain ⟨_, _, eD, _, rD⟩ := HRD.out
              simp only [Value.slice.injEq] at eD
              obtain ⟨rfl, -, rfl⟩ := eD
              obtain ⟨bd, od, rfl, e0, e1, e2⟩ := rD j2 hl2
              clear rD
              have HSJ : Hid (codeL p.consts fco (j2 + 1) = codeL p.consts fco j2 ++ insL p.consts j2 (fco.getD j2 in0)) := rfl
              have lI := insL_len p.consts HNU.out HTX.out j2 (by omega) _ (HSI.out j2 hl2)
              obtain ⟨o0, o1, a0, a1, b0, b1⟩ := HSI.out j2 hl2
              have hcst := HSC.out j2 hl2
              have hbi := by_ins HBT.out j2 (fco.getD j2 in0)
              generalize fco.getD j2 in0 = x at e0 e1 e2 HSJ o0 o1 a0 a1 b0 b1 hcst hbi lI
              obtain ⟨opz, azz, bzz⟩ := x
              simp only at e0 e1 e2 o0 o1 a0 a1 b0 b1 hcst
              obtain ⟨op, rfl⟩ : ∃ z : Nat, opz = (z : Int) := ⟨opz.toNat, by omega⟩
              obtain ⟨az, rfl⟩ : ∃ z : Nat, azz = (z : Int) := ⟨azz.toNat, by omega⟩
              obtain ⟨bz, rfl⟩ : ∃ z : Nat, bzz = (z : Int) := ⟨bzz.toNat, by omega⟩
              have LN : Hid (∀ W, Below wz.heap.size wz W → Calls Tryz.prog 17 #[.agg #[.slice ak p.consts.length ck, .slice (some ⟨b, off, none⟩) p.protos.length cp], .int .i64 (j2 : Int), .agg #[.int .i64 (op : Int), .int .i64 (az : Int), .int .i64 (bz : Int)]] W fun e w' => e = .returned (.string (st (insL p.consts j2 ⟨(op : Int), (az : Int), (bz : Int)⟩))) ∧ Hid (Below wz.heap.size wz w')) := fun W h =>
                (line_any j2 op az bz ak _ ck _ cp p.consts W (HK.out W ((HBW.out wz HFz.out).trans (h.mono (HBW.out wz HFz.out).size))) HNU.out HTX.out (fun e => by subst e; have := hcst rfl; omega) (by omega) (by omega) (by omega) (by omega)).mono fun _ _ ⟨k1, k2⟩ => ⟨k1, h.trans (k2.mono h.size)⟩
              generalize insL p.consts j2 ⟨(op : Int), (az : Int), (bz : Int)⟩ = I at LN HSJ hbi lI
              obtain ⟨sL, hsL⟩ : ∃ s, s = st I := ⟨_, rfl⟩
              rw [← hsL] at LN
              have HSL : Hid (sL = st I) := hsL
              have HBI : Hid (By I) := hbi
              obtain ⟨nI, hnI⟩ : ∃ n, n = I.length := ⟨_, rfl⟩
              have HNI : Hid (I.length = nI) := hnI.symm
              rw [← hnI] at lI
              have hbz : m2 + nI ≤ 140737488355328 := by omega
              clear hcst hbi hsL hnI o0 o1 a0 a1 b0 b1
              have hl2' : (j2 : Int) < (fco.length : Int) := by omega
              have HSW : Hid (∀ W, Below (w.heap.size + 1) w1 W → W.heap[wr.heap.size]? = some (.cells #[.int .i64 fp, .int .i64 fs, .slice aC fca.length cC, .slice (some ⟨bd, od, none⟩) fco.length cD] 45 (0, 0)) → W.cell? ⟨w.heap.size, 0, none⟩ = some (.slice ak p.consts.length ck) ∧ W.cell? ⟨w.heap.size, 1, none⟩ = some (.slice (some ⟨b, off, none⟩) p.protos.length cp) ∧ W.cell? ⟨wr.heap.size, 3, none⟩ = some (.slice (some ⟨bd, od, none⟩) fco.length cD) ∧ W.cell? ⟨bd, od + j2 * 3, none⟩ = some (.int .i64 (op : Int)) ∧ W.cell? ⟨bd, od + j2 * 3 + 1, none⟩ = some (.int .i64 (az : Int)) ∧ W.cell? ⟨bd, od + j2 * 3 + 2, none⟩ = some (.int .i64 (bz : Int))) := fun W h1 h2 => ⟨(HPC.out W h1).1, (HPC.out W h1).2, (HGC.out W h2).2.2.2, cellB e0 (HBW.out W h1), cellB e1 (HBW.out W h1), cellB e2 (HBW.out W h1)⟩
              have HCZ : Hid (∀ W, Below wz.heap.size wz W → W.cell? ⟨w.heap.size, 0, none⟩ = some (.slice ak p.consts.length ck) ∧ W.cell? ⟨w.heap.size, 1, none⟩ = some (.slice (some ⟨b, off, none⟩) p.protos.length cp) ∧ W.cell? ⟨wr.heap.size, 3, none⟩ = some (.slice (some ⟨bd, od, none⟩) fco.length cD) ∧ W.cell? ⟨bd, od + j2 * 3, none⟩ = some (.int .i64 (op : Int)) ∧ W.cell? ⟨bd, od + j2 * 3 + 1, none⟩ = some (.int .i64 (az : Int)) ∧ W.cell? ⟨bd, od + j2 * 3 + 2, none⟩ = some (.int .i64 (bz : Int))) := fun W h => HSW.out W (HFz.out.trans (h.mono hszz)) ((h.block _ (heap_lt HGz.out)).trans HGz.out)
              have e0z := cellB e0 (HBW.out wz HFz.out)
              clear e0 e1 e2
              go_wp2_with fail
              go_region_held3 (fun W => W.cell? ⟨w.heap.size, 0, none⟩ = some (.slice ak p.consts.length ck) ∧ W.cell? ⟨w.heap.size, 1, none⟩ = some (.slice (some ⟨b, off, none⟩) p.protos.length cp) ∧ W.cell? ⟨wr.heap.size, 3, none⟩ = some (.slice (some ⟨bd, od, none⟩) fco.length cD) ∧ W.cell? ⟨bd, od + j2 * 3, none⟩ = some (.int .i64 (op : Int)) ∧ W.cell? ⟨bd, od + j2 * 3 + 1, none⟩ = some (.int .i64 (az : Int)) ∧ W.cell? ⟨bd, od + j2 * 3 + 2, none⟩ = some (.int .i64 (bz : Int))) (first | exact HS10.out | (refine HCZ.out _ ?_; repeat (first | exact Below.refl _ _ | exact HB9.out | refine Below.drew ?_ | refine bel_drewN ?_ _))) (first | (go_at_call 17; with_reducible refine Calls.mono (LN.out _ (by repeat (first | exact Below.refl _ _ | exact HB9.out | refine Below.drew ?_ | refine bel_drewN ?_ _))) ?_; rintro e w9 ⟨rfl, HB9⟩) | (refine step_append_str (by rfl) _ _ (by rfl) (w.heap.size + 1) av3 m2 cv3 (Y ++ H ++ [10] ++ codeL p.consts fco j2) (by rfl) (own_hold HOz.out (by repeat (first | exact Below.refl _ _ | exact HB9.out | refine Below.drew ?_ | refine bel_drewN ?_ _))) nI I sL HSL.out (by rfl) HNI.out HBI.out hbz (Nat.le_trans hszz (Below.size (by repeat (first | exact Below.refl _ _ | exact HB9.out | refine Below.drew ?_ | refine bel_drewN ?_ _)))) ?_; intro av4 cv4 w10 hA; have hP := ap_post (by repeat (first | exact Below.refl _ _ | exact HB9.out | refine Below.drew ?_ | refine bel_drewN ?_ _)) HOz.out hA hszz; have HF10 : Hid (Below (w.heap.size + 1) w1 w10) := HFz.out.trans hP.1; have HG10 : Hid (w10.heap[wr.heap.size]? = some (.cells #[.int .i64 fp, .int .i64 fs, .slice aC fca.length cC, .slice (some ⟨bd, od, none⟩) fco.length cD] 45 (0, 0))) := hP.2.1 _ _ _ _ HGz.out hTne; have HO10 : Hid (w10.ownsRow (w.heap.size + 1) 5 1 (.slice av4 (m2 + nI) cv4) (m2 + nI) (bcells (Y ++ H ++ [10] ++ codeL p.consts fco j2 ++ I))) := hP.2.2; have HS10 : Hid (w10.cell? ⟨w.heap.size, 0, none⟩ = some (.slice ak p.consts.length ck) ∧ w10.cell? ⟨w.heap.size, 1, none⟩ = some (.slice (some ⟨b, off, none⟩) p.protos.length cp) ∧ w10.cell? ⟨wr.heap.size, 3, none⟩ = some (.slice (some ⟨bd, od, none⟩) fco.length cD) ∧ w10.cell? ⟨bd, od + j2 * 3, none⟩ = some (.int .i64 (op : Int)) ∧ w10.cell? ⟨bd, od + j2 * 3 + 1, none⟩ = some (.int .i64 (az : Int)) ∧ w10.cell? ⟨bd, od + j2 * 3 + 2, none⟩ = some (.int .i64 (bz : Int))) := HSW.out w10 HF10.out HG10.out; clear hA hP))
              go_wp2
              go_roundw
              case rel => exact ⟨j2 + 1, _, cv4, av4, by omega, by go_num, rfl, by rw [HSJ.out, ← List.append_assoc]; exact HO10.out, HF10.out, HG10.out⟩
              case measure => simp [intOf]; omega
            · have hjn2 : j2 = fco.length := by omega
              rw [hjn2] at HOz
              have HOy : Hid (wz.ownsRow (w.heap.size + 1) 5 1 (.slice av3 m2 cv3) m2 (bcells (protL p.consts p.protos (k + 1)))) := by show World.ownsRow _ _ _ _ _ _ _; rw [HY.out]; exact HOz.out
              clear hjn2 hj2 HOz
              go_wp2
              go_roundw
              case rel => exact ⟨k + 1, m2, cv3, av3, by omega, by go_num, rfl, HOy.out, HFz.out⟩
              case measure => simp [intOf]; omega
    · have hkn : k = p.protos.length := by omega
      rw [hkn] at HO
      have HO2 : Hid (wr.ownsRow (w.heap.size + 1) 5 1 (.slice av m cv) m (bcells (listing p))) := HO.out
      have hm2 : (listing p).length = m := own_len HO2.out
      have HM2 : Hid ((listing p).length = m) := hm2
      clear hkn hml hm2 HML
      go_wp2
      go_returns
      refine ⟨av, cv, by rw [HM2.out]; rfl, ?_, HBW.out wr HF.out⟩
      rw [HM2.out]
      exact own_weaken HO2.out (by omega)
end Go.Proofs.YtopibfnjbejiiaaGreatDoor.ls
