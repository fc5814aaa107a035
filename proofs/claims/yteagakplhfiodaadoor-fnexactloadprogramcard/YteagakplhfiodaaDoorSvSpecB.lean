import Derived.Test.YteagakplhfiodaaDoorSvSpecA
import Derived.Test.YteagakplhfiodaaDoorPgEqB
namespace Go.Proofs.YteagakplhfiodaaDoor.sv
open Go.RowKit Go.Proofs.YteagakplhfiodaaDoor.bts Go.Proofs.YteagakplhfiodaaDoor.pg Go.Proofs.YteagakplhfiodaaDoor.chk

theorem App.cell {w w' : World} {base n cv m cv' b o : Nat} {av av' : Option Addr} {zs : List Int} {v : Value} (h : App w base av n cv zs av' m cv' w') (hb : (Value.slice av n cv).ownBlock ≠ some b) (hc : w.cell? ⟨b, o, none⟩ = some v) : w'.cell? ⟨b, o, none⟩ = some v :=
  h.grow.cell hc (fun e => hb e.symm)
theorem App.out {w w' : World} {base n cv m cv' b : Nat} {av av' : Option Addr} {zs : List Int} (h : App w base av n cv zs av' m cv' w') (hb : (Value.slice av n cv).ownBlock ≠ some b) (hl : b < w.heap.size) : (Value.slice av' m cv').ownBlock ≠ some b := by
  rcases h.lies with ⟨rfl, rfl⟩ | ⟨g, rfl, hg⟩
  · exact fun e => hb (by cases av' <;> exact e)
  · intro e
    have : g = b := by simpa [Value.ownBlock] using e
    subst this
    rcases hg with hg | hg
    · exact hb hg
    · omega
theorem own_out {w : World} {B E c n b : Nat} {v : Value} {us : List Value} (h : w.ownsRow B E c v n us) (hb : w.heap.size ≤ b) : v.ownBlock ≠ some b := fun e => by
  have := (h.lt b e).2
  omega
theorem own_old {w : World} {B E c n b : Nat} {v : Value} {us : List Value} (h : w.ownsRow B E c v n us) (hb : b < B) : v.ownBlock ≠ some b := fun e => by
  have := (h.lt b e).1
  omega
theorem own_keep {w w' : World} {B E c n : Nat} {v : Value} {us : List Value} (h : w.ownsRow B E c v n us) (hb : Below w.heap.size w w') : w'.ownsRow B E c v n us :=
  own_far h (fun b e => hb.block b (h.lt b e).2)
theorem own_lit4 (w : World) (base : Nat) (hb : base ≤ w.heap.size) : (w.alloc (.cells #[.int .u8 77, .int .u8 78, .int .u8 76, .int .u8 84] 5)).ownsRow base 5 1 (.slice (some ⟨w.heap.size, 0, none⟩) 4 4) 4 (bcells [77, 78, 76, 84]) := by
  have := World.ownsRow_lit (base := base) (e := 5) (size := 1) w #[.int .u8 77, .int .u8 78, .int .u8 76, .int .u8 84] 4 hb (by unfold maxLen; omega) rfl
  exact this

set_option maxRecDepth 100000 in
set_option maxHeartbeats 4000000 in
theorem l5save_any (p : Pg) (uk up : Value) (w : World) (hk : RdKV w uk p.consts) (hp : RdPV w up p.protos) (hs : sizePg p ≤ 1048576) (hsm : SmallG p) :
    Calls Tryd.prog 15 #[.agg #[uk, up]] w fun e w' => ∃ av cv, e = .returned (.slice av (save p).length cv) ∧ w'.ownsRow w.heap.size 5 1 (.slice av (save p).length cv) (save p).length (bcells (save p)) ∧ Below w.heap.size w w' := by
  have HSM : Hid (SmallG p) := hsm
  have HK : Hid (∀ W, Below w.heap.size w W → RdKV W uk p.consts) := fun W h => hk.below h
  have HP : Hid (∀ W, Below w.heap.size w W → RdPV W up p.protos) := fun W h => hp.below h
  obtain ⟨ak, ck, rfl, _, _⟩ := hk
  obtain ⟨ap, cp, rfl, _, _⟩ := hp
  have hnk : p.consts.length ≤ 1048576 := by unfold sizePg sizeK at hs; omega
  have hnp : p.protos.length ≤ 1048576 := by unfold sizePg sizeP at hs; omega
  have HSZ : Hid (sizePg p ≤ 1048576) := hs
  have l1 := var_len p.consts.length
  have l2 := var_len p.protos.length
  have HLK : Hid (∀ k, k ≤ p.consts.length → (fl kc p.consts k).length ≤ 5013 * k) := fl_len cn0 (fun i hi => kc_len _ (HSM.out.texts i hi))
  have HCD : Hid (∀ i, i < p.protos.length → (p.protos.getD i pr0).caps.length ≤ 1048576 ∧ (p.protos.getD i pr0).code.length ≤ 1048576) := fun i hi => by
    have hz := sumsF_at (f := sizePr) pr0 hi
    have h2 := HSZ.out
    unfold sizePg sizeP at h2
    have e : sizePr (p.protos.getD i pr0) = (p.protos.getD i pr0).caps.length + (p.protos.getD i pr0).code.length := rfl
    exact ⟨by omega, by omega⟩
  have HLP : Hid (∀ k, k ≤ p.protos.length → (fl fc p.protos k).length ≤ 11534352 * k) := fl_len pr0 (fun i hi => fc_len _ (HCD.out i hi).1 (HCD.out i hi).2)
  obtain ⟨W0, hW0⟩ : ∃ W0, W0 = w.alloc (.cells #[.slice ak p.consts.length ck, .slice ap p.protos.length cp] 26) := ⟨_, rfl⟩
  have z0 : W0.cell? ⟨w.heap.size, 0, none⟩ = some (.slice ak p.consts.length ck) := by rw [hW0]; exact cellNew rfl
  have z1 : W0.cell? ⟨w.heap.size, 1, none⟩ = some (.slice ap p.protos.length cp) := by rw [hW0]; exact cellNew rfl
  have HW0 : Hid (Below w.heap.size w W0) := by rw [hW0]; exact (Below.refl _ _).alloc (Nat.le_refl _) _
  have hsz0 : W0.heap.size = w.heap.size + 1 := by rw [hW0]; simp
  have HWX : Hid (W0 = w.alloc (.cells #[.slice ak p.consts.length ck, .slice ap p.protos.length cp] 26)) := hW0
  clear hsm hs hW0
  go_enter Tryd.func15, Tryd.ntmps15
  go_wp2_with fail
  rw [← HWX.out]
  refine (l5var_at p.consts.length _ (by omega)).mono ?_
  rintro e w1 ⟨av, cv, rfl, ho, hb⟩
  have o1 : w1.ownsRow (w.heap.size + 1) 5 1 (.slice (some ⟨w.heap.size + 1, 0, none⟩) 4 4) 4 (bcells [77, 78, 76, 84]) := by
    have := own_keep (own_lit4 W0 (w.heap.size + 1) (by omega)) hb
    rw [hsz0] at this
    exact this
  have HB1 : Hid (Below (w.heap.size + 1) W0 w1) := ((Below.refl _ _).alloc (by omega) _).trans (hb.mono (by simp; omega))
  have hs1 := HB1.out.size
  have r1 := rd_own ho
  clear ho hb
  go_wp2_with (at_builtin; refine wpList_append_bytes rfl _ _ rfl (w.heap.size + 1) _ 4 4 [77, 78, 76, 84] rfl o1 av _ cv (var p.consts.length) rfl rfl r1 (by omega) (by omega) ?_; intro av1 cv1 w2 hA; have HB2 : Hid (Below (w.heap.size + 1) W0 w2) := HB1.out.trans (hA.below o1 (by omega)); have o2 := hA.own; clear hA o1 r1)
  go_loopw [3, 4] (fun v x wr => ∃ (k m cv : Nat) (av : Option Addr), k ≤ p.consts.length ∧ x = .int .i64 (k : Int) ∧ v = .slice av m cv ∧ Hid (wr.ownsRow (w.heap.size + 1) 5 1 (.slice av m cv) m (bcells ([77, 78, 76, 84] ++ var p.consts.length ++ fl kc p.consts k))) ∧ Hid (Below (w.heap.size + 1) W0 wr)) (fun _ x _ => p.consts.length - (intOf x).toNat)
  case atStart => exact ⟨0, _, cv1, av1, by omega, rfl, rfl, by rw [fl_zero, List.append_nil]; exact o2, HB2.out⟩
  case round =>
    clear o2 HB2 HB1 hs1
    obtain ⟨k, m, cv, av, hk, rfl, rfl, HO, HB⟩ := hrel
    have lk := HLK.out k hk
    have hm : m ≤ 100000000000 := by
      have := own_len HO.out
      simp only [List.length_append, List.length_cons, List.length_nil] at this
      omega
    have hsr := HB.out.size
    have y0 := cellL z0 HB.out (by omega)
    have y1 := cellL z1 HB.out (by omega)
    have HBw : Hid (Below w.heap.size w wr) := HW0.out.trans (HB.out.mono (by omega))
    by_cases hlt : k < p.consts.length
    · obtain ⟨_, _, eK, _, rK⟩ := HK.out w (Below.refl _ _)
      simp only [Value.slice.injEq] at eK
      obtain ⟨rfl, -, rfl⟩ := eK
      obtain ⟨b, off, ut, rfl, c0', c1', c2', ht⟩ := rK k hlt
      have c0 := cellB c0' HBw.out
      have c1 := cellB c1' HBw.out
      have c2 := cellB c2' HBw.out
      clear rK c0' c1' c2'
      have HS : Hid ([77, 78, 76, 84] ++ var p.consts.length ++ fl kc p.consts (k + 1) = [77, 78, 76, 84] ++ var p.consts.length ++ fl kc p.consts k ++ kc (p.consts.getD k cn0)) := by show _ = _; rw [fl_succ cn0 hlt]; simp
      have htx := HSM.out.texts k hlt
      generalize p.consts.getD k cn0 = d at c0 c1 ht HS htx
      obtain ⟨kb, nn, tx⟩ := d
      simp only at c0 c1 ht htx
      obtain ⟨Y, hY⟩ : ∃ Y, Y = [77, 78, 76, 84] ++ var p.consts.length ++ fl kc p.consts k := ⟨_, rfl⟩
      rw [← hY] at HO HS
      have HT : Hid (∀ W, Below w.heap.size w W → RdV W ut tx) := fun W h => ht.below h
      obtain ⟨aX, cX, rfl, _, _⟩ := ht
      have hlt' : (k : Int) < (p.consts.length : Int) := by omega
      have lx := var_len tx.length
      clear hY
      have hnb := own_out HO.out (Nat.le_refl _)
      cases kb with
      | true =>
        have d2 : ((wr.alloc (.cells #[.bool true, .int .i64 nn, .slice aX tx.length cX] 40)).alloc (.cells #[.int .u8 1] 5)).cell? ⟨wr.heap.size, 2, none⟩ = some (.slice aX tx.length cX) := cellOld (cellNew rfl)
        have B0 : Hid (Below (w.heap.size + 1) W0 ((wr.alloc (.cells #[.bool true, .int .i64 nn, .slice aX tx.length cX] 40)).alloc (.cells #[.int .u8 1] 5))) := (HB.out.alloc (by omega) _).alloc (by simp; omega) _
        have o0 : Hid (((wr.alloc (.cells #[.bool true, .int .i64 nn, .slice aX tx.length cX] 40)).alloc (.cells #[.int .u8 1] 5)).ownsRow (w.heap.size + 1) 5 1 (.slice av m cv) m (bcells Y)) := (HO.out.alloc _).alloc _
        have r0 : Hid (Rd ((wr.alloc (.cells #[.bool true, .int .i64 nn, .slice aX tx.length cX] 40)).alloc (.cells #[.int .u8 1] 5)) (some ⟨wr.heap.size + 1, 0, none⟩) [1]) := by show Rd _ _ _; have := rd_one (wr.alloc (.cells #[.bool true, .int .i64 nn, .slice aX tx.length cX] 40)) 1; simpa using this
        go_wp2_with (at_builtin; refine wpList_append_bytes rfl _ _ rfl (w.heap.size + 1) av (m) cv (Y) rfl o0.out (some ⟨wr.heap.size + 1, 0, none⟩) (1) (1) ([1]) rfl (rfl) r0.out (by first | omega | (simp only [List.length_append, List.length_cons, List.length_nil]; omega)) (by first | exact (by simp; omega) | (simp; omega)) ?_; intro av101 cv101 w101 hA; have B101 : Hid (Below (w.heap.size + 1) W0 w101) := B0.out.trans (hA.below o0.out (by first | exact (by simp; omega) | (simp; omega))); have s101 : w.heap.size + 1 ≤ w101.heap.size := Nat.le_trans (by omega) B101.out.size; have n101 := hA.out hnb (by simp; omega); replace d2 := hA.cell hnb d2; have o101 : Hid (w101.ownsRow (w.heap.size + 1) 5 1 (.slice av101 (m + 1) cv101) (m + 1) (bcells (Y ++ [1]))) := hA.own; clear hA; have q : wr.heap.size < w101.heap.size := World.block_lt_of_cell? _ _ d2; clear c0 c1 c2 y0 y1)
        refine (l5var_at tx.length _ (by omega)).mono ?_
        rintro e w102 ⟨av102, cv102, rfl, ho, hb⟩
        have o102 : Hid (w102.ownsRow (w.heap.size + 1) 5 1 (.slice av101 (m + 1) cv101) (m + 1) (bcells (Y ++ [1]))) := own_keep o101.out hb
        have r102 : Hid (Rd w102 av102 (var tx.length)) := rd_own ho
        have B102 : Hid (Below (w.heap.size + 1) W0 w102) := B101.out.trans (hb.mono s101)
        have s102 : w.heap.size + 1 ≤ w102.heap.size := Nat.le_trans (by omega) B102.out.size
        replace d2 := cellB d2 hb
        clear ho hb
        go_wp2_with (first | (at_builtin; refine wpList_append_bytes rfl _ _ rfl (w.heap.size + 1) av101 (m + 1) cv101 (Y ++ [1]) rfl o102.out (av102) ((var tx.length).length) (cv102) (var tx.length) rfl (rfl) r102.out (by first | omega | (simp only [List.length_append, List.length_cons, List.length_nil]; omega)) (by first | exact s102 | (simp; omega)) ?_; intro av103 cv103 w103 hA; have B103 : Hid (Below (w.heap.size + 1) W0 w103) := B102.out.trans (hA.below o102.out (by first | exact s102 | (simp; omega))); have s103 : w.heap.size + 1 ≤ w103.heap.size := Nat.le_trans (by omega) B103.out.size; have n103 := hA.out n101 (World.block_lt_of_cell? _ _ d2); replace d2 := hA.cell n101 d2; have o103 : Hid (w103.ownsRow (w.heap.size + 1) 5 1 (.slice av103 (m + 1 + (var tx.length).length) cv103) (m + 1 + (var tx.length).length) (bcells (Y ++ [1] ++ (var tx.length)))) := hA.own; clear hA; have rt : Hid (Rd w103 aX tx) := rdv_rd (HT.out _ (HW0.out.trans (B103.out.mono (by omega))))) | (at_builtin; refine wpList_append_bytes rfl _ _ rfl (w.heap.size + 1) av103 (m + 1 + (var tx.length).length) cv103 (Y ++ [1] ++ (var tx.length)) rfl o103.out (aX) (tx.length) (cX) (tx) rfl (rfl) rt.out (by first | omega | (simp only [List.length_append, List.length_cons, List.length_nil]; omega)) (by first | exact s103 | (simp; omega)) ?_; intro av104 cv104 w104 hA; have B104 : Hid (Below (w.heap.size + 1) W0 w104) := B103.out.trans (hA.below o103.out (by first | exact s103 | (simp; omega))); have s104 : w.heap.size + 1 ≤ w104.heap.size := Nat.le_trans (by omega) B104.out.size; have n104 := hA.out n103 (World.block_lt_of_cell? _ _ d2); have o104 : Hid (w104.ownsRow (w.heap.size + 1) 5 1 (.slice av104 (m + 1 + (var tx.length).length + tx.length) cv104) (m + 1 + (var tx.length).length + tx.length) (bcells (Y ++ [1] ++ (var tx.length) ++ tx))) := hA.own; clear hA))
        go_roundw
        case rel => exact ⟨k + 1, _, cv104, av104, by omega, by go_num, rfl, by rw [HS.out, kc_text]; have := o104.out; simp only [List.append_assoc, List.cons_append, List.nil_append] at this ⊢; exact this, B104.out⟩
        case measure => simp [intOf]; omega
      | false =>
        have d2 : ((wr.alloc (.cells #[.bool false, .int .i64 nn, .slice aX tx.length cX] 40)).alloc (.cells #[.int .u8 0] 5)).cell? ⟨wr.heap.size, 1, none⟩ = some (.int .i64 nn) := cellOld (cellNew rfl)
        have B0 : Hid (Below (w.heap.size + 1) W0 ((wr.alloc (.cells #[.bool false, .int .i64 nn, .slice aX tx.length cX] 40)).alloc (.cells #[.int .u8 0] 5))) := (HB.out.alloc (by omega) _).alloc (by simp; omega) _
        have o0 : Hid (((wr.alloc (.cells #[.bool false, .int .i64 nn, .slice aX tx.length cX] 40)).alloc (.cells #[.int .u8 0] 5)).ownsRow (w.heap.size + 1) 5 1 (.slice av m cv) m (bcells Y)) := (HO.out.alloc _).alloc _
        have r0 : Hid (Rd ((wr.alloc (.cells #[.bool false, .int .i64 nn, .slice aX tx.length cX] 40)).alloc (.cells #[.int .u8 0] 5)) (some ⟨wr.heap.size + 1, 0, none⟩) [0]) := by show Rd _ _ _; have := rd_one (wr.alloc (.cells #[.bool false, .int .i64 nn, .slice aX tx.length cX] 40)) 0; simpa using this
        go_wp2_with (at_builtin; refine wpList_append_bytes rfl _ _ rfl (w.heap.size + 1) av (m) cv (Y) rfl o0.out (some ⟨wr.heap.size + 1, 0, none⟩) (1) (1) ([0]) rfl (rfl) r0.out (by first | omega | (simp only [List.length_append, List.length_cons, List.length_nil]; omega)) (by first | exact (by simp; omega) | (simp; omega)) ?_; intro av105 cv105 w105 hA; have B105 : Hid (Below (w.heap.size + 1) W0 w105) := B0.out.trans (hA.below o0.out (by first | exact (by simp; omega) | (simp; omega))); have s105 : w.heap.size + 1 ≤ w105.heap.size := Nat.le_trans (by omega) B105.out.size; have n105 := hA.out hnb (by simp; omega); replace d2 := hA.cell hnb d2; have o105 : Hid (w105.ownsRow (w.heap.size + 1) 5 1 (.slice av105 (m + 1) cv105) (m + 1) (bcells (Y ++ [0]))) := hA.own; clear hA; have q : wr.heap.size < w105.heap.size := World.block_lt_of_cell? _ _ d2; clear c0 c1 c2 y0 y1)
        refine (l5eight_any nn _).mono ?_
        rintro e w106 ⟨av106, cv106, rfl, ho, hb⟩
        have o106 : Hid (w106.ownsRow (w.heap.size + 1) 5 1 (.slice av105 (m + 1) cv105) (m + 1) (bcells (Y ++ [0]))) := own_keep o105.out hb
        have r106 : Hid (Rd w106 av106 (e8 nn 8)) := rd_own ho
        have B106 : Hid (Below (w.heap.size + 1) W0 w106) := B105.out.trans (hb.mono s105)
        have s106 : w.heap.size + 1 ≤ w106.heap.size := Nat.le_trans (by omega) B106.out.size
        replace d2 := cellB d2 hb
        clear ho hb
        go_wp2_with (at_builtin; refine wpList_append_bytes rfl _ _ rfl (w.heap.size + 1) av105 (m + 1) cv105 (Y ++ [0]) rfl o106.out (av106) (8) (cv106) (e8 nn 8) rfl (e8_len nn 8) r106.out (by first | omega | (simp only [List.length_append, List.length_cons, List.length_nil]; omega)) (by first | exact s106 | (simp; omega)) ?_; intro av107 cv107 w107 hA; have B107 : Hid (Below (w.heap.size + 1) W0 w107) := B106.out.trans (hA.below o106.out (by first | exact s106 | (simp; omega))); have s107 : w.heap.size + 1 ≤ w107.heap.size := Nat.le_trans (by omega) B107.out.size; have n107 := hA.out n105 (World.block_lt_of_cell? _ _ d2); have o107 : Hid (w107.ownsRow (w.heap.size + 1) 5 1 (.slice av107 (m + 1 + 8) cv107) (m + 1 + 8) (bcells (Y ++ [0] ++ (e8 nn 8)))) := hA.own; clear hA)
        go_roundw
        case rel => exact ⟨k + 1, _, cv107, av107, by omega, by go_num, rfl, by rw [HS.out, kc_num]; have := o107.out; simp only [List.append_assoc, List.cons_append, List.nil_append] at this ⊢; exact this, B107.out⟩
        case measure => simp [intOf]; omega
    · have hkn : k = p.consts.length := by omega
      rw [hkn] at HO lk
      obtain ⟨Y, hY⟩ : ∃ Y, Y = [77, 78, 76, 84] ++ var p.consts.length ++ fl kc p.consts p.consts.length := ⟨_, rfl⟩
      rw [← hY] at HO
      have HSV : Hid (save p = Y ++ var p.protos.length ++ fl fc p.protos p.protos.length) := by show _ = _; rw [hY]; rfl
      have hs0 : w.heap.size + 1 ≤ wr.heap.size := by omega
      clear hY hkn
      go_wp2_with fail
      refine (l5var_at p.protos.length _ (by omega)).mono ?_
      rintro e w108 ⟨av108, cv108, rfl, ho, hb⟩
      have o108 : Hid (w108.ownsRow (w.heap.size + 1) 5 1 (.slice av (m) cv) (m) (bcells (Y))) := own_keep HO.out hb
      have r108 : Hid (Rd w108 av108 (var p.protos.length)) := rd_own ho
      have B108 : Hid (Below (w.heap.size + 1) W0 w108) := HB.out.trans (hb.mono hs0)
      have s108 : w.heap.size + 1 ≤ w108.heap.size := Nat.le_trans (by omega) B108.out.size
      clear ho hb
      replace y1 := cellL z1 B108.out (by omega)
      clear y0
      go_wp2_with (at_builtin; refine wpList_append_bytes rfl _ _ rfl (w.heap.size + 1) av (m) cv (Y) rfl o108.out (av108) ((var p.protos.length).length) (cv108) (var p.protos.length) rfl (rfl) r108.out (by first | omega | (simp only [List.length_append, List.length_cons, List.length_nil]; omega)) (by first | exact s108 | (simp; omega)) ?_; intro av109 cv109 w109 hA; have B109 : Hid (Below (w.heap.size + 1) W0 w109) := B108.out.trans (hA.below o108.out (by first | exact s108 | (simp; omega))); have s109 : w.heap.size + 1 ≤ w109.heap.size := Nat.le_trans (by omega) B109.out.size; have o109 : Hid (w109.ownsRow (w.heap.size + 1) 5 1 (.slice av109 (m + (var p.protos.length).length) cv109) (m + (var p.protos.length).length) (bcells (Y ++ (var p.protos.length)))) := hA.own; clear hA; replace y1 := cellL z1 B109.out (by omega))
      go_loopw [3, 6] (fun v x wr => ∃ (k m cv : Nat) (av : Option Addr), k ≤ p.protos.length ∧ x = .int .i64 (k : Int) ∧ v = .slice av m cv ∧ Hid (wr.ownsRow (w.heap.size + 1) 5 1 (.slice av m cv) m (bcells (Y ++ var p.protos.length ++ fl fc p.protos k))) ∧ Hid (Below (w.heap.size + 1) W0 wr)) (fun _ x _ => p.protos.length - (intOf x).toNat)
      case atStart => exact ⟨0, _, cv109, av109, by omega, rfl, rfl, by rw [fl_zero, List.append_nil]; exact o109.out, B109.out⟩
      case round =>
        have hYl : Y.length ≤ 100000000000 := by have := own_len HO.out; omega
        clear HO HB hsr hs0 HBw y1 lk hm o109 B109 s109
        obtain ⟨k, m, cv, av, hk, rfl, rfl, HO, HB⟩ := hrel
        have lk := HLP.out k hk
        have hm : m ≤ 100000000000000 := by
          have := own_len HO.out
          simp only [List.length_append] at this
          omega
        have hsr := HB.out.size
        have hs0 : w.heap.size + 1 ≤ wr.heap.size := by omega
        have y1 := cellL z1 HB.out (by omega)
        have HBw : Hid (Below w.heap.size w wr) := HW0.out.trans (HB.out.mono (by omega))
        by_cases hlt : k < p.protos.length
        · obtain ⟨_, _, eP, _, rP⟩ := HP.out w (Below.refl _ _)
          simp only [Value.slice.injEq] at eP
          obtain ⟨rfl, -, rfl⟩ := eP
          obtain ⟨b, off, uc, ud, rfl, c0', c1', c2', c3', hc, hd⟩ := rP k hlt
          have c0 := cellB c0' HBw.out
          have c1 := cellB c1' HBw.out
          have c2 := cellB c2' HBw.out
          have c3 := cellB c3' HBw.out
          clear rP c0' c1' c2' c3'
          obtain ⟨Z, hZ⟩ : ∃ Z, Z = Y ++ var p.protos.length ++ fl fc p.protos k := ⟨_, rfl⟩
          have HS : Hid (Y ++ var p.protos.length ++ fl fc p.protos (k + 1) = Z ++ fc (p.protos.getD k pr0)) := by show _ = _; rw [hZ, fl_succ pr0 hlt]; simp
          rw [← hZ] at HO
          have hf := HSM.out.protos k hlt
          obtain ⟨hcl, hdl⟩ := HCD.out k hlt
          generalize p.protos.getD k pr0 = d at c0 c1 hc hd HS hf hcl hdl
          obtain ⟨fp, fs, fa, fo⟩ := d
          simp only at c0 c1 hc hd hcl hdl
          have HF : Hid (SmallP ⟨fp, fs, fa, fo⟩) := hf
          obtain ⟨np, rfl⟩ : ∃ n : Nat, fp = (n : Int) := ⟨fp.toNat, by have := hf.p0; simp only at this; omega⟩
          obtain ⟨ns, rfl⟩ : ∃ n : Nat, fs = (n : Int) := ⟨fs.toNat, by have := hf.s0; simp only at this; omega⟩
          have hp2 : np < 2097152 := by have := hf.p1; simp only at this; omega
          have hs2 : ns < 2097152 := by have := hf.s1; simp only at this; omega
          have HE : Hid (fc ⟨(np : Int), (ns : Int), fa, fo⟩ = var np ++ var ns ++ var fa.length ++ fl cc fa fa.length ++ var fo.length ++ fl xc fo fo.length) := by show _ = _; unfold fc; rw [vz_nat, vz_nat]
          have HC : Hid (∀ W, Below w.heap.size w W → RdCV W uc fa) := fun W h => hc.below h
          have HD : Hid (∀ W, Below w.heap.size w W → RdIV W ud fo) := fun W h => hd.below h
          obtain ⟨aC, cC, rfl, _, _⟩ := hc
          obtain ⟨aD, cD, rfl, _, _⟩ := hd
          have hlt' : (k : Int) < (p.protos.length : Int) := by omega
          have l3 := var_len np
          have l4 := var_len ns
          have l5 := var_len fa.length
          have l6 := var_len fo.length
          have l7 := flc_len fa fa.length (Nat.le_refl _)
          have l8 := flx_len fo fo.length (Nat.le_refl _)
          clear hZ hf
          have hnb := own_out HO.out (Nat.le_refl _)
          have d1 : (wr.alloc (.cells #[.int .i64 (np : Int), .int .i64 (ns : Int), .slice aC fa.length cC, .slice aD fo.length cD] 46)).cell? ⟨wr.heap.size, 1, none⟩ = some (.int .i64 (ns : Int)) := cellNew rfl
          have d2 : (wr.alloc (.cells #[.int .i64 (np : Int), .int .i64 (ns : Int), .slice aC fa.length cC, .slice aD fo.length cD] 46)).cell? ⟨wr.heap.size, 2, none⟩ = some (.slice aC fa.length cC) := cellNew rfl
          have d3 : (wr.alloc (.cells #[.int .i64 (np : Int), .int .i64 (ns : Int), .slice aC fa.length cC, .slice aD fo.length cD] 46)).cell? ⟨wr.heap.size, 3, none⟩ = some (.slice aD fo.length cD) := cellNew rfl
          have o0 : Hid ((wr.alloc (.cells #[.int .i64 (np : Int), .int .i64 (ns : Int), .slice aC fa.length cC, .slice aD fo.length cD] 46)).ownsRow (w.heap.size + 1) 5 1 (.slice av m cv) m (bcells Z)) := HO.out.alloc _
          have B0 : Hid (Below (w.heap.size + 1) W0 (wr.alloc (.cells #[.int .i64 (np : Int), .int .i64 (ns : Int), .slice aC fa.length cC, .slice aD fo.length cD] 46))) := HB.out.alloc (by omega) _
          go_wp2_with fail
          refine (l5var_at np _ hp2).mono ?_
          rintro e w110 ⟨av110, cv110, rfl, ho, hb⟩
          have o110 : Hid (w110.ownsRow (w.heap.size + 1) 5 1 (.slice av (m) cv) (m) (bcells (Z))) := own_keep o0.out hb
          have r110 : Hid (Rd w110 av110 (var np)) := rd_own ho
          have B110 : Hid (Below (w.heap.size + 1) W0 w110) := B0.out.trans (hb.mono (by simp; omega))
          have s110 : w.heap.size + 1 ≤ w110.heap.size := Nat.le_trans (by omega) B110.out.size
          replace d1 := cellB d1 hb
          replace d2 := cellB d2 hb
          replace d3 := cellB d3 hb
          clear ho hb
          clear c0 c1 c2 c3 y1
          go_wp2_with (at_builtin; refine wpList_append_bytes rfl _ _ rfl (w.heap.size + 1) av (m) cv (Z) rfl o110.out (av110) ((var np).length) (cv110) (var np) rfl (rfl) r110.out (by first | omega | (simp only [List.length_append, List.length_cons, List.length_nil]; omega)) (by first | exact s110 | (simp; omega)) ?_; intro av111 cv111 w111 hA; have B111 : Hid (Below (w.heap.size + 1) W0 w111) := B110.out.trans (hA.below o110.out (by first | exact s110 | (simp; omega))); have s111 : w.heap.size + 1 ≤ w111.heap.size := Nat.le_trans (by omega) B111.out.size; have n111 := hA.out hnb (World.block_lt_of_cell? _ _ d3); replace d1 := hA.cell hnb d1; replace d2 := hA.cell hnb d2; replace d3 := hA.cell hnb d3; have o111 : Hid (w111.ownsRow (w.heap.size + 1) 5 1 (.slice av111 (m + (var np).length) cv111) (m + (var np).length) (bcells (Z ++ (var np)))) := hA.own; clear hA)
          refine (l5var_at ns _ hs2).mono ?_
          rintro e w112 ⟨av112, cv112, rfl, ho, hb⟩
          have o112 : Hid (w112.ownsRow (w.heap.size + 1) 5 1 (.slice av111 (m + (var np).length) cv111) (m + (var np).length) (bcells (Z ++ (var np)))) := own_keep o111.out hb
          have r112 : Hid (Rd w112 av112 (var ns)) := rd_own ho
          have B112 : Hid (Below (w.heap.size + 1) W0 w112) := B111.out.trans (hb.mono s111)
          have s112 : w.heap.size + 1 ≤ w112.heap.size := Nat.le_trans (by omega) B112.out.size
          replace d1 := cellB d1 hb
          replace d2 := cellB d2 hb
          replace d3 := cellB d3 hb
          clear ho hb
          go_wp2_with (at_builtin; refine wpList_append_bytes rfl _ _ rfl (w.heap.size + 1) av111 (m + (var np).length) cv111 (Z ++ (var np)) rfl o112.out (av112) ((var ns).length) (cv112) (var ns) rfl (rfl) r112.out (by first | omega | (simp only [List.length_append, List.length_cons, List.length_nil]; omega)) (by first | exact s112 | (simp; omega)) ?_; intro av113 cv113 w113 hA; have B113 : Hid (Below (w.heap.size + 1) W0 w113) := B112.out.trans (hA.below o112.out (by first | exact s112 | (simp; omega))); have s113 : w.heap.size + 1 ≤ w113.heap.size := Nat.le_trans (by omega) B113.out.size; have n113 := hA.out n111 (World.block_lt_of_cell? _ _ d3); replace d2 := hA.cell n111 d2; replace d3 := hA.cell n111 d3; have o113 : Hid (w113.ownsRow (w.heap.size + 1) 5 1 (.slice av113 (m + (var np).length + (var ns).length) cv113) (m + (var np).length + (var ns).length) (bcells (Z ++ (var np) ++ (var ns)))) := hA.own; clear hA)
          refine (l5var_at fa.length _ (by omega)).mono ?_
          rintro e w114 ⟨av114, cv114, rfl, ho, hb⟩
          have o114 : Hid (w114.ownsRow (w.heap.size + 1) 5 1 (.slice av113 (m + (var np).length + (var ns).length) cv113) (m + (var np).length + (var ns).length) (bcells (Z ++ (var np) ++ (var ns)))) := own_keep o113.out hb
          have r114 : Hid (Rd w114 av114 (var fa.length)) := rd_own ho
          have B114 : Hid (Below (w.heap.size + 1) W0 w114) := B113.out.trans (hb.mono s113)
          have s114 : w.heap.size + 1 ≤ w114.heap.size := Nat.le_trans (by omega) B114.out.size
          replace d2 := cellB d2 hb
          replace d3 := cellB d3 hb
          clear ho hb
          go_wp2_with (at_builtin; refine wpList_append_bytes rfl _ _ rfl (w.heap.size + 1) av113 (m + (var np).length + (var ns).length) cv113 (Z ++ (var np) ++ (var ns)) rfl o114.out (av114) ((var fa.length).length) (cv114) (var fa.length) rfl (rfl) r114.out (by first | omega | (simp only [List.length_append, List.length_cons, List.length_nil]; omega)) (by first | exact s114 | (simp; omega)) ?_; intro av115 cv115 w115 hA; have B115 : Hid (Below (w.heap.size + 1) W0 w115) := B114.out.trans (hA.below o114.out (by first | exact s114 | (simp; omega))); have s115 : w.heap.size + 1 ≤ w115.heap.size := Nat.le_trans (by omega) B115.out.size; have n115 := hA.out n113 (World.block_lt_of_cell? _ _ d3); replace d2 := hA.cell n113 d2; replace d3 := hA.cell n113 d3; have o115 : Hid (w115.ownsRow (w.heap.size + 1) 5 1 (.slice av115 (m + (var np).length + (var ns).length + (var fa.length).length) cv115) (m + (var np).length + (var ns).length + (var fa.length).length) (bcells (Z ++ (var np) ++ (var ns) ++ (var fa.length)))) := hA.own; clear hA; clear d1)
          obtain ⟨Z1, hZ1⟩ : ∃ Z1, Z1 = Z ++ (var np) ++ (var ns) ++ (var fa.length) := ⟨_, rfl⟩
          have hZ1l : Z1.length ≤ 100000000000100 := by rw [hZ1]; have := own_len HO.out; simp only [List.length_append]; omega
          have HE1 : Hid (Z ++ fc ⟨(np : Int), (ns : Int), fa, fo⟩ = Z1 ++ fl cc fa fa.length ++ var fo.length ++ fl xc fo fo.length) := by show _ = _; rw [HE.out, hZ1]; simp
          rw [← hZ1] at o115
          clear hZ1
          go_loopw [3, 8] (fun v x wq => ∃ (j m cv : Nat) (av : Option Addr), j ≤ fa.length ∧ x = .int .i64 (j : Int) ∧ v = .slice av m cv ∧ Hid (wq.ownsRow (w.heap.size + 1) 5 1 (.slice av m cv) m (bcells (Z1 ++ fl cc fa j))) ∧ Hid (Below (w.heap.size + 1) W0 wq) ∧ (Value.slice av m cv).ownBlock ≠ some wr.heap.size ∧ wq.cell? ⟨wr.heap.size, 2, none⟩ = some (.slice aC fa.length cC) ∧ wq.cell? ⟨wr.heap.size, 3, none⟩ = some (.slice aD fo.length cD)) (fun _ x _ => fa.length - (intOf x).toNat)
          case atStart => exact ⟨0, _, cv115, av115, by omega, rfl, rfl, by rw [fl_zero, List.append_nil]; exact o115.out, B115.out, n115, d2, d3⟩
          case round =>
            rename World => wq
            clear d2 d3
            obtain ⟨j, m, cv, av, hj, rfl, rfl, HO, HB, hnb, d2, d3⟩ := hrel
            have lj := flc_len fa j hj
            have hm : m ≤ 100000010000000 := by
              have := own_len HO.out
              simp only [List.length_append] at this
              omega
            have hsr := HB.out.size
            have hs0 : w.heap.size + 1 ≤ wq.heap.size := by omega
            have HBw : Hid (Below w.heap.size w wq) := HW0.out.trans (HB.out.mono (by omega))
            by_cases hlt : j < fa.length
            · obtain ⟨_, _, eC, _, rC⟩ := HC.out w (Below.refl _ _)
              simp only [Value.slice.injEq] at eC
              obtain ⟨rfl, -, rfl⟩ := eC
              obtain ⟨b, off, rfl, c0', c1'⟩ := rC j hlt
              have c0 := cellB c0' HBw.out
              clear rC
              have HS2 : Hid (Z1 ++ fl cc fa (j + 1) = Z1 ++ fl cc fa j ++ cc (fa.getD j cp0)) := by show _ = _; rw [fl_succ cp0 hlt]; simp
              obtain ⟨hi0, hi1⟩ := HF.out.caps j hlt
              simp only at hi0 hi1
              generalize fa.getD j cp0 = d at c0 c0' c1' HS2 hi0 hi1
              obtain ⟨ub, iz⟩ := d
              simp only at c0 c1' hi0 hi1
              clear c0'
              obtain ⟨z, rfl⟩ : ∃ z : Nat, iz = (z : Int) := ⟨iz.toNat, by omega⟩
              have hz : z < 2097152 := by omega
              have hlt' : (j : Int) < (fa.length : Int) := by omega
              have lz := var_len z
              cases ub with
              | true =>
                have B0 : Hid (Below (w.heap.size + 1) W0 (wq.alloc (.cells #[.int .u8 1] 5))) := HB.out.alloc (by omega) _
                have o0 : Hid ((wq.alloc (.cells #[.int .u8 1] 5)).ownsRow (w.heap.size + 1) 5 1 (.slice av m cv) m (bcells (Z1 ++ fl cc fa j))) := HO.out.alloc _
                have r0 : Hid (Rd (wq.alloc (.cells #[.int .u8 1] 5)) (some ⟨wq.heap.size, 0, none⟩) [1]) := rd_one wq 1
                have a2 := cellOld (o := (.cells #[.int .u8 1] 5)) d2
                have a3 := cellOld (o := (.cells #[.int .u8 1] 5)) d3
                go_wp2_with (at_builtin; refine wpList_append_bytes rfl _ _ rfl (w.heap.size + 1) av (m) cv (Z1 ++ fl cc fa j) rfl o0.out (some ⟨wq.heap.size, 0, none⟩) (1) (1) ([1]) rfl (rfl) r0.out (by first | omega | (simp only [List.length_append, List.length_cons, List.length_nil]; omega)) (by first | exact (by simp; omega) | (simp; omega)) ?_; intro av116 cv116 w116 hA; have B116 : Hid (Below (w.heap.size + 1) W0 w116) := B0.out.trans (hA.below o0.out (by first | exact (by simp; omega) | (simp; omega))); have s116 : w.heap.size + 1 ≤ w116.heap.size := Nat.le_trans (by omega) B116.out.size; have n116 := hA.out hnb (World.block_lt_of_cell? _ _ a3); replace a2 := hA.cell hnb a2; replace a3 := hA.cell hnb a3; have o116 : Hid (w116.ownsRow (w.heap.size + 1) 5 1 (.slice av116 (m + 1) cv116) (m + 1) (bcells (Z1 ++ fl cc fa j ++ [1]))) := hA.own; clear hA; have c1 := cellB c1' (HW0.out.trans (B116.out.mono (show w.heap.size ≤ w.heap.size + 1 by omega))); clear d2 d3 c0)
                refine (l5var_at z _ hz).mono ?_
                rintro e w117 ⟨av117, cv117, rfl, ho, hb⟩
                have o117 : Hid (w117.ownsRow (w.heap.size + 1) 5 1 (.slice av116 (m + 1) cv116) (m + 1) (bcells (Z1 ++ fl cc fa j ++ [1]))) := own_keep o116.out hb
                have r117 : Hid (Rd w117 av117 (var z)) := rd_own ho
                have B117 : Hid (Below (w.heap.size + 1) W0 w117) := B116.out.trans (hb.mono s116)
                have s117 : w.heap.size + 1 ≤ w117.heap.size := Nat.le_trans (by omega) B117.out.size
                replace a2 := cellB a2 hb
                replace a3 := cellB a3 hb
                clear ho hb
                go_wp2_with (at_builtin; refine wpList_append_bytes rfl _ _ rfl (w.heap.size + 1) av116 (m + 1) cv116 (Z1 ++ fl cc fa j ++ [1]) rfl o117.out (av117) ((var z).length) (cv117) (var z) rfl (rfl) r117.out (by first | omega | (simp only [List.length_append, List.length_cons, List.length_nil]; omega)) (by first | exact s117 | (simp; omega)) ?_; intro av118 cv118 w118 hA; have B118 : Hid (Below (w.heap.size + 1) W0 w118) := B117.out.trans (hA.below o117.out (by first | exact s117 | (simp; omega))); have s118 : w.heap.size + 1 ≤ w118.heap.size := Nat.le_trans (by omega) B118.out.size; have n118 := hA.out n116 (World.block_lt_of_cell? _ _ a3); replace a2 := hA.cell n116 a2; replace a3 := hA.cell n116 a3; have o118 : Hid (w118.ownsRow (w.heap.size + 1) 5 1 (.slice av118 (m + 1 + (var z).length) cv118) (m + 1 + (var z).length) (bcells (Z1 ++ fl cc fa j ++ [1] ++ (var z)))) := hA.own; clear hA; clear c1)
                go_roundw
                case rel => exact ⟨j + 1, _, cv118, av118, by omega, by go_num, rfl, by rw [HS2.out, cc_up, vz_nat]; have := o118.out; simp only [List.append_assoc, List.cons_append, List.nil_append] at this ⊢; exact this, B118.out, n118, a2, a3⟩
                case measure => simp [intOf]; omega
              | false =>
                have B0 : Hid (Below (w.heap.size + 1) W0 (wq.alloc (.cells #[.int .u8 0] 5))) := HB.out.alloc (by omega) _
                have o0 : Hid ((wq.alloc (.cells #[.int .u8 0] 5)).ownsRow (w.heap.size + 1) 5 1 (.slice av m cv) m (bcells (Z1 ++ fl cc fa j))) := HO.out.alloc _
                have r0 : Hid (Rd (wq.alloc (.cells #[.int .u8 0] 5)) (some ⟨wq.heap.size, 0, none⟩) [0]) := rd_one wq 0
                have a2 := cellOld (o := (.cells #[.int .u8 0] 5)) d2
                have a3 := cellOld (o := (.cells #[.int .u8 0] 5)) d3
                go_wp2_with (at_builtin; refine wpList_append_bytes rfl _ _ rfl (w.heap.size + 1) av (m) cv (Z1 ++ fl cc fa j) rfl o0.out (some ⟨wq.heap.size, 0, none⟩) (1) (1) ([0]) rfl (rfl) r0.out (by first | omega | (simp only [List.length_append, List.length_cons, List.length_nil]; omega)) (by first | exact (by simp; omega) | (simp; omega)) ?_; intro av119 cv119 w119 hA; have B119 : Hid (Below (w.heap.size + 1) W0 w119) := B0.out.trans (hA.below o0.out (by first | exact (by simp; omega) | (simp; omega))); have s119 : w.heap.size + 1 ≤ w119.heap.size := Nat.le_trans (by omega) B119.out.size; have n119 := hA.out hnb (World.block_lt_of_cell? _ _ a3); replace a2 := hA.cell hnb a2; replace a3 := hA.cell hnb a3; have o119 : Hid (w119.ownsRow (w.heap.size + 1) 5 1 (.slice av119 (m + 1) cv119) (m + 1) (bcells (Z1 ++ fl cc fa j ++ [0]))) := hA.own; clear hA; have c1 := cellB c1' (HW0.out.trans (B119.out.mono (show w.heap.size ≤ w.heap.size + 1 by omega))); clear d2 d3 c0)
                refine (l5var_at z _ hz).mono ?_
                rintro e w120 ⟨av120, cv120, rfl, ho, hb⟩
                have o120 : Hid (w120.ownsRow (w.heap.size + 1) 5 1 (.slice av119 (m + 1) cv119) (m + 1) (bcells (Z1 ++ fl cc fa j ++ [0]))) := own_keep o119.out hb
                have r120 : Hid (Rd w120 av120 (var z)) := rd_own ho
                have B120 : Hid (Below (w.heap.size + 1) W0 w120) := B119.out.trans (hb.mono s119)
                have s120 : w.heap.size + 1 ≤ w120.heap.size := Nat.le_trans (by omega) B120.out.size
                replace a2 := cellB a2 hb
                replace a3 := cellB a3 hb
                clear ho hb
                go_wp2_with (at_builtin; refine wpList_append_bytes rfl _ _ rfl (w.heap.size + 1) av119 (m + 1) cv119 (Z1 ++ fl cc fa j ++ [0]) rfl o120.out (av120) ((var z).length) (cv120) (var z) rfl (rfl) r120.out (by first | omega | (simp only [List.length_append, List.length_cons, List.length_nil]; omega)) (by first | exact s120 | (simp; omega)) ?_; intro av121 cv121 w121 hA; have B121 : Hid (Below (w.heap.size + 1) W0 w121) := B120.out.trans (hA.below o120.out (by first | exact s120 | (simp; omega))); have s121 : w.heap.size + 1 ≤ w121.heap.size := Nat.le_trans (by omega) B121.out.size; have n121 := hA.out n119 (World.block_lt_of_cell? _ _ a3); replace a2 := hA.cell n119 a2; replace a3 := hA.cell n119 a3; have o121 : Hid (w121.ownsRow (w.heap.size + 1) 5 1 (.slice av121 (m + 1 + (var z).length) cv121) (m + 1 + (var z).length) (bcells (Z1 ++ fl cc fa j ++ [0] ++ (var z)))) := hA.own; clear hA; clear c1)
                go_roundw
                case rel => exact ⟨j + 1, _, cv121, av121, by omega, by go_num, rfl, by rw [HS2.out, cc_no, vz_nat]; have := o121.out; simp only [List.append_assoc, List.cons_append, List.nil_append] at this ⊢; exact this, B121.out, n121, a2, a3⟩
                case measure => simp [intOf]; omega
            · have hjn : j = fa.length := by omega
              rw [hjn] at HO lj
              obtain ⟨Z2, hZ2⟩ : ∃ Z2, Z2 = Z1 ++ fl cc fa fa.length := ⟨_, rfl⟩
              have HE2 : Hid (Z ++ fc ⟨(np : Int), (ns : Int), fa, fo⟩ = Z2 ++ var fo.length ++ fl xc fo fo.length) := by show _ = _; rw [HE1.out, hZ2]
              rw [← hZ2] at HO
              clear hZ2 hjn
              go_wp2_with fail
              refine (l5var_at fo.length _ (by omega)).mono ?_
              rintro e w122 ⟨av122, cv122, rfl, ho, hb⟩
              have o122 : Hid (w122.ownsRow (w.heap.size + 1) 5 1 (.slice av (m) cv) (m) (bcells (Z2))) := own_keep HO.out hb
              have r122 : Hid (Rd w122 av122 (var fo.length)) := rd_own ho
              have B122 : Hid (Below (w.heap.size + 1) W0 w122) := HB.out.trans (hb.mono hs0)
              have s122 : w.heap.size + 1 ≤ w122.heap.size := Nat.le_trans (by omega) B122.out.size
              replace d3 := cellB d3 hb
              clear ho hb
              clear d2
              go_wp2_with (at_builtin; refine wpList_append_bytes rfl _ _ rfl (w.heap.size + 1) av (m) cv (Z2) rfl o122.out (av122) ((var fo.length).length) (cv122) (var fo.length) rfl (rfl) r122.out (by first | omega | (simp only [List.length_append, List.length_cons, List.length_nil]; omega)) (by first | exact s122 | (simp; omega)) ?_; intro av123 cv123 w123 hA; have B123 : Hid (Below (w.heap.size + 1) W0 w123) := B122.out.trans (hA.below o122.out (by first | exact s122 | (simp; omega))); have s123 : w.heap.size + 1 ≤ w123.heap.size := Nat.le_trans (by omega) B123.out.size; have n123 := hA.out hnb (World.block_lt_of_cell? _ _ d3); replace d3 := hA.cell hnb d3; have o123 : Hid (w123.ownsRow (w.heap.size + 1) 5 1 (.slice av123 (m + (var fo.length).length) cv123) (m + (var fo.length).length) (bcells (Z2 ++ (var fo.length)))) := hA.own; clear hA)
              have hZ2l : Z2.length ≤ 100000020000000 := by have := own_len HO.out; omega
              go_loopw [3, 10] (fun v x wq => ∃ (i m cv : Nat) (av : Option Addr), i ≤ fo.length ∧ x = .int .i64 (i : Int) ∧ v = .slice av m cv ∧ Hid (wq.ownsRow (w.heap.size + 1) 5 1 (.slice av m cv) m (bcells (Z2 ++ var fo.length ++ fl xc fo i))) ∧ Hid (Below (w.heap.size + 1) W0 wq) ∧ (Value.slice av m cv).ownBlock ≠ some wr.heap.size ∧ wq.cell? ⟨wr.heap.size, 3, none⟩ = some (.slice aD fo.length cD)) (fun _ x _ => fo.length - (intOf x).toNat)
              case atStart => exact ⟨0, _, cv123, av123, by omega, rfl, rfl, by rw [fl_zero, List.append_nil]; exact o123.out, B123.out, n123, d3⟩
              case round =>
                rename World => wi
                clear d3
                obtain ⟨i, m, cv, av, hi, rfl, rfl, HO, HB, hnb, d3⟩ := hrel
                have li := flx_len fo i hi
                have hm : m ≤ 100000040000000 := by
                  have := own_len HO.out
                  simp only [List.length_append] at this
                  omega
                have hsr := HB.out.size
                have hs0 : w.heap.size + 1 ≤ wi.heap.size := by omega
                have HBw : Hid (Below w.heap.size w wi) := HW0.out.trans (HB.out.mono (by omega))
                by_cases hlt : i < fo.length
                · obtain ⟨_, _, eD, _, rD⟩ := HD.out w (Below.refl _ _)
                  simp only [Value.slice.injEq] at eD
                  obtain ⟨rfl, -, rfl⟩ := eD
                  obtain ⟨b, off, rfl, c0', c1', c2'⟩ := rD i hlt
                  have c0 := cellB c0' HBw.out
                  clear rD
                  have HS2 : Hid (Z2 ++ var fo.length ++ fl xc fo (i + 1) = Z2 ++ var fo.length ++ fl xc fo i ++ xc (fo.getD i in0)) := by show _ = _; rw [fl_succ in0 hlt]; simp
                  obtain ⟨ho0, ho1, ha0, ha1, hb0, hb1⟩ := HF.out.code i hlt
                  simp only at ho0 ho1 ha0 ha1 hb0 hb1
                  generalize fo.getD i in0 = d at c0 c0' c1' c2' HS2 ho0 ho1 ha0 ha1 hb0 hb1
                  obtain ⟨op, az, bz⟩ := d
                  simp only at c0 c1' c2' ho0 ho1 ha0 ha1 hb0 hb1
                  obtain ⟨za, rfl⟩ : ∃ z : Nat, az = (z : Int) := ⟨az.toNat, by omega⟩
                  obtain ⟨zb, rfl⟩ : ∃ z : Nat, bz = (z : Int) := ⟨bz.toNat, by omega⟩
                  have hza : za < 2097152 := by omega
                  have hzb : zb < 2097152 := by omega
                  have hlt' : (i : Int) < (fo.length : Int) := by omega
                  have lza := var_len za
                  have lzb := var_len zb
                  clear c0' ha0 ha1 hb0 hb1
                  have B0 : Hid (Below (w.heap.size + 1) W0 (wi.alloc (.cells #[.int .u8 op] 5))) := HB.out.alloc (by omega) _
                  have o0 : Hid ((wi.alloc (.cells #[.int .u8 op] 5)).ownsRow (w.heap.size + 1) 5 1 (.slice av m cv) m (bcells (Z2 ++ var fo.length ++ fl xc fo i))) := HO.out.alloc _
                  have r0 : Hid (Rd (wi.alloc (.cells #[.int .u8 op] 5)) (some ⟨wi.heap.size, 0, none⟩) [op]) := rd_one wi op
                  have a3 := cellOld (o := (.cells #[.int .u8 op] 5)) d3
                  go_wp2_with (at_builtin; refine wpList_append_bytes rfl _ _ rfl (w.heap.size + 1) av (m) cv (Z2 ++ var fo.length ++ fl xc fo i) rfl o0.out (some ⟨wi.heap.size, 0, none⟩) (1) (1) ([op]) rfl (rfl) r0.out (by first | omega | (simp only [List.length_append, List.length_cons, List.length_nil]; omega)) (by first | exact (by simp; omega) | (simp; omega)) ?_; intro av124 cv124 w124 hA; have B124 : Hid (Below (w.heap.size + 1) W0 w124) := B0.out.trans (hA.below o0.out (by first | exact (by simp; omega) | (simp; omega))); have s124 : w.heap.size + 1 ≤ w124.heap.size := Nat.le_trans (by omega) B124.out.size; have n124 := hA.out hnb (World.block_lt_of_cell? _ _ a3); replace a3 := hA.cell hnb a3; have o124 : Hid (w124.ownsRow (w.heap.size + 1) 5 1 (.slice av124 (m + 1) cv124) (m + 1) (bcells (Z2 ++ var fo.length ++ fl xc fo i ++ [op]))) := hA.own; clear hA; have c1 := cellB c1' (HW0.out.trans (B124.out.mono (show w.heap.size ≤ w.heap.size + 1 by omega))); clear d3 c0)
                  refine (l5var_at za _ hza).mono ?_
                  rintro e w125 ⟨av125, cv125, rfl, ho, hb⟩
                  have o125 : Hid (w125.ownsRow (w.heap.size + 1) 5 1 (.slice av124 (m + 1) cv124) (m + 1) (bcells (Z2 ++ var fo.length ++ fl xc fo i ++ [op]))) := own_keep o124.out hb
                  have r125 : Hid (Rd w125 av125 (var za)) := rd_own ho
                  have B125 : Hid (Below (w.heap.size + 1) W0 w125) := B124.out.trans (hb.mono s124)
                  have s125 : w.heap.size + 1 ≤ w125.heap.size := Nat.le_trans (by omega) B125.out.size
                  replace a3 := cellB a3 hb
                  clear ho hb
                  go_wp2_with (at_builtin; refine wpList_append_bytes rfl _ _ rfl (w.heap.size + 1) av124 (m + 1) cv124 (Z2 ++ var fo.length ++ fl xc fo i ++ [op]) rfl o125.out (av125) ((var za).length) (cv125) (var za) rfl (rfl) r125.out (by first | omega | (simp only [List.length_append, List.length_cons, List.length_nil]; omega)) (by first | exact s125 | (simp; omega)) ?_; intro av126 cv126 w126 hA; have B126 : Hid (Below (w.heap.size + 1) W0 w126) := B125.out.trans (hA.below o125.out (by first | exact s125 | (simp; omega))); have s126 : w.heap.size + 1 ≤ w126.heap.size := Nat.le_trans (by omega) B126.out.size; have n126 := hA.out n124 (World.block_lt_of_cell? _ _ a3); replace a3 := hA.cell n124 a3; have o126 : Hid (w126.ownsRow (w.heap.size + 1) 5 1 (.slice av126 (m + 1 + (var za).length) cv126) (m + 1 + (var za).length) (bcells (Z2 ++ var fo.length ++ fl xc fo i ++ [op] ++ (var za)))) := hA.own; clear hA; have c2 := cellB c2' (HW0.out.trans (B126.out.mono (show w.heap.size ≤ w.heap.size + 1 by omega))); clear c1)
                  refine (l5var_at zb _ hzb).mono ?_
                  rintro e w127 ⟨av127, cv127, rfl, ho, hb⟩
                  have o127 : Hid (w127.ownsRow (w.heap.size + 1) 5 1 (.slice av126 (m + 1 + (var za).length) cv126) (m + 1 + (var za).length) (bcells (Z2 ++ var fo.length ++ fl xc fo i ++ [op] ++ (var za)))) := own_keep o126.out hb
                  have r127 : Hid (Rd w127 av127 (var zb)) := rd_own ho
                  have B127 : Hid (Below (w.heap.size + 1) W0 w127) := B126.out.trans (hb.mono s126)
                  have s127 : w.heap.size + 1 ≤ w127.heap.size := Nat.le_trans (by omega) B127.out.size
                  replace a3 := cellB a3 hb
                  clear ho hb
                  go_wp2_with (at_builtin; refine wpList_append_bytes rfl _ _ rfl (w.heap.size + 1) av126 (m + 1 + (var za).length) cv126 (Z2 ++ var fo.length ++ fl xc fo i ++ [op] ++ (var za)) rfl o127.out (av127) ((var zb).length) (cv127) (var zb) rfl (rfl) r127.out (by first | omega | (simp only [List.length_append, List.length_cons, List.length_nil]; omega)) (by first | exact s127 | (simp; omega)) ?_; intro av128 cv128 w128 hA; have B128 : Hid (Below (w.heap.size + 1) W0 w128) := B127.out.trans (hA.below o127.out (by first | exact s127 | (simp; omega))); have s128 : w.heap.size + 1 ≤ w128.heap.size := Nat.le_trans (by omega) B128.out.size; have n128 := hA.out n126 (World.block_lt_of_cell? _ _ a3); replace a3 := hA.cell n126 a3; have o128 : Hid (w128.ownsRow (w.heap.size + 1) 5 1 (.slice av128 (m + 1 + (var za).length + (var zb).length) cv128) (m + 1 + (var za).length + (var zb).length) (bcells (Z2 ++ var fo.length ++ fl xc fo i ++ [op] ++ (var za) ++ (var zb)))) := hA.own; clear hA; clear c2)
                  go_roundw
                  case rel => exact ⟨i + 1, _, cv128, av128, by omega, by go_num, rfl, by rw [HS2.out]; unfold xc; simp only [vz_nat]; have := o128.out; simp only [List.append_assoc, List.cons_append, List.nil_append] at this ⊢; exact this, B128.out, n128, a3⟩
                  case measure => simp [intOf]; omega
                · have hin : i = fo.length := by omega
                  rw [hin] at HO
                  have HO2 : Hid (wi.ownsRow (w.heap.size + 1) 5 1 (.slice av m cv) m (bcells (Y ++ var p.protos.length ++ fl fc p.protos (k + 1)))) := by show World.ownsRow _ _ _ _ _ _ _; rw [HS.out, HE2.out]; exact HO.out
                  clear hin HO
                  go_wp2
                  go_roundw
                  case rel => exact ⟨k + 1, m, cv, av, by omega, by go_num, rfl, HO2.out, HB.out⟩
                  case measure => simp [intOf]; omega
        · have hkn : k = p.protos.length := by omega
          rw [hkn, ← HSV.out] at HO
          have hml := own_len HO.out
          subst hml
          clear hkn
          go_wp2
          go_returns
          exact ⟨av, cv, rfl, own_weaken HO.out (by omega), HBw.out⟩
end Go.Proofs.YteagakplhfiodaaDoor.sv
